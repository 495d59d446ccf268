/- The law BuildAgain, walked. -/
import Derived.Test.YtgamccijegollaaGreatDoorFNAAX
import Derived.Test.YtgamccijegollaaGreatDoorFNAAZ
set_option linter.unusedSimpArgs false
set_option linter.unusedVariables false
namespace Go.Proofs.YtgamccijegollaaGreatDoor.Laws
open Go.RowKit Go.Proofs.YtgamccijegollaaGreatDoor.Base Go.Proofs.YtgamccijegollaaGreatDoor.Dp Go.Proofs.YtgamccijegollaaGreatDoor.mW Go.Proofs.YtgamccijegollaaGreatDoor.wS Go.Proofs.YtgamccijegollaaGreatDoor.tK Go.Proofs.YtgamccijegollaaGreatDoor.UG Go.Proofs.YtgamccijegollaaGreatDoor.rC Go.Proofs.YtgamccijegollaaGreatDoor.qg Go.Proofs.YtgamccijegollaaGreatDoor.oG Go.Proofs.YtgamccijegollaaGreatDoor.JY Go.Proofs.YtgamccijegollaaGreatDoor.acs Go.Proofs.YtgamccijegollaaGreatDoor.agJ Go.Proofs.YtgamccijegollaaGreatDoor.aji Go.Proofs.YtgamccijegollaaGreatDoor.BuiQ
open Go.Proofs.YtgamccijegollaaGreatDoor.jQ (oI)
open Go.Proofs.YtgamccijegollaaGreatDoor.pO (Max)
open Go.Proofs.YtgamccijegollaaGreatDoor.vZ (rD)
open Go.Proofs.YtgamccijegollaaGreatDoor.oG (B3)
open Go.Proofs.YtgamccijegollaaGreatDoor.sV (dS)
open Go.Proofs.YtgamccijegollaaGreatDoor.wo (Bl)
set_option linter.unusedSimpArgs false
set_option linter.unusedVariables false
set_option maxRecDepth 100000 in
set_option maxHeartbeats 8000000 in
theorem apN (s0 : ByteArray) (b1 : Bool) (w : World) (h0 : s0.size ≤ 140737488351232) (hT : Tab.Pow w) (hL : oI w) (hM : Max w) (hU : rD w) : Calls Tryz.prog 7 #[.string s0, .bool b1] w fun e w' => e = .returned (.bool true) ∧ Below w.heap.size w w' := by
  have HE := hid (⟨hT, hL, hM, hU⟩ : Env w)
  have JM : Hid (∀ w : World, Env w → Calls Tryz.prog 32 #[] w fun e w' => e = .returned (.bool true) ∧ Below w.heap.size w w') := fun w E => ajj.UN w E
  clear hT hL hM hU
  obtain ⟨L, rfl⟩ : ∃ L, s0 = strOf L := ⟨s0.data.toList, (aG s0).symm⟩
  rw [o9] at h0
  by_cases hl : L.length ≤ 1000
  · have hli : ¬ (1000 : Int) < ((strOf L).size : Int) := by rw [o9]; omega
    cases ho : wS.url L none with
    | none =>
      obtain ⟨u, hu0⟩ : ∃ u, u = U0 := ⟨_, rfl⟩
      obtain ⟨⟨M, B⟩, ha⟩ : ∃ v, Ig u = v := ⟨_, rfl⟩
      obtain ⟨er, her⟩ : ∃ z, aai u = z := ⟨_, rfl⟩
      obtain ⟨nb, hnb⟩ : ∃ k, k = B.length := ⟨_, rfl⟩
      have hB0 : B = [] := ai6 ha (by rw [hu0]; exact aqb)
      have HNB : Hid (nb = 0) := by show _ = _; rw [hnb, hB0]; rfl
      have ao9 := aqc
      rw [← hu0] at ao9
      have yc : Hid (∀ w : World, Env w → Calls Tryz.prog 16 #[.string (strOf L), .pointer none] w fun e w' => ∃ A' n' c', e = .returned (.tuple #[.agg #[.string (strOf u.au), .string (strOf u.usr), .string (strOf u.MX), .string (strOf u.hst), .bool u.hh, .int .i64 u.port, .bool u.opq, .string (strOf u.txt), .slice A' n' c', .bool u.hq, .bool u.hf, .string (strOf u.dY), .string (strOf u.fB)], .int .i64 2]) ∧ Pt w' u A' n' c' ∧ Below w.heap.size w w') := fun w E => GZ (T := strOf L) hu0 ho (by rw [o9]; omega) w E
      have HF1 : Hid (∀ (w : World) (A : Option Addr) (n c : Nat), Pt w u A n c → Sh u n c ∧ Rs w A n u.aO) := fun w A n c k => ⟨agl ao9 (by omega) k, ⟨k.aO.1⟩⟩
      have HC1 : Hid (∀ (A : Option Addr) (n c : Nat), Sh u n c → ∀ w : World, Rs w A n u.aO → Env w → Calls Tryz.prog 27 #[.agg #[.string (strOf u.au), .string (strOf u.usr), .string (strOf u.MX), .string (strOf u.hst), .bool u.hh, .int .i64 u.port, .bool u.opq, .string (strOf u.txt), .slice A n c, .bool u.hq, .bool u.hf, .string (strOf u.dY), .string (strOf u.fB)]] w fun e w' => (∃ A1 c1 A2 c2, e = .returned (.tuple #[.agg #[.string (strOf M.ty), .string (strOf M.sub), .slice A1 M.ps.length c1], .slice A2 nb c2, .int .i64 er]) ∧ Mp w' M A1 c1 ∧ aY w' A2 nb (ah B) ∧ nb ≤ c2) ∧ Below w.heap.size w w') := fun A n c hS w hR E => by
        have k := EW hS w hR E
        rw [ha, her] at k
        rw [hnb]
        exact k.mono fun e w' ⟨⟨A1, c1, A2, c2, h1, h2, h3⟩, h4⟩ => ⟨⟨A1, c1, A2, c2, h1, h2, h3.zB, h3.nc⟩, h4⟩
      clear ho hl h0 hu0 ha her hnb hB0 ao9
      go_enter Tryz.func7, Tryz.ntmps7
      go_wp2_with fail
      refine (JM.out _ HE.out).mono ?_
      rintro e w1 ⟨rfl, hb⟩
      have HB1 := hid hb
      have sO := hid (HE.out.below hb)
      clear hb
      go_wp2_with fail
      refine (yc.out _ sO.out).mono ?_
      rintro e w2 ⟨Aa1, na1, ca1, rfl, hpt, hb⟩
      have HB2 := hid (bel HB1.out hb)
      have xY := hid (sO.out.below hb)
      clear hb
      have PT := hid (hpt)
      clear hpt
      go_upto_region 4 with (fail)
      generalize bI : World.alloc _ _ = v3
      have hxa : UB v3 (w2.heap.size) u (.slice Aa1 na1 ca1) := by rw [← bI]; exact heap_alloc_new _ _
      have hb : Below w2.heap.size w2 v3 := by rw [← bI]; exact (Below.refl _ _).alloc (Nat.le_refl _) _
      have XU := hid hxa
      clear bI hxa
      have HB3 := hid (bel HB2.out hb)
      have vV := hid (xY.out.below hb)
      have adT := hid (PT.out.below hb)
      clear hb
      obtain ⟨hS, hR⟩ := HF1.out _ _ _ _ adT.out
      have aeZ := hid hS
      have HRa := hid hR
      clear hS hR
      obtain ⟨k0, k1, k2, k3, k4, k5, k6, k7, k8, k9, k10, k11, k12⟩ := XU.out.facts
      go_wp2_with fail
      clear k0 k1 k2 k3 k4 k5 k6 k7 k8 k9 k10 k11 k12
      refine (HC1.out _ _ _ aeZ.out _ HRa.out vV.out).mono ?_
      rintro e w4 ⟨⟨Ab1, cb1, Ac1, cc1, rfl, hmp, hbp, hnc⟩, hb⟩
      have HB4 := hid (bel HB3.out hb)
      have Hw := hid (vV.out.below hb)
      have agK := hid (adT.out.below hb)
      have agL := hid (XU.out.below hb)
      clear hb
      have M3 := hid (hmp)
      have B4 := hid (hbp)
      have alK := hid hnc
      clear hmp hbp hnc HRa
      go_upto_region 5 with (fail)
      generalize bI : World.alloc _ _ = v5
      have hxa : B3 44 v5 (w4.heap.size) (.string (strOf M.ty)) (.string (strOf M.sub)) (.slice Ab1 M.ps.length cb1) := by rw [← bI]; exact heap_alloc_new _ _
      have hb : Below w4.heap.size w4 v5 := by rw [← bI]; exact (Below.refl _ _).alloc (Nat.le_refl _) _
      have XM := hid hxa
      clear bI hxa
      have iG := hid (bel HB4.out hb)
      have Uu := hid (Hw.out.below hb)
      have afe := hid (agK.out.below hb)
      have aor := hid (agL.out.below hb)
      have afB := hid (M3.out.below hb)
      have afC := hid (B4.out.below hb)
      clear hb
      have hnb0 : ((nb : Int) == 0) = true := by rw [HNB.out]; rfl
      go_wp2
      go_ret
      exact ⟨rfl, iG.out⟩
    | some u =>
      have hfit := oN.AZ (M := 0) ho (fun _ e => by cases e)
      have hbl : (Bl u).length ≤ 16000 := by
        have h1 := hfit.all
        unfold oN.pl at h1
        have := PI (u := u) (N := 15300) (by omega) (by have := hfit.lo; omega) (by have := hfit.hi; omega)
        omega
      obtain ⟨⟨M, B⟩, ha⟩ : ∃ v, Ig u = v := ⟨_, rfl⟩
      obtain ⟨nb, hnb⟩ : ∃ k, k = B.length := ⟨_, rfl⟩
      have yc : Hid (∀ w : World, Env w → Calls Tryz.prog 16 #[.string (strOf L), .pointer none] w fun e w' => ∃ A' n' c', e = .returned (.tuple #[.agg #[.string (strOf u.au), .string (strOf u.usr), .string (strOf u.MX), .string (strOf u.hst), .bool u.hh, .int .i64 u.port, .bool u.opq, .string (strOf u.txt), .slice A' n' c', .bool u.hq, .bool u.hf, .string (strOf u.dY), .string (strOf u.fB)], .int .i64 0]) ∧ Pt w' u A' n' c' ∧ Below w.heap.size w w') := fun w E => jB (T := strOf L) ho (by rw [o9]; omega) w E
      have HF1 : Hid (∀ (w : World) (A : Option Addr) (n c : Nat), Pt w u A n c → Sh u n c ∧ Rs w A n u.aO) := fun w A n c k => ⟨agl hfit (by omega) k, ⟨k.aO.1⟩⟩
      by_cases her : aai u = 0
      · have HC1 : Hid (∀ (A : Option Addr) (n c : Nat), Sh u n c → ∀ w : World, Rs w A n u.aO → Env w → Calls Tryz.prog 27 #[.agg #[.string (strOf u.au), .string (strOf u.usr), .string (strOf u.MX), .string (strOf u.hst), .bool u.hh, .int .i64 u.port, .bool u.opq, .string (strOf u.txt), .slice A n c, .bool u.hq, .bool u.hf, .string (strOf u.dY), .string (strOf u.fB)]] w fun e w' => (∃ A1 c1 A2 c2, e = .returned (.tuple #[.agg #[.string (strOf M.ty), .string (strOf M.sub), .slice A1 M.ps.length c1], .slice A2 nb c2, .int .i64 0]) ∧ Mp w' M A1 c1 ∧ aY w' A2 nb (ah B) ∧ nb ≤ c2) ∧ Below w.heap.size w w') := fun A n c hS w hR E => by
          have k := EW hS w hR E
          rw [ha, her] at k
          rw [hnb]
          exact k.mono fun e w' ⟨⟨A1, c1, A2, c2, h1, h2, h3⟩, h4⟩ => ⟨⟨A1, c1, A2, c2, h1, h2, h3.zB, h3.nc⟩, h4⟩
        obtain ⟨hmk, _, _⟩ := aoA b1 hbl ha her
        rcases apm b1 hbl ha her with ⟨v, hbd, hv, hv2, hv3⟩ | ⟨hbd, hsn⟩
        · obtain ⟨X, hX⟩ : ∃ X, X = strOf (mk b1 M B) := ⟨_, rfl⟩
          rw [show mk b1 M B = X.data.toList by rw [hX]; rfl] at hv
          have HBU : Hid (∀ (n c : Nat), Sh u n c → ∀ (A : Option Addr) (c1 : Nat) (A2 : Option Addr) (c2 : Nat) (w : World), Mp w M A c1 → aY w A2 nb (ah B) → nb ≤ c2 → Env w → Calls Tryz.prog 33 #[.agg #[.string (strOf M.ty), .string (strOf M.sub), .slice A M.ps.length c1], .slice A2 nb c2, .bool b1] w fun e w' => e = .returned (.tuple #[.string X, .int .i64 0]) ∧ Below w.heap.size w w') := fun n c hS A c1 A2 c2 w h1 h2 h3 E => by
            have k := aoB b1 hS hbl ha her A c1 A2 nb c2 w h1 h2 h3 E
            rw [hbd] at k
            rw [hX]; exact k
          have HP2 : Hid (∀ w : World, Env w → Calls Tryz.prog 16 #[.string X, .pointer none] w fun e w' => ∃ A' n' c', e = .returned (.tuple #[.agg #[.string (strOf v.au), .string (strOf v.usr), .string (strOf v.MX), .string (strOf v.hst), .bool v.hh, .int .i64 v.port, .bool v.opq, .string (strOf v.txt), .slice A' n' c', .bool v.hq, .bool v.hf, .string (strOf v.dY), .string (strOf v.fB)], .int .i64 0]) ∧ Pt w' v A' n' c' ∧ Below w.heap.size w w') := fun w E => jB (T := X) hv (by rw [hX, o9]; omega) w E
          have HF2 : Hid (∀ (w : World) (A : Option Addr) (n c : Nat), Pt w v A n c → Sh v n c ∧ Rs w A n v.aO) := fun w A n c k => ⟨agl (oN.AZ (M := 0) hv (fun _ e => by cases e)) (by rw [hX, Ce.dl, o9]; omega) k, ⟨k.aO.1⟩⟩
          have HC2 : Hid (∀ (A : Option Addr) (n c : Nat), Sh v n c → ∀ w : World, Rs w A n v.aO → Env w → Calls Tryz.prog 27 #[.agg #[.string (strOf v.au), .string (strOf v.usr), .string (strOf v.MX), .string (strOf v.hst), .bool v.hh, .int .i64 v.port, .bool v.opq, .string (strOf v.txt), .slice A n c, .bool v.hq, .bool v.hf, .string (strOf v.dY), .string (strOf v.fB)]] w fun e w' => (∃ A1 c1 A2 c2, e = .returned (.tuple #[.agg #[.string (strOf M.ty), .string (strOf M.sub), .slice A1 M.ps.length c1], .slice A2 nb c2, .int .i64 0]) ∧ Mp w' M A1 c1 ∧ aY w' A2 nb (ah B) ∧ nb ≤ c2) ∧ Below w.heap.size w w') := fun A n c hS w hR E => by
            have k := EW hS w hR E
            rw [hv3, hv2] at k
            rw [hnb]
            exact k.mono fun e w' ⟨⟨A1, c1, A2, c2, h1, h2, h3⟩, h4⟩ => ⟨⟨A1, c1, A2, c2, h1, h2, h3.zB, h3.nc⟩, h4⟩
          have JO : Hid (∀ (A A2 : Option Addr) (c c2 : Nat) (w : World), Mp w M A c → Mp w M A2 c2 → Calls Tryz.prog 35 #[.agg #[.string (strOf M.ty), .string (strOf M.sub), .slice A M.ps.length c], .agg #[.string (strOf M.ty), .string (strOf M.sub), .slice A2 M.ps.length c2]] w fun e w' => e = .returned (.bool true) ∧ Below w.heap.size w w') := fun A A2 c c2 w h k => by
            have h1 := J7.JA (strOf M.ty) (strOf M.sub) A M.ps.length c (nY M.ps) (strOf M.ty) (strOf M.sub) A2 M.ps.length c2 (nY M.ps) w h.prm k.prm h.nc h.cm k.nc k.cm
            rw [OY.Ls] at h1
            exact h1
          obtain ⟨SL, hSL⟩ : ∃ S, S = strOf B := ⟨_, rfl⟩
          have HSL := hid hSL
          have qs : (SL.toList == SL.toList) = true := beq_self_eq_true _
          have qn : (SL.toList != SL.toList) = false := by simp
          clear ho hl h0 ha her hnb hfit hbl hmk hbd hv hv2 hv3 hX hSL
          go_enter Tryz.func7, Tryz.ntmps7
          go_wp2_with fail
          refine (JM.out _ HE.out).mono ?_
          rintro e w1 ⟨rfl, hb⟩
          have HB1 := hid hb
          have sO := hid (HE.out.below hb)
          clear hb
          go_wp2_with fail
          refine (yc.out _ sO.out).mono ?_
          rintro e w2 ⟨Aa1, na1, ca1, rfl, hpt, hb⟩
          have HB2 := hid (bel HB1.out hb)
          have xY := hid (sO.out.below hb)
          clear hb
          have PT := hid (hpt)
          clear hpt
          go_upto_region 4 with (fail)
          generalize bI : World.alloc _ _ = v3
          have hxa : UB v3 (w2.heap.size) u (.slice Aa1 na1 ca1) := by rw [← bI]; exact heap_alloc_new _ _
          have hb : Below w2.heap.size w2 v3 := by rw [← bI]; exact (Below.refl _ _).alloc (Nat.le_refl _) _
          have XU := hid hxa
          clear bI hxa
          have HB3 := hid (bel HB2.out hb)
          have vV := hid (xY.out.below hb)
          have adT := hid (PT.out.below hb)
          clear hb
          obtain ⟨hS, hR⟩ := HF1.out _ _ _ _ adT.out
          have aeZ := hid hS
          have HRa := hid hR
          clear hS hR
          obtain ⟨k0, k1, k2, k3, k4, k5, k6, k7, k8, k9, k10, k11, k12⟩ := XU.out.facts
          go_wp2_with fail
          clear k0 k1 k2 k3 k4 k5 k6 k7 k8 k9 k10 k11 k12
          refine (HC1.out _ _ _ aeZ.out _ HRa.out vV.out).mono ?_
          rintro e w4 ⟨⟨Ab1, cb1, Ac1, cc1, rfl, hmp, hbp, hnc⟩, hb⟩
          have HB4 := hid (bel HB3.out hb)
          have Hw := hid (vV.out.below hb)
          have agK := hid (adT.out.below hb)
          have agL := hid (XU.out.below hb)
          clear hb
          have M3 := hid (hmp)
          have B4 := hid (hbp)
          have alK := hid hnc
          clear hmp hbp hnc HRa
          go_upto_region 5 with (fail)
          generalize bI : World.alloc _ _ = v5
          have hxa : B3 44 v5 (w4.heap.size) (.string (strOf M.ty)) (.string (strOf M.sub)) (.slice Ab1 M.ps.length cb1) := by rw [← bI]; exact heap_alloc_new _ _
          have hb : Below w4.heap.size w4 v5 := by rw [← bI]; exact (Below.refl _ _).alloc (Nat.le_refl _) _
          have XM := hid hxa
          clear bI hxa
          have iG := hid (bel HB4.out hb)
          have Uu := hid (Hw.out.below hb)
          have afe := hid (agK.out.below hb)
          have aor := hid (agL.out.below hb)
          have afB := hid (M3.out.below hb)
          have afC := hid (B4.out.below hb)
          clear hb
          obtain ⟨m0, m1, m2⟩ := XM.out.facts
          go_wp2_with fail
          clear m0 m1 m2
          refine (HBU.out _ _ aeZ.out _ _ _ _ _ afB.out afC.out alK.out Uu.out).mono ?_
          rintro e w6 ⟨rfl, hb⟩
          have nN := hid (bel iG.out hb)
          have E_6 := hid (Uu.out.below hb)
          have aoj := hid (afe.out.below hb)
          have aos := hid (aor.out.below hb)
          have aoJ := hid (afB.out.below hb)
          have aoG := hid (afC.out.below hb)
          have ag2 := hid (XM.out.below hb)
          clear hb
          go_wp2_with fail
          refine (HP2.out _ E_6.out).mono ?_
          rintro e w7 ⟨Aa2, na2, ca2, rfl, hpt, hb⟩
          have kZ := hid (bel nN.out hb)
          have E_7 := hid (E_6.out.below hb)
          have aol := hid (aoj.out.below hb)
          have ahB := hid (aos.out.below hb)
          have ai9 := hid (aoJ.out.below hb)
          have ai8 := hid (aoG.out.below hb)
          have ao1 := hid (ag2.out.below hb)
          clear hb
          have QT := hid (hpt)
          clear hpt
          go_upto_region 11 with (fail)
          generalize bI : World.alloc _ _ = v8
          have hxa : UB v8 (w7.heap.size) v (.slice Aa2 na2 ca2) := by rw [← bI]; exact heap_alloc_new _ _
          have hb : Below w7.heap.size w7 v8 := by rw [← bI]; exact (Below.refl _ _).alloc (Nat.le_refl _) _
          have YU := hid hxa
          clear bI hxa
          have H7 := hid (bel kZ.out hb)
          have E_8 := hid (E_7.out.below hb)
          have aoL := hid (aol.out.below hb)
          have akJ := hid (ahB.out.below hb)
          have aoK := hid (ai9.out.below hb)
          have aoH := hid (ai8.out.below hb)
          have aoO := hid (ao1.out.below hb)
          have QT_8 := hid (QT.out.below hb)
          clear hb
          obtain ⟨hS, hR⟩ := HF2.out _ _ _ _ QT_8.out
          have HSa2 := hid hS
          have HRa := hid hR
          clear hS hR
          obtain ⟨k0, k1, k2, k3, k4, k5, k6, k7, k8, k9, k10, k11, k12⟩ := YU.out.facts
          go_wp2_with fail
          clear k0 k1 k2 k3 k4 k5 k6 k7 k8 k9 k10 k11 k12
          refine (HC2.out _ _ _ HSa2.out _ HRa.out E_8.out).mono ?_
          rintro e w9 ⟨⟨Ab2, cb2, Ac2, cc2, rfl, hmp, hbp, hnc⟩, hb⟩
          have Y0 := hid (bel H7.out hb)
          have E_9 := hid (E_8.out.below hb)
          have ao0 := hid (aoL.out.below hb)
          have ao5 := hid (akJ.out.below hb)
          have aoZ := hid (aoK.out.below hb)
          have aoV := hid (aoH.out.below hb)
          have ao2 := hid (aoO.out.below hb)
          have QT_9 := hid (QT_8.out.below hb)
          have YU_9 := hid (YU.out.below hb)
          clear hb
          have N3 := hid (hmp)
          have C4 := hid (hbp)
          have HNC2 := hid hnc
          clear hmp hbp hnc HRa
          go_upto_region 12 with (fail)
          generalize bI : World.alloc _ _ = v10
          have hxa : B3 44 v10 (w9.heap.size) (.string (strOf M.ty)) (.string (strOf M.sub)) (.slice Ab2 M.ps.length cb2) := by rw [← bI]; exact heap_alloc_new _ _
          have hb : Below w9.heap.size w9 v10 := by rw [← bI]; exact (Below.refl _ _).alloc (Nat.le_refl _) _
          have YM := hid hxa
          clear bI hxa
          have JZ := hid (bel Y0.out hb)
          have ajp := hid (E_9.out.below hb)
          have ajq := hid (ao0.out.below hb)
          have ajT := hid (ao5.out.below hb)
          have ahH := hid (aoZ.out.below hb)
          have ai7 := hid (aoV.out.below hb)
          have akN := hid (ao2.out.below hb)
          have ape := hid (QT_9.out.below hb)
          have YU_10 := hid (YU_9.out.below hb)
          have N3_10 := hid (N3.out.below hb)
          have C4_10 := hid (C4.out.below hb)
          clear hb
          obtain ⟨m0, m1, m2⟩ := YM.out.facts
          obtain ⟨n0, n1, n2⟩ := akN.out.facts
          go_wp2_with fail
          clear m0 m1 m2 n0 n1 n2
          refine (JO.out _ _ _ _ _ N3_10.out ahH.out).mono ?_
          rintro e wz ⟨rfl, hb⟩
          have YZ := hid (bel JZ.out hb)
          have E_11 := hid (ajp.out.below hb)
          have apd := hid (ajq.out.below hb)
          have apl := hid (ajT.out.below hb)
          have Zq := hid (ahH.out.below hb)
          have aje := hid (ai7.out.below hb)
          have ZB := hid (akN.out.below hb)
          have QT_11 := hid (ape.out.below hb)
          have YU_11 := hid (YU_10.out.below hb)
          have N3_11 := hid (N3_10.out.below hb)
          have C4_11 := hid (C4_10.out.below hb)
          have YM_11 := hid (YM.out.below hb)
          clear hb
          have hs := aF (P := Tryz.prog) 45 9 5 Tryz.underlying45 Tryz.underlying5 Tryz.underlying9 _ cc2 C4_11.out
          rw [← HSL.out] at hs
          have ht := aF (P := Tryz.prog) 45 9 5 Tryz.underlying45 Tryz.underlying5 Tryz.underlying9 _ cc1 aje.out
          rw [← HSL.out] at ht
          go_wp2
          go_ret
          exact ⟨rfl, YZ.out⟩
        · have HBU : Hid (∀ (n c : Nat), Sh u n c → ∀ (A : Option Addr) (c1 : Nat) (A2 : Option Addr) (c2 : Nat) (w : World), Mp w M A c1 → aY w A2 nb (ah B) → nb ≤ c2 → Env w → Calls Tryz.prog 33 #[.agg #[.string (strOf M.ty), .string (strOf M.sub), .slice A M.ps.length c1], .slice A2 nb c2, .bool b1] w fun e w' => e = .returned (.tuple #[.string ⟨#[]⟩, .int .i64 2]) ∧ Below w.heap.size w w') := fun n c hS A c1 A2 c2 w h1 h2 h3 E => by
            have k := aoB b1 hS hbl ha her A c1 A2 nb c2 w h1 h2 h3 E
            rw [hbd] at k
            exact k
          have vW : Hid (∀ (n c : Nat), Sh u n c → ∀ (A : Option Addr) (c1 : Nat) (w : World), Mp w M A c1 → Calls Tryz.prog 34 #[.agg #[.string (strOf M.ty), .string (strOf M.sub), .slice A M.ps.length c1]] w fun e w' => e = .returned (.bool false) ∧ Below w.heap.size w w') := fun n c hS A c1 w k => by
            have q := aoa.aja hS
            rw [ha] at q
            refine (BuiR.VL (strOf M.ty) (strOf M.sub) A M.ps.length c1 (nY M.ps) w k.prm k.nc k.cm q).mono ?_
            rintro e w' ⟨b, rfl, h1, h2⟩
            cases b with
            | false => exact ⟨rfl, h2⟩
            | true =>
              have h3 := h1 rfl
              rw [Rj] at h3
              rw [ajj.qH b1 B h3] at hsn
              cases hsn
          have HSN := hid hsn
          clear ho hl h0 ha her hnb hfit hbl hmk hbd hsn
          go_enter Tryz.func7, Tryz.ntmps7
          go_wp2_with fail
          refine (JM.out _ HE.out).mono ?_
          rintro e w1 ⟨rfl, hb⟩
          have HB1 := hid hb
          have sO := hid (HE.out.below hb)
          clear hb
          go_wp2_with fail
          refine (yc.out _ sO.out).mono ?_
          rintro e w2 ⟨Aa1, na1, ca1, rfl, hpt, hb⟩
          have HB2 := hid (bel HB1.out hb)
          have xY := hid (sO.out.below hb)
          clear hb
          have PT := hid (hpt)
          clear hpt
          go_upto_region 4 with (fail)
          generalize bI : World.alloc _ _ = v3
          have hxa : UB v3 (w2.heap.size) u (.slice Aa1 na1 ca1) := by rw [← bI]; exact heap_alloc_new _ _
          have hb : Below w2.heap.size w2 v3 := by rw [← bI]; exact (Below.refl _ _).alloc (Nat.le_refl _) _
          have XU := hid hxa
          clear bI hxa
          have HB3 := hid (bel HB2.out hb)
          have vV := hid (xY.out.below hb)
          have adT := hid (PT.out.below hb)
          clear hb
          obtain ⟨hS, hR⟩ := HF1.out _ _ _ _ adT.out
          have aeZ := hid hS
          have HRa := hid hR
          clear hS hR
          obtain ⟨k0, k1, k2, k3, k4, k5, k6, k7, k8, k9, k10, k11, k12⟩ := XU.out.facts
          go_wp2_with fail
          clear k0 k1 k2 k3 k4 k5 k6 k7 k8 k9 k10 k11 k12
          refine (HC1.out _ _ _ aeZ.out _ HRa.out vV.out).mono ?_
          rintro e w4 ⟨⟨Ab1, cb1, Ac1, cc1, rfl, hmp, hbp, hnc⟩, hb⟩
          have HB4 := hid (bel HB3.out hb)
          have Hw := hid (vV.out.below hb)
          have agK := hid (adT.out.below hb)
          have agL := hid (XU.out.below hb)
          clear hb
          have M3 := hid (hmp)
          have B4 := hid (hbp)
          have alK := hid hnc
          clear hmp hbp hnc HRa
          go_upto_region 5 with (fail)
          generalize bI : World.alloc _ _ = v5
          have hxa : B3 44 v5 (w4.heap.size) (.string (strOf M.ty)) (.string (strOf M.sub)) (.slice Ab1 M.ps.length cb1) := by rw [← bI]; exact heap_alloc_new _ _
          have hb : Below w4.heap.size w4 v5 := by rw [← bI]; exact (Below.refl _ _).alloc (Nat.le_refl _) _
          have XM := hid hxa
          clear bI hxa
          have iG := hid (bel HB4.out hb)
          have Uu := hid (Hw.out.below hb)
          have afe := hid (agK.out.below hb)
          have aor := hid (agL.out.below hb)
          have afB := hid (M3.out.below hb)
          have afC := hid (B4.out.below hb)
          clear hb
          obtain ⟨m0, m1, m2⟩ := XM.out.facts
          go_wp2_with fail
          clear m0 m1 m2
          refine (HBU.out _ _ aeZ.out _ _ _ _ _ afB.out afC.out alK.out Uu.out).mono ?_
          rintro e w6 ⟨rfl, hb⟩
          have nN := hid (bel iG.out hb)
          have E_6 := hid (Uu.out.below hb)
          have aoj := hid (afe.out.below hb)
          have aos := hid (aor.out.below hb)
          have aoJ := hid (afB.out.below hb)
          have aoG := hid (afC.out.below hb)
          have ag2 := hid (XM.out.below hb)
          clear hb
          obtain ⟨m0, m1, m2⟩ := ag2.out.facts
          go_wp2_with fail
          clear m0 m1 m2
          refine (vW.out _ _ aeZ.out _ _ _ aoJ.out).mono ?_
          rintro e w7 ⟨rfl, hb⟩
          have kZ := hid (bel nN.out hb)
          have E_7 := hid (E_6.out.below hb)
          have aol := hid (aoj.out.below hb)
          have ahB := hid (aos.out.below hb)
          have ai9 := hid (aoJ.out.below hb)
          have ai8 := hid (aoG.out.below hb)
          have ao1 := hid (ag2.out.below hb)
          clear hb
          go_wp2
          go_ret
          exact ⟨rfl, kZ.out⟩
      · obtain ⟨er, ao8⟩ : ∃ z, aai u = z := ⟨_, rfl⟩
        have hB0 : B = [] := ai6 ha her
        have HNB : Hid (nb = 0) := by show _ = _; rw [hnb, hB0]; rfl
        have HC1 : Hid (∀ (A : Option Addr) (n c : Nat), Sh u n c → ∀ w : World, Rs w A n u.aO → Env w → Calls Tryz.prog 27 #[.agg #[.string (strOf u.au), .string (strOf u.usr), .string (strOf u.MX), .string (strOf u.hst), .bool u.hh, .int .i64 u.port, .bool u.opq, .string (strOf u.txt), .slice A n c, .bool u.hq, .bool u.hf, .string (strOf u.dY), .string (strOf u.fB)]] w fun e w' => (∃ A1 c1 A2 c2, e = .returned (.tuple #[.agg #[.string (strOf M.ty), .string (strOf M.sub), .slice A1 M.ps.length c1], .slice A2 nb c2, .int .i64 er]) ∧ Mp w' M A1 c1 ∧ aY w' A2 nb (ah B) ∧ nb ≤ c2) ∧ Below w.heap.size w w') := fun A n c hS w hR E => by
          have k := EW hS w hR E
          rw [ha, ao8] at k
          rw [hnb]
          exact k.mono fun e w' ⟨⟨A1, c1, A2, c2, h1, h2, h3⟩, h4⟩ => ⟨⟨A1, c1, A2, c2, h1, h2, h3.zB, h3.nc⟩, h4⟩
        have hern : (er != 0) = true := by rw [← ao8]; simp [her]
        clear ho hl h0 ha her ao8 hnb hB0 hfit hbl
        go_enter Tryz.func7, Tryz.ntmps7
        go_wp2_with fail
        refine (JM.out _ HE.out).mono ?_
        rintro e w1 ⟨rfl, hb⟩
        have HB1 := hid hb
        have sO := hid (HE.out.below hb)
        clear hb
        go_wp2_with fail
        refine (yc.out _ sO.out).mono ?_
        rintro e w2 ⟨Aa1, na1, ca1, rfl, hpt, hb⟩
        have HB2 := hid (bel HB1.out hb)
        have xY := hid (sO.out.below hb)
        clear hb
        have PT := hid (hpt)
        clear hpt
        go_upto_region 4 with (fail)
        generalize bI : World.alloc _ _ = v3
        have hxa : UB v3 (w2.heap.size) u (.slice Aa1 na1 ca1) := by rw [← bI]; exact heap_alloc_new _ _
        have hb : Below w2.heap.size w2 v3 := by rw [← bI]; exact (Below.refl _ _).alloc (Nat.le_refl _) _
        have XU := hid hxa
        clear bI hxa
        have HB3 := hid (bel HB2.out hb)
        have vV := hid (xY.out.below hb)
        have adT := hid (PT.out.below hb)
        clear hb
        obtain ⟨hS, hR⟩ := HF1.out _ _ _ _ adT.out
        have aeZ := hid hS
        have HRa := hid hR
        clear hS hR
        obtain ⟨k0, k1, k2, k3, k4, k5, k6, k7, k8, k9, k10, k11, k12⟩ := XU.out.facts
        go_wp2_with fail
        clear k0 k1 k2 k3 k4 k5 k6 k7 k8 k9 k10 k11 k12
        refine (HC1.out _ _ _ aeZ.out _ HRa.out vV.out).mono ?_
        rintro e w4 ⟨⟨Ab1, cb1, Ac1, cc1, rfl, hmp, hbp, hnc⟩, hb⟩
        have HB4 := hid (bel HB3.out hb)
        have Hw := hid (vV.out.below hb)
        have agK := hid (adT.out.below hb)
        have agL := hid (XU.out.below hb)
        clear hb
        have M3 := hid (hmp)
        have B4 := hid (hbp)
        have alK := hid hnc
        clear hmp hbp hnc HRa
        go_upto_region 5 with (fail)
        generalize bI : World.alloc _ _ = v5
        have hxa : B3 44 v5 (w4.heap.size) (.string (strOf M.ty)) (.string (strOf M.sub)) (.slice Ab1 M.ps.length cb1) := by rw [← bI]; exact heap_alloc_new _ _
        have hb : Below w4.heap.size w4 v5 := by rw [← bI]; exact (Below.refl _ _).alloc (Nat.le_refl _) _
        have XM := hid hxa
        clear bI hxa
        have iG := hid (bel HB4.out hb)
        have Uu := hid (Hw.out.below hb)
        have afe := hid (agK.out.below hb)
        have aor := hid (agL.out.below hb)
        have afB := hid (M3.out.below hb)
        have afC := hid (B4.out.below hb)
        clear hb
        have hnb0 : ((nb : Int) == 0) = true := by rw [HNB.out]; rfl
        go_wp2
        go_ret
        exact ⟨rfl, iG.out⟩
  · have hli : (1000 : Int) < ((strOf L).size : Int) := by rw [o9]; omega
    clear hl h0
    go_enter Tryz.func7, Tryz.ntmps7
    go_wp2_with fail
    refine (JM.out _ HE.out).mono ?_
    rintro e w1 ⟨rfl, hb⟩
    have HB1 := hid hb
    have sO := hid (HE.out.below hb)
    clear hb
    go_wp2_with fail
    refine (JM.out _ sO.out).mono ?_
    rintro e w2 ⟨rfl, hb⟩
    have HB2 := hid (bel HB1.out hb)
    have xY := hid (sO.out.below hb)
    clear hb
    go_wp2
    go_ret
    exact ⟨rfl, HB2.out⟩
end Go.Proofs.YtgamccijegollaaGreatDoor.Laws
