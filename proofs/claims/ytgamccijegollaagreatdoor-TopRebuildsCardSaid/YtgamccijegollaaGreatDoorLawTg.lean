/- The law TopRebuilds, walked. -/
import Derived.Test.YtgamccijegollaaGreatDoorFNAAX
import Derived.Test.YtgamccijegollaaGreatDoorFNAAW
set_option linter.unusedSimpArgs false
set_option linter.unusedVariables false
namespace Go.Proofs.YtgamccijegollaaGreatDoor.Laws
open Go.RowKit Go.Proofs.YtgamccijegollaaGreatDoor.Base Go.Proofs.YtgamccijegollaaGreatDoor.Dp Go.Proofs.YtgamccijegollaaGreatDoor.mW Go.Proofs.YtgamccijegollaaGreatDoor.wS Go.Proofs.YtgamccijegollaaGreatDoor.tK Go.Proofs.YtgamccijegollaaGreatDoor.UG Go.Proofs.YtgamccijegollaaGreatDoor.rC Go.Proofs.YtgamccijegollaaGreatDoor.qg Go.Proofs.YtgamccijegollaaGreatDoor.oG Go.Proofs.YtgamccijegollaaGreatDoor.JY Go.Proofs.YtgamccijegollaaGreatDoor.acs Go.Proofs.YtgamccijegollaaGreatDoor.agJ Go.Proofs.YtgamccijegollaaGreatDoor.aji Go.Proofs.YtgamccijegollaaGreatDoor.BuiQ
open Go.Proofs.YtgamccijegollaaGreatDoor.jQ (oI)
open Go.Proofs.YtgamccijegollaaGreatDoor.pO (Max)
open Go.Proofs.YtgamccijegollaaGreatDoor.vZ (rD)
open Go.Proofs.YtgamccijegollaaGreatDoor.oG (B3)
open Go.Proofs.YtgamccijegollaaGreatDoor.sV (dS)
open Go.Proofs.YtgamccijegollaaGreatDoor.wo (Bl)
set_option linter.unusedSimpArgs false
set_option linter.unusedVariables false
set_option maxRecDepth 100000 in
set_option maxHeartbeats 8000000 in
theorem apH (s0 : ByteArray) (w : World) (h0 : s0.size ≤ 140737488351232) (hT : Tab.Pow w) (hL : oI w) (hM : Max w) (hU : rD w) : Calls Tryz.prog 11 #[.string s0] w fun e w' => e = .returned (.bool true) ∧ Below w.heap.size w w' := by
  have HE := hid (⟨hT, hL, hM, hU⟩ : Env w)
  have JM : Hid (∀ w : World, Env w → Calls Tryz.prog 46 #[] w fun e w' => e = .returned (.bool true) ∧ Below w.heap.size w w') := fun w E => akA.Xj w ⟨E.pow, E.max, E.Hq⟩
  clear hT hL hM hU
  obtain ⟨L, rfl⟩ : ∃ L, s0 = strOf L := ⟨s0.data.toList, (aG s0).symm⟩
  rw [o9] at h0
  by_cases hl : L.length ≤ 1000
  · have hli : ¬ (1000 : Int) < ((strOf L).size : Int) := by rw [o9]; omega
    cases ho : wS.url L none with
    | none =>
      obtain ⟨u, hu0⟩ : ∃ u, u = U0 := ⟨_, rfl⟩
      obtain ⟨⟨M, B⟩, ha⟩ : ∃ v, Ig u = v := ⟨_, rfl⟩
      obtain ⟨er, her⟩ : ∃ z, aai u = z := ⟨_, rfl⟩
      obtain ⟨nb, hnb⟩ : ∃ k, k = B.length := ⟨_, rfl⟩
      have hB0 : B = [] := ai6 ha (by rw [hu0]; exact aqb)
      have HNB : Hid (nb = 0) := by show _ = _; rw [hnb, hB0]; rfl
      have ao9 := aqc
      rw [← hu0] at ao9
      have yc : Hid (∀ w : World, Env w → Calls Tryz.prog 16 #[.string (strOf L), .pointer none] w fun e w' => ∃ A' n' c', e = .returned (.tuple #[.agg #[.string (strOf u.au), .string (strOf u.usr), .string (strOf u.MX), .string (strOf u.hst), .bool u.hh, .int .i64 u.port, .bool u.opq, .string (strOf u.txt), .slice A' n' c', .bool u.hq, .bool u.hf, .string (strOf u.dY), .string (strOf u.fB)], .int .i64 2]) ∧ Pt w' u A' n' c' ∧ Below w.heap.size w w') := fun w E => GZ (T := strOf L) hu0 ho (by rw [o9]; omega) w E
      have HF1 : Hid (∀ (w : World) (A : Option Addr) (n c : Nat), Pt w u A n c → Sh u n c ∧ Rs w A n u.aO) := fun w A n c k => ⟨agl ao9 (by omega) k, ⟨k.aO.1⟩⟩
      have HC1 : Hid (∀ (A : Option Addr) (n c : Nat), Sh u n c → ∀ w : World, Rs w A n u.aO → Env w → Calls Tryz.prog 27 #[.agg #[.string (strOf u.au), .string (strOf u.usr), .string (strOf u.MX), .string (strOf u.hst), .bool u.hh, .int .i64 u.port, .bool u.opq, .string (strOf u.txt), .slice A n c, .bool u.hq, .bool u.hf, .string (strOf u.dY), .string (strOf u.fB)]] w fun e w' => (∃ A1 c1 A2 c2, e = .returned (.tuple #[.agg #[.string (strOf M.ty), .string (strOf M.sub), .slice A1 M.ps.length c1], .slice A2 nb c2, .int .i64 er]) ∧ Mp w' M A1 c1 ∧ aY w' A2 nb (ah B) ∧ nb ≤ c2) ∧ Below w.heap.size w w') := fun A n c hS w hR E => by
        have k := EW hS w hR E
        rw [ha, her] at k
        rw [hnb]
        exact k.mono fun e w' ⟨⟨A1, c1, A2, c2, h1, h2, h3⟩, h4⟩ => ⟨⟨A1, c1, A2, c2, h1, h2, h3.zB, h3.nc⟩, h4⟩
      clear ho hl h0 hu0 ha her hnb hB0 ao9
      go_enter Tryz.func11, Tryz.ntmps11
      go_wp2_with fail
      refine (JM.out _ HE.out).mono ?_
      rintro e w1 ⟨rfl, hb⟩
      have HB1 := hid hb
      have sO := hid (HE.out.below hb)
      clear hb
      go_wp2_with fail
      refine (yc.out _ sO.out).mono ?_
      rintro e w2 ⟨Aa1, na1, ca1, rfl, hpt, hb⟩
      have HB2 := hid (bel HB1.out hb)
      have xY := hid (sO.out.below hb)
      clear hb
      have PT := hid (hpt)
      clear hpt
      go_upto_region 4 with (fail)
      generalize bI : World.alloc _ _ = v3
      have hxa : UB v3 (w2.heap.size) u (.slice Aa1 na1 ca1) := by rw [← bI]; exact heap_alloc_new _ _
      have hb : Below w2.heap.size w2 v3 := by rw [← bI]; exact (Below.refl _ _).alloc (Nat.le_refl _) _
      have XU := hid hxa
      clear bI hxa
      have HB3 := hid (bel HB2.out hb)
      have vV := hid (xY.out.below hb)
      have adT := hid (PT.out.below hb)
      clear hb
      obtain ⟨hS, hR⟩ := HF1.out _ _ _ _ adT.out
      have aeZ := hid hS
      have HRa := hid hR
      clear hS hR
      obtain ⟨k0, k1, k2, k3, k4, k5, k6, k7, k8, k9, k10, k11, k12⟩ := XU.out.facts
      go_wp2_with fail
      clear k0 k1 k2 k3 k4 k5 k6 k7 k8 k9 k10 k11 k12
      refine (HC1.out _ _ _ aeZ.out _ HRa.out vV.out).mono ?_
      rintro e w4 ⟨⟨Ab1, cb1, Ac1, cc1, rfl, hmp, hbp, hnc⟩, hb⟩
      have HB4 := hid (bel HB3.out hb)
      have Hw := hid (vV.out.below hb)
      have agK := hid (adT.out.below hb)
      have agL := hid (XU.out.below hb)
      clear hb
      have M3 := hid (hmp)
      have B4 := hid (hbp)
      have alK := hid hnc
      clear hmp hbp hnc HRa
      go_upto_region 5 with (fail)
      generalize bI : World.alloc _ _ = v5
      have hxa : B3 44 v5 (w4.heap.size) (.string (strOf M.ty)) (.string (strOf M.sub)) (.slice Ab1 M.ps.length cb1) := by rw [← bI]; exact heap_alloc_new _ _
      have hb : Below w4.heap.size w4 v5 := by rw [← bI]; exact (Below.refl _ _).alloc (Nat.le_refl _) _
      have XM := hid hxa
      clear bI hxa
      have iG := hid (bel HB4.out hb)
      have Uu := hid (Hw.out.below hb)
      have afe := hid (agK.out.below hb)
      have aor := hid (agL.out.below hb)
      have afB := hid (M3.out.below hb)
      have afC := hid (B4.out.below hb)
      clear hb
      have hnb0 : ((nb : Int) == 0) = true := by rw [HNB.out]; rfl
      go_wp2
      go_ret
      exact ⟨rfl, iG.out⟩
    | some u =>
      have hfit := oN.AZ (M := 0) ho (fun _ e => by cases e)
      have hbl : (Bl u).length ≤ 16000 := by
        have h1 := hfit.all
        unfold oN.pl at h1
        have := PI (u := u) (N := 15300) (by omega) (by have := hfit.lo; omega) (by have := hfit.hi; omega)
        omega
      obtain ⟨⟨M, B⟩, ha⟩ : ∃ v, Ig u = v := ⟨_, rfl⟩
      obtain ⟨nb, hnb⟩ : ∃ k, k = B.length := ⟨_, rfl⟩
      have yc : Hid (∀ w : World, Env w → Calls Tryz.prog 16 #[.string (strOf L), .pointer none] w fun e w' => ∃ A' n' c', e = .returned (.tuple #[.agg #[.string (strOf u.au), .string (strOf u.usr), .string (strOf u.MX), .string (strOf u.hst), .bool u.hh, .int .i64 u.port, .bool u.opq, .string (strOf u.txt), .slice A' n' c', .bool u.hq, .bool u.hf, .string (strOf u.dY), .string (strOf u.fB)], .int .i64 0]) ∧ Pt w' u A' n' c' ∧ Below w.heap.size w w') := fun w E => jB (T := strOf L) ho (by rw [o9]; omega) w E
      have HF1 : Hid (∀ (w : World) (A : Option Addr) (n c : Nat), Pt w u A n c → Sh u n c ∧ Rs w A n u.aO) := fun w A n c k => ⟨agl hfit (by omega) k, ⟨k.aO.1⟩⟩
      by_cases her : aai u = 0
      · have HC1 : Hid (∀ (A : Option Addr) (n c : Nat), Sh u n c → ∀ w : World, Rs w A n u.aO → Env w → Calls Tryz.prog 27 #[.agg #[.string (strOf u.au), .string (strOf u.usr), .string (strOf u.MX), .string (strOf u.hst), .bool u.hh, .int .i64 u.port, .bool u.opq, .string (strOf u.txt), .slice A n c, .bool u.hq, .bool u.hf, .string (strOf u.dY), .string (strOf u.fB)]] w fun e w' => (∃ A1 c1 A2 c2, e = .returned (.tuple #[.agg #[.string (strOf M.ty), .string (strOf M.sub), .slice A1 M.ps.length c1], .slice A2 nb c2, .int .i64 0]) ∧ Mp w' M A1 c1 ∧ aY w' A2 nb (ah B) ∧ nb ≤ c2) ∧ Below w.heap.size w w') := fun A n c hS w hR E => by
          have k := EW hS w hR E
          rw [ha, her] at k
          rw [hnb]
          exact k.mono fun e w' ⟨⟨A1, c1, A2, c2, h1, h2, h3⟩, h4⟩ => ⟨⟨A1, c1, A2, c2, h1, h2, h3.zB, h3.nc⟩, h4⟩
        have HMK : Hid (∀ b, (mk b M B).length ≤ 49000) := fun b => (aoA b hbl ha her).1
        have HTW : Hid (∀ b, (∃ v, bld b M B = (mk b M B, 0) ∧ wS.url (mk b M B) none = some v ∧ aai v = 0 ∧ Ig v = (M, B)) ∨ (bld b M B = ([], 2) ∧ Eb (mk b M B) M B = false)) := fun b => apm b hbl ha her
        have HBU : Hid (∀ (b : Bool) (n c : Nat), Sh u n c → ∀ (A : Option Addr) (c1 : Nat) (A2 : Option Addr) (c2 : Nat) (w : World), Mp w M A c1 → aY w A2 nb (ah B) → nb ≤ c2 → Env w → Calls Tryz.prog 33 #[.agg #[.string (strOf M.ty), .string (strOf M.sub), .slice A M.ps.length c1], .slice A2 nb c2, .bool b] w fun e w' => e = .returned (.tuple #[.string (strOf (bld b M B).1), .int .i64 (bld b M B).2]) ∧ Below w.heap.size w w') := fun b n c hS A c1 A2 c2 w h1 h2 h3 E => aoB b hS hbl ha her A c1 A2 nb c2 w h1 h2 h3 E
        have JO : Hid (∀ (A A2 : Option Addr) (c c2 : Nat) (w : World), Mp w M A c → Mp w M A2 c2 → Calls Tryz.prog 35 #[.agg #[.string (strOf M.ty), .string (strOf M.sub), .slice A M.ps.length c], .agg #[.string (strOf M.ty), .string (strOf M.sub), .slice A2 M.ps.length c2]] w fun e w' => e = .returned (.bool true) ∧ Below w.heap.size w w') := fun A A2 c c2 w h k => by
          have h1 := J7.JA (strOf M.ty) (strOf M.sub) A M.ps.length c (nY M.ps) (strOf M.ty) (strOf M.sub) A2 M.ps.length c2 (nY M.ps) w h.prm k.prm h.nc h.cm k.nc k.cm
          rw [OY.Ls] at h1
          exact h1
        obtain ⟨SL, hSL⟩ : ∃ S, S = strOf B := ⟨_, rfl⟩
        have HSL := hid hSL
        have qs : (SL.toList == SL.toList) = true := beq_self_eq_true _
        have qn : (SL.toList != SL.toList) = false := by simp
        have HNBB := hid hnb
        clear ho hl h0 ha her hnb hfit hbl hSL
        go_enter Tryz.func11, Tryz.ntmps11
        go_wp2_with fail
        refine (JM.out _ HE.out).mono ?_
        rintro e w1 ⟨rfl, hb⟩
        have HB1 := hid hb
        have sO := hid (HE.out.below hb)
        clear hb
        go_wp2_with fail
        refine (yc.out _ sO.out).mono ?_
        rintro e w2 ⟨Aa1, na1, ca1, rfl, hpt, hb⟩
        have HB2 := hid (bel HB1.out hb)
        have xY := hid (sO.out.below hb)
        clear hb
        have PT := hid (hpt)
        clear hpt
        go_upto_region 4 with (fail)
        generalize bI : World.alloc _ _ = v3
        have hxa : UB v3 (w2.heap.size) u (.slice Aa1 na1 ca1) := by rw [← bI]; exact heap_alloc_new _ _
        have hb : Below w2.heap.size w2 v3 := by rw [← bI]; exact (Below.refl _ _).alloc (Nat.le_refl _) _
        have XU := hid hxa
        clear bI hxa
        have HB3 := hid (bel HB2.out hb)
        have vV := hid (xY.out.below hb)
        have adT := hid (PT.out.below hb)
        clear hb
        obtain ⟨hS, hR⟩ := HF1.out _ _ _ _ adT.out
        have aeZ := hid hS
        have HRa := hid hR
        clear hS hR
        obtain ⟨k0, k1, k2, k3, k4, k5, k6, k7, k8, k9, k10, k11, k12⟩ := XU.out.facts
        go_wp2_with fail
        clear k0 k1 k2 k3 k4 k5 k6 k7 k8 k9 k10 k11 k12
        refine (HC1.out _ _ _ aeZ.out _ HRa.out vV.out).mono ?_
        rintro e w4 ⟨⟨Ab1, cb1, Ac1, cc1, rfl, hmp, hbp, hnc⟩, hb⟩
        have HB4 := hid (bel HB3.out hb)
        have Hw := hid (vV.out.below hb)
        have agK := hid (adT.out.below hb)
        have agL := hid (XU.out.below hb)
        clear hb
        have M3 := hid (hmp)
        have B4 := hid (hbp)
        have alK := hid hnc
        clear hmp hbp hnc HRa
        go_upto_region 5 with (fail)
        generalize bI : World.alloc _ _ = v5
        have hxa : B3 44 v5 (w4.heap.size) (.string (strOf M.ty)) (.string (strOf M.sub)) (.slice Ab1 M.ps.length cb1) := by rw [← bI]; exact heap_alloc_new _ _
        have hb : Below w4.heap.size w4 v5 := by rw [← bI]; exact (Below.refl _ _).alloc (Nat.le_refl _) _
        have XM := hid hxa
        clear bI hxa
        have iG := hid (bel HB4.out hb)
        have Uu := hid (Hw.out.below hb)
        have afe := hid (agK.out.below hb)
        have aor := hid (agL.out.below hb)
        have afB := hid (M3.out.below hb)
        have afC := hid (B4.out.below hb)
        clear hb
        go_upto_region 8 with (fail)
        generalize bI : World.alloc _ _ = vb
        have hb : Below v5.heap.size v5 vb := by rw [← bI]; exact (Below.refl _ _).alloc (Nat.le_refl _) _
        have alS : vb.cell? ⟨v5.heap.size, 0, none⟩ = some (.bool true) := by rw [← bI]; exact cell_of_row _ _ 0 _ _ _ (heap_alloc_new _ _)
        have alT : vb.cell? ⟨v5.heap.size, 1, none⟩ = some (.bool false) := by rw [← bI]; exact cell_of_row _ _ 1 _ _ _ (heap_alloc_new _ _)
        have hcl : ∀ k : Nat, k < 2 → ∃ b : Bool, vb.cell? ⟨v5.heap.size, k, none⟩ = some (.bool b) := fun k hk => by
          rcases (by omega : k = 0 ∨ k = 1) with rfl | rfl
          · exact ⟨_, alS⟩
          · exact ⟨_, alT⟩
        have hgl : v5.heap.size < vb.heap.size := by rw [← bI]; simp
        have HCL := hid hcl
        have HGL := hid hgl
        clear bI alS alT hcl hgl
        have nN := hid (bel iG.out hb)
        have E_6 := hid (Uu.out.below hb)
        have aoj := hid (afe.out.below hb)
        have aos := hid (aor.out.below hb)
        have aoJ := hid (afB.out.below hb)
        have aoG := hid (afC.out.below hb)
        have ag2 := hid (XM.out.below hb)
        clear hb
        go_wp2
        go_loopw [9, 10, 11, 12, 13, 14, 15, 16, 47] (fun _ _ _ _ _ _ _ _ vk wr => ∃ k : Nat, k ≤ 2 ∧ vk = .int .i64 (k : Int) ∧ Below vb.heap.size vb wr) (fun _ _ _ _ _ _ _ _ vk _ => 2 - (intOf vk).toNat)
        case atStart => exact ⟨0, by omega, rfl, Below.refl _ _⟩
        case round =>
          obtain ⟨k, hk, rfl, hbl⟩ := hrel
          by_cases hlt : k < 2
          ·
            obtain ⟨b, hcb⟩ := HCL.out k hlt
            have hcell := (hbl.cell (p := ⟨v5.heap.size, k, none⟩) HGL.out).trans hcb
            have hki : (k : Int) < 2 := by omega
            have HKL := hid hlt
            have HBR := hid hbl
            have hb := hbl
            clear hlt hcb hk
            have E_7 := hid (E_6.out.below hb)
            have aol := hid (aoj.out.below hb)
            have ahB := hid (aos.out.below hb)
            have ai9 := hid (aoJ.out.below hb)
            have ai8 := hid (aoG.out.below hb)
            have ao1 := hid (ag2.out.below hb)
            clear hb hbl
            rcases HTW.out b with ⟨v, hbd, hv, hv2, hv3⟩ | ⟨hbd, hsn⟩
            ·
              obtain ⟨X, hX⟩ : ∃ X, X = strOf (mk b M B) := ⟨_, rfl⟩
              have hmk := HMK.out b
              have hnb := HNBB.out
              rw [show mk b M B = X.data.toList by rw [hX]; rfl] at hv
              have HBV := hid (HBU.out b)
              rw [hbd, ← hX] at HBV
              have HP2 : Hid (∀ w : World, Env w → Calls Tryz.prog 16 #[.string X, .pointer none] w fun e w' => ∃ A' n' c', e = .returned (.tuple #[.agg #[.string (strOf v.au), .string (strOf v.usr), .string (strOf v.MX), .string (strOf v.hst), .bool v.hh, .int .i64 v.port, .bool v.opq, .string (strOf v.txt), .slice A' n' c', .bool v.hq, .bool v.hf, .string (strOf v.dY), .string (strOf v.fB)], .int .i64 0]) ∧ Pt w' v A' n' c' ∧ Below w.heap.size w w') := fun w E => jB (T := X) hv (by rw [hX, o9]; omega) w E
              have HF2 : Hid (∀ (w : World) (A : Option Addr) (n c : Nat), Pt w v A n c → Sh v n c ∧ Rs w A n v.aO) := fun w A n c k => ⟨agl (oN.AZ (M := 0) hv (fun _ e => by cases e)) (by rw [hX, Ce.dl, o9]; omega) k, ⟨k.aO.1⟩⟩
              have HC2 : Hid (∀ (A : Option Addr) (n c : Nat), Sh v n c → ∀ w : World, Rs w A n v.aO → Env w → Calls Tryz.prog 27 #[.agg #[.string (strOf v.au), .string (strOf v.usr), .string (strOf v.MX), .string (strOf v.hst), .bool v.hh, .int .i64 v.port, .bool v.opq, .string (strOf v.txt), .slice A n c, .bool v.hq, .bool v.hf, .string (strOf v.dY), .string (strOf v.fB)]] w fun e w' => (∃ A1 c1 A2 c2, e = .returned (.tuple #[.agg #[.string (strOf M.ty), .string (strOf M.sub), .slice A1 M.ps.length c1], .slice A2 nb c2, .int .i64 0]) ∧ Mp w' M A1 c1 ∧ aY w' A2 nb (ah B) ∧ nb ≤ c2) ∧ Below w.heap.size w w') := fun A n c hS w hR E => by
                have k := EW hS w hR E
                rw [hv3, hv2] at k
                rw [hnb]
                exact k.mono fun e w' ⟨⟨A1, c1, A2, c2, h1, h2, h3⟩, h4⟩ => ⟨⟨A1, c1, A2, c2, h1, h2, h3.zB, h3.nc⟩, h4⟩
              clear hmk hbd hv hv2 hv3 hX hnb
              obtain ⟨m0, m1, m2⟩ := ao1.out.facts
              go_wp2_with fail
              clear m0 m1 m2 hcell
              refine (HBV.out _ _ aeZ.out _ _ _ _ _ ai9.out ai8.out alK.out E_7.out).mono ?_
              rintro e w8 ⟨rfl, hb⟩
              have H7 := hid (bel HBR.out hb)
              have E_8 := hid (E_7.out.below hb)
              have aoL := hid (aol.out.below hb)
              have akJ := hid (ahB.out.below hb)
              have aoK := hid (ai9.out.below hb)
              have aoH := hid (ai8.out.below hb)
              have aoO := hid (ao1.out.below hb)
              clear hb
              go_wp2_with fail
              refine (HP2.out _ E_8.out).mono ?_
              rintro e w9 ⟨Aa2, na2, ca2, rfl, hpt, hb⟩
              have Y0 := hid (bel H7.out hb)
              have E_9 := hid (E_8.out.below hb)
              have ao0 := hid (aoL.out.below hb)
              have ao5 := hid (akJ.out.below hb)
              have aoZ := hid (aoK.out.below hb)
              have aoV := hid (aoH.out.below hb)
              have ao2 := hid (aoO.out.below hb)
              clear hb
              have QT := hid (hpt)
              clear hpt
              go_upto_region 13 with (fail)
              generalize bI : World.alloc _ _ = v10
              have hxa : UB v10 (w9.heap.size) v (.slice Aa2 na2 ca2) := by rw [← bI]; exact heap_alloc_new _ _
              have hb : Below w9.heap.size w9 v10 := by rw [← bI]; exact (Below.refl _ _).alloc (Nat.le_refl _) _
              have YU := hid hxa
              clear bI hxa
              have JZ := hid (bel Y0.out hb)
              have ajp := hid (E_9.out.below hb)
              have ajq := hid (ao0.out.below hb)
              have ajT := hid (ao5.out.below hb)
              have ahH := hid (aoZ.out.below hb)
              have ai7 := hid (aoV.out.below hb)
              have akN := hid (ao2.out.below hb)
              have ape := hid (QT.out.below hb)
              clear hb
              obtain ⟨hS, hR⟩ := HF2.out _ _ _ _ ape.out
              have HSa2 := hid hS
              have HRa := hid hR
              clear hS hR
              obtain ⟨k0, k1, k2, k3, k4, k5, k6, k7, k8, k9, k10, k11, k12⟩ := YU.out.facts
              go_wp2_with fail
              clear k0 k1 k2 k3 k4 k5 k6 k7 k8 k9 k10 k11 k12
              refine (HC2.out _ _ _ HSa2.out _ HRa.out ajp.out).mono ?_
              rintro e w11 ⟨⟨Ab2, cb2, Ac2, cc2, rfl, hmp, hbp, hnc⟩, hb⟩
              have YZ := hid (bel JZ.out hb)
              have E_11 := hid (ajp.out.below hb)
              have apd := hid (ajq.out.below hb)
              have apl := hid (ajT.out.below hb)
              have Zq := hid (ahH.out.below hb)
              have aje := hid (ai7.out.below hb)
              have ZB := hid (akN.out.below hb)
              have QT_11 := hid (ape.out.below hb)
              have YU_11 := hid (YU.out.below hb)
              clear hb
              have N3 := hid (hmp)
              have C4 := hid (hbp)
              have HNC2 := hid hnc
              clear hmp hbp hnc HRa
              go_upto_region 14 with (fail)
              generalize bI : World.alloc _ _ = v12
              have hxa : B3 44 v12 (w11.heap.size) (.string (strOf M.ty)) (.string (strOf M.sub)) (.slice Ab2 M.ps.length cb2) := by rw [← bI]; exact heap_alloc_new _ _
              have hb : Below w11.heap.size w11 v12 := by rw [← bI]; exact (Below.refl _ _).alloc (Nat.le_refl _) _
              have YM := hid hxa
              clear bI hxa
              have aju := hid (bel YZ.out hb)
              have E_12 := hid (E_11.out.below hb)
              have PT_12 := hid (apd.out.below hb)
              have XU_12 := hid (apl.out.below hb)
              have M3_12 := hid (Zq.out.below hb)
              have ajf := hid (aje.out.below hb)
              have XM_12 := hid (ZB.out.below hb)
              have QT_12 := hid (QT_11.out.below hb)
              have YU_12 := hid (YU_11.out.below hb)
              have N3_12 := hid (N3.out.below hb)
              have C4_12 := hid (C4.out.below hb)
              clear hb
              obtain ⟨m0, m1, m2⟩ := YM.out.facts
              obtain ⟨n0, n1, n2⟩ := XM_12.out.facts
              go_wp2_with fail
              clear m0 m1 m2 n0 n1 n2
              refine (JO.out _ _ _ _ _ N3_12.out M3_12.out).mono ?_
              rintro e wz ⟨rfl, hb⟩
              have HB13 := hid (bel aju.out hb)
              have E_13 := hid (E_12.out.below hb)
              have PT_13 := hid (PT_12.out.below hb)
              have XU_13 := hid (XU_12.out.below hb)
              have M3_13 := hid (M3_12.out.below hb)
              have B4_13 := hid (ajf.out.below hb)
              have XM_13 := hid (XM_12.out.below hb)
              have QT_13 := hid (QT_12.out.below hb)
              have YU_13 := hid (YU_12.out.below hb)
              have N3_13 := hid (N3_12.out.below hb)
              have C4_13 := hid (C4_12.out.below hb)
              have YM_13 := hid (YM.out.below hb)
              clear hb
              have hs := aF (P := Tryz.prog) 45 9 5 Tryz.underlying45 Tryz.underlying5 Tryz.underlying9 _ cc2 C4_13.out
              rw [← HSL.out] at hs
              have ht := aF (P := Tryz.prog) 45 9 5 Tryz.underlying45 Tryz.underlying5 Tryz.underlying9 _ cc1 B4_13.out
              rw [← HSL.out] at ht
              go_wp2
              go_roundw
              case rel => exact ⟨k + 1, by have := HKL.out; omega, by go_num, HB13.out⟩
              case measure => have := HKL.out; simp [intOf]; omega
            ·
              have HBV := hid (HBU.out b)
              rw [hbd] at HBV
              clear hbd hsn
              obtain ⟨m0, m1, m2⟩ := ao1.out.facts
              go_wp2_with fail
              clear m0 m1 m2 hcell
              refine (HBV.out _ _ aeZ.out _ _ _ _ _ ai9.out ai8.out alK.out E_7.out).mono ?_
              rintro e w8 ⟨rfl, hb⟩
              have H7 := hid (bel HBR.out hb)
              have E_8 := hid (E_7.out.below hb)
              have aoL := hid (aol.out.below hb)
              have akJ := hid (ahB.out.below hb)
              have aoK := hid (ai9.out.below hb)
              have aoH := hid (ai8.out.below hb)
              have aoO := hid (ao1.out.below hb)
              clear hb
              go_wp2
              go_roundw
              case rel => exact ⟨k + 1, by have := HKL.out; omega, by go_num, H7.out⟩
              case measure => have := HKL.out; simp [intOf]; omega
          ·
            obtain rfl : k = 2 := by omega
            have HBR := hid (bel nN.out hbl)
            go_wp2
            go_ret
            exact ⟨rfl, HBR.out⟩
      · obtain ⟨er, ao8⟩ : ∃ z, aai u = z := ⟨_, rfl⟩
        have hB0 : B = [] := ai6 ha her
        have HNB : Hid (nb = 0) := by show _ = _; rw [hnb, hB0]; rfl
        have HC1 : Hid (∀ (A : Option Addr) (n c : Nat), Sh u n c → ∀ w : World, Rs w A n u.aO → Env w → Calls Tryz.prog 27 #[.agg #[.string (strOf u.au), .string (strOf u.usr), .string (strOf u.MX), .string (strOf u.hst), .bool u.hh, .int .i64 u.port, .bool u.opq, .string (strOf u.txt), .slice A n c, .bool u.hq, .bool u.hf, .string (strOf u.dY), .string (strOf u.fB)]] w fun e w' => (∃ A1 c1 A2 c2, e = .returned (.tuple #[.agg #[.string (strOf M.ty), .string (strOf M.sub), .slice A1 M.ps.length c1], .slice A2 nb c2, .int .i64 er]) ∧ Mp w' M A1 c1 ∧ aY w' A2 nb (ah B) ∧ nb ≤ c2) ∧ Below w.heap.size w w') := fun A n c hS w hR E => by
          have k := EW hS w hR E
          rw [ha, ao8] at k
          rw [hnb]
          exact k.mono fun e w' ⟨⟨A1, c1, A2, c2, h1, h2, h3⟩, h4⟩ => ⟨⟨A1, c1, A2, c2, h1, h2, h3.zB, h3.nc⟩, h4⟩
        have hern : (er != 0) = true := by rw [← ao8]; simp [her]
        clear ho hl h0 ha her ao8 hnb hB0 hfit hbl
        go_enter Tryz.func11, Tryz.ntmps11
        go_wp2_with fail
        refine (JM.out _ HE.out).mono ?_
        rintro e w1 ⟨rfl, hb⟩
        have HB1 := hid hb
        have sO := hid (HE.out.below hb)
        clear hb
        go_wp2_with fail
        refine (yc.out _ sO.out).mono ?_
        rintro e w2 ⟨Aa1, na1, ca1, rfl, hpt, hb⟩
        have HB2 := hid (bel HB1.out hb)
        have xY := hid (sO.out.below hb)
        clear hb
        have PT := hid (hpt)
        clear hpt
        go_upto_region 4 with (fail)
        generalize bI : World.alloc _ _ = v3
        have hxa : UB v3 (w2.heap.size) u (.slice Aa1 na1 ca1) := by rw [← bI]; exact heap_alloc_new _ _
        have hb : Below w2.heap.size w2 v3 := by rw [← bI]; exact (Below.refl _ _).alloc (Nat.le_refl _) _
        have XU := hid hxa
        clear bI hxa
        have HB3 := hid (bel HB2.out hb)
        have vV := hid (xY.out.below hb)
        have adT := hid (PT.out.below hb)
        clear hb
        obtain ⟨hS, hR⟩ := HF1.out _ _ _ _ adT.out
        have aeZ := hid hS
        have HRa := hid hR
        clear hS hR
        obtain ⟨k0, k1, k2, k3, k4, k5, k6, k7, k8, k9, k10, k11, k12⟩ := XU.out.facts
        go_wp2_with fail
        clear k0 k1 k2 k3 k4 k5 k6 k7 k8 k9 k10 k11 k12
        refine (HC1.out _ _ _ aeZ.out _ HRa.out vV.out).mono ?_
        rintro e w4 ⟨⟨Ab1, cb1, Ac1, cc1, rfl, hmp, hbp, hnc⟩, hb⟩
        have HB4 := hid (bel HB3.out hb)
        have Hw := hid (vV.out.below hb)
        have agK := hid (adT.out.below hb)
        have agL := hid (XU.out.below hb)
        clear hb
        have M3 := hid (hmp)
        have B4 := hid (hbp)
        have alK := hid hnc
        clear hmp hbp hnc HRa
        go_upto_region 5 with (fail)
        generalize bI : World.alloc _ _ = v5
        have hxa : B3 44 v5 (w4.heap.size) (.string (strOf M.ty)) (.string (strOf M.sub)) (.slice Ab1 M.ps.length cb1) := by rw [← bI]; exact heap_alloc_new _ _
        have hb : Below w4.heap.size w4 v5 := by rw [← bI]; exact (Below.refl _ _).alloc (Nat.le_refl _) _
        have XM := hid hxa
        clear bI hxa
        have iG := hid (bel HB4.out hb)
        have Uu := hid (Hw.out.below hb)
        have afe := hid (agK.out.below hb)
        have aor := hid (agL.out.below hb)
        have afB := hid (M3.out.below hb)
        have afC := hid (B4.out.below hb)
        clear hb
        have hnb0 : ((nb : Int) == 0) = true := by rw [HNB.out]; rfl
        go_wp2
        go_ret
        exact ⟨rfl, iG.out⟩
  · have hli : (1000 : Int) < ((strOf L).size : Int) := by rw [o9]; omega
    clear hl h0
    go_enter Tryz.func11, Tryz.ntmps11
    go_wp2_with fail
    refine (JM.out _ HE.out).mono ?_
    rintro e w1 ⟨rfl, hb⟩
    have HB1 := hid hb
    have sO := hid (HE.out.below hb)
    clear hb
    go_wp2_with fail
    refine (JM.out _ sO.out).mono ?_
    rintro e w2 ⟨rfl, hb⟩
    have HB2 := hid (bel HB1.out hb)
    have xY := hid (sO.out.below hb)
    clear hb
    go_wp2
    go_ret
    exact ⟨rfl, HB2.out⟩
end Go.Proofs.YtgamccijegollaaGreatDoor.Laws
