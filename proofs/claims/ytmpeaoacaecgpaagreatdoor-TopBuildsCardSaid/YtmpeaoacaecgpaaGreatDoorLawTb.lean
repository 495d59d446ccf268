/- The law TopBuilds, walked. -/
import Derived.Test.YtmpeaoacaecgpaaGreatDoorXAS
import Derived.Test.YtmpeaoacaecgpaaGreatDoorXAU
set_option linter.unusedSimpArgs false
set_option linter.unusedVariables false
namespace Go.Proofs.YtmpeaoacaecgpaaGreatDoor.Laws
open Go.RowKit Go.Proofs.YtmpeaoacaecgpaaGreatDoor.Base Go.Proofs.YtmpeaoacaecgpaaGreatDoor.Base2 Go.Proofs.YtmpeaoacaecgpaaGreatDoor.cO Go.Proofs.YtmpeaoacaecgpaaGreatDoor.PrsP Go.Proofs.YtmpeaoacaecgpaaGreatDoor.mW Go.Proofs.YtmpeaoacaecgpaaGreatDoor.wo Go.Proofs.YtmpeaoacaecgpaaGreatDoor.UG Go.Proofs.YtmpeaoacaecgpaaGreatDoor.rC Go.Proofs.YtmpeaoacaecgpaaGreatDoor.qg Go.Proofs.YtmpeaoacaecgpaaGreatDoor.oG Go.Proofs.YtmpeaoacaecgpaaGreatDoor.JY Go.Proofs.YtmpeaoacaecgpaaGreatDoor.Ce Go.Proofs.YtmpeaoacaecgpaaGreatDoor.YX Go.Proofs.YtmpeaoacaecgpaaGreatDoor.J7 Go.Proofs.YtmpeaoacaecgpaaGreatDoor.OY Go.Proofs.YtmpeaoacaecgpaaGreatDoor.jQ Go.Proofs.YtmpeaoacaecgpaaGreatDoor.pO Go.Proofs.YtmpeaoacaecgpaaGreatDoor.vZ Go.Proofs.YtmpeaoacaecgpaaGreatDoor.acs Go.Proofs.YtmpeaoacaecgpaaGreatDoor.ND Go.Proofs.YtmpeaoacaecgpaaGreatDoor.NH Go.Proofs.YtmpeaoacaecgpaaGreatDoor.sV Go.Proofs.YtmpeaoacaecgpaaGreatDoor.BG Go.Proofs.YtmpeaoacaecgpaaGreatDoor.J6 Go.Proofs.YtmpeaoacaecgpaaGreatDoor.CQ Go.Proofs.YtmpeaoacaecgpaaGreatDoor.agJ Go.Proofs.YtmpeaoacaecgpaaGreatDoor.aji
open Go.Proofs.YtmpeaoacaecgpaaGreatDoor.aZ (adw)
open Go.Proofs.YtmpeaoacaecgpaaGreatDoor.ajj (EU qH)
open Go.Proofs.YtmpeaoacaecgpaaGreatDoor.ajk (ae4)

theorem ac5 (letters : Bool) {M : MT} {B : List UInt8} (hF : vY (strOf M.ty) (strOf M.sub) (nY M.ps)) (hB : B.length ≤ 500) (h : kR M.ty M.sub M.ps = true) : bld letters M B = (mk letters M B, 0) := by
  have h1 := KW letters hF B hB
  have h2 : fD M.ty M.sub M.ps = true := by unfold kR at h; rw [Bool.and_eq_true] at h; exact h.1
  unfold bld
  rw [if_pos h2, if_neg (by omega), if_neg (by omega), if_pos (qH letters B h)]
set_option linter.unusedSimpArgs false in
set_option linter.unusedVariables false in
set_option maxRecDepth 100000 in
set_option maxHeartbeats 8000000 in
theorem abg (T S : ByteArray) (A : Option Addr) (n cap : Nat) (l : List (ByteArray × ByteArray)) (A1 : Option Addr) (n1 c1 : Nat) (L : List UInt8) (w : World) (hTs : T.size ≤ 140737488351232) (XK : S.size ≤ 140737488351232) (hr : rC.zH w A n l) (hc : n ≤ cap) (hm : cap ≤ maxLen) (hsh : CQ.Short l) (hrd : aY w A1 n1 (ah L)) (hc1 : n1 ≤ c1) (_z : c1 * 1 ≤ 140737488351232) (hT : Tab.Pow w) (hL : oI w) (hM : Max w) (hU : rD w) :
    Calls Tryz.prog 9 #[.agg #[.string T, .string S, .slice A n cap], .slice A1 n1 c1] w fun e w' => e = .returned (.bool true) ∧ Below w.heap.size w w' := by
  have HE := hid (⟨hT, hL, hM, hU⟩ : Env w)
  have JM : Hid (∀ w : World, Env w → Calls Tryz.prog 40 #[] w fun e w' => e = .returned (.bool true) ∧ Below w.heap.size w w') := fun w E => akA.Xj w ⟨E.pow, E.max, E.Hq⟩
  have hll : l.length = n := hr.1
  obtain ⟨M, XJ⟩ : ∃ M : MT, M = ⟨T.data.toList, S.data.toList, mQ l⟩ := ⟨_, rfl⟩
  have hval : Value.agg #[.string T, .string S, .slice A n cap] = .agg #[.string (strOf M.ty), .string (strOf M.sub), .slice A M.ps.length cap] := by rw [XJ]; simp only [aG]; rw [qO, hll]
  have hps : nY M.ps = l := by rw [XJ]; exact psS_P l
  have hpl : M.ps.length = n := by rw [XJ]; show (mQ l).length = n; rw [qO, hll]
  have hmp : Mp w M A cap := ⟨by rw [hpl]; exact hc, hm, by rw [hpl, hps]; exact hr⟩
  have HMP := hid hmp
  have uq := hid hrd
  have hlL : L.length = n1 := by rw [← aI]; exact hrd.1
  have hty : (strOf M.ty).size ≤ 140737488351232 := by rw [XJ]; simp only [aG]; exact hTs
  have hsb : (strOf M.sub).size ≤ 140737488351232 := by rw [XJ]; simp only [aG]; exact XK
  have HFW : Hid (∀ w : World, Mp w M A cap → Calls Tryz.prog 33 #[.agg #[.string (strOf M.ty), .string (strOf M.sub), .slice A M.ps.length cap]] w (NY w (strOf M.ty) (strOf M.sub) (nY M.ps))) := fun w h => BG.afr (strOf M.ty) (strOf M.sub) A M.ps.length cap (nY M.ps) w h.prm h.nc h.cm (by rw [hps]; exact hsh) hty hsb
  have HBD : Hid (n1 ≤ 500 → vY (strOf M.ty) (strOf M.sub) (nY M.ps) → kR M.ty M.sub M.ps = true → ∀ (letters : Bool) (w : World), Mp w M A cap → aY w A1 n1 (ah L) → Env w → Calls Tryz.prog 35 #[.agg #[.string (strOf M.ty), .string (strOf M.sub), .slice A M.ps.length cap], .slice A1 n1 c1, .bool letters] w fun e w' => e = .returned (.tuple #[.string (strOf (mk letters M L)), .int .i64 0]) ∧ Below w.heap.size w w') := fun hn hF hp letters w h k E => by
    have q := Ky letters M A cap A1 n1 c1 L w h k hc1 (by omega) E (fun w' h' => EU hF w' h') (by have := Lm hF; omega) (J6.vY.mid hF) (.inl (KW letters hF L (by omega)))
    rw [ac5 letters hF (by omega) hp] at q
    exact q
  have HPF : Hid (vY (strOf M.ty) (strOf M.sub) (nY M.ps) → ∀ w : World, Mp w M A cap → Calls Tryz.prog 34 #[.agg #[.string (strOf M.ty), .string (strOf M.sub), .slice A M.ps.length cap]] w fun e w' => ∃ b : Bool, e = .returned (.bool b) ∧ (b = true → kR M.ty M.sub M.ps = true) ∧ Below w.heap.size w w') := fun hF w h => (ajk.Jr (strOf M.ty) (strOf M.sub) A M.ps.length cap (nY M.ps) w h.prm h.nc h.cm hF).mono fun e w' ⟨b, h1, h2, h3⟩ => ⟨b, h1, fun q => by have h4 := h2 q; rw [Rj] at h4; exact h4, h3⟩
  have HLN := hid hlL
  rw [hval]
  clear hval hps hpl hmp hty hsb XJ hll hTs XK hr hc hm hsh hrd hc1 _z hT hL hM hU hlL
  go_enter Tryz.func9, Tryz.ntmps9
  go_upto_region 1 with (fail)
  generalize bI : World.alloc _ _ = v1
  have hxa : B3 44 v1 (w.heap.size) (.string (strOf M.ty)) (.string (strOf M.sub)) (.slice A M.ps.length cap) := by rw [← bI]; exact heap_alloc_new _ _
  have hb : Below w.heap.size w v1 := by rw [← bI]; exact (Below.refl _ _).alloc (Nat.le_refl _) _
  have XM := hid hxa
  clear bI hxa
  have HB1 := hid hb
  have sO := hid (HE.out.below hb)
  have TG := hid (HMP.out.below hb)
  have RD_1 := hid (uq.out.below hb)
  clear hb
  go_wp2_with fail
  refine (JM.out _ sO.out).mono ?_
  rintro e w2 ⟨rfl, hb⟩
  have HB2 := hid (bel HB1.out hb)
  have xY := hid (sO.out.below hb)
  have Nz := hid (TG.out.below hb)
  have RD_2 := hid (RD_1.out.below hb)
  have NK := hid (XM.out.below hb)
  clear hb
  obtain ⟨m0, m1, m2⟩ := NK.out.facts
  go_wp2_with fail
  clear m0 m1 m2
  refine (HFW.out _ Nz.out).mono ?_
  rintro e wf ⟨fb, rfl, hfb, hb⟩
  have HB3 := hid (bel HB2.out hb)
  have vV := hid (xY.out.below hb)
  have Gi := hid (Nz.out.below hb)
  have acP := hid (RD_2.out.below hb)
  have Gq := hid (NK.out.below hb)
  clear hb
  cases fb with
  | false =>
    clear hfb
    go_wp2_with fail
    refine (JM.out _ vV.out).mono ?_
    rintro e w4 ⟨rfl, hb⟩
    have HB4 := hid (bel HB3.out hb)
    have Hw := hid (vV.out.below hb)
    have NC := hid (Gi.out.below hb)
    have WT := hid (acP.out.below hb)
    have NM := hid (Gq.out.below hb)
    clear hb
    go_wp2
    go_ret
    exact ⟨rfl, HB4.out⟩
  | true =>
    have hF := hfb rfl
    have HF := hid hF
    clear hfb hF
    by_cases hn : n1 ≤ 500
    ·
      have hni : ¬ (500 : Int) < (n1 : Int) := by omega
      have HB0 := hid (HBD.out hn HF.out)
      have YP := hid (HPF.out HF.out)
      have HN := hid hn
      clear HBD HPF hn
      obtain ⟨m0, m1, m2⟩ := Gq.out.facts
      go_wp2_with fail
      clear m0 m1 m2
      refine (YP.out _ Gi.out).mono ?_
      rintro e wg ⟨pb, rfl, hpb, hb⟩
      have HB4 := hid (bel HB3.out hb)
      have Hw := hid (vV.out.below hb)
      have NC := hid (Gi.out.below hb)
      have WT := hid (acP.out.below hb)
      have NM := hid (Gq.out.below hb)
      clear hb
      cases pb with
      | false =>
        clear hpb
        go_wp2_with fail
        refine (JM.out _ Hw.out).mono ?_
        rintro e w5 ⟨rfl, hb⟩
        have iG := hid (bel HB4.out hb)
        have Uu := hid (Hw.out.below hb)
        have Zt := hid (NC.out.below hb)
        have akj := hid (WT.out.below hb)
        have ZC := hid (NM.out.below hb)
        clear hb
        go_wp2
        go_ret
        exact ⟨rfl, iG.out⟩
      | true =>
        have hpl := hpb rfl
        have HBQ := hid (HB0.out hpl)
        have vW := hid hpl
        clear hpb hpl HB0 YP HFW JM
        go_upto_region 4 with (fail)
        generalize bI : World.alloc _ _ = vb
        have hb : Below wg.heap.size wg vb := by rw [← bI]; exact (Below.refl _ _).alloc (Nat.le_refl _) _
        have alS : vb.cell? ⟨wg.heap.size, 0, none⟩ = some (.bool true) := by rw [← bI]; exact cell_of_row _ _ 0 _ _ _ (heap_alloc_new _ _)
        have alT : vb.cell? ⟨wg.heap.size, 1, none⟩ = some (.bool false) := by rw [← bI]; exact cell_of_row _ _ 1 _ _ _ (heap_alloc_new _ _)
        have hcl : ∀ k : Nat, k < 2 → ∃ b : Bool, vb.cell? ⟨wg.heap.size, k, none⟩ = some (.bool b) := fun k hk => by
          rcases (by omega : k = 0 ∨ k = 1) with rfl | rfl
          · exact ⟨_, alS⟩
          · exact ⟨_, alT⟩
        have hgl : wg.heap.size < vb.heap.size := by rw [← bI]; simp
        have HCL := hid hcl
        have HGL := hid hgl
        clear bI alS alT hcl hgl
        have iG := hid (bel HB4.out hb)
        have Uu := hid (Hw.out.below hb)
        have Zt := hid (NC.out.below hb)
        have akj := hid (WT.out.below hb)
        have ZC := hid (NM.out.below hb)
        clear hb
        go_wp2
        go_loopw [6, 7, 8, 9, 10, 11, 12, 13, 34] (fun _ _ _ _ _ _ _ _ vk wr => ∃ k : Nat, k ≤ 2 ∧ vk = .int .i64 (k : Int) ∧ Below vb.heap.size vb wr) (fun _ _ _ _ _ _ _ _ vk _ => 2 - (intOf vk).toNat)
        case atStart => exact ⟨0, by omega, rfl, Below.refl _ _⟩
        case round =>
          obtain ⟨k, hk, rfl, hbl⟩ := hrel
          by_cases hlt : k < 2
          ·
            obtain ⟨b, hcb⟩ := HCL.out k hlt
            have hcell := (hbl.cell (p := ⟨wg.heap.size, k, none⟩) HGL.out).trans hcb
            have hki : (k : Int) < 2 := by omega
            have HKL := hid hlt
            obtain ⟨u, hu0⟩ : ∃ u, u = uM (zf b M.ty M.sub M.ps L) := ⟨_, rfl⟩
            obtain ⟨X1, hX1⟩ : ∃ X, X = strOf (mk b M L) := ⟨_, rfl⟩
            obtain ⟨u', e1, er1, an1⟩ := abw (qH b L vW.out)
            have alM : X1.data.toList = mk b M L := by rw [hX1]; rfl
            rw [← alM] at e1
            have hz1 : X1.size ≤ 26000 := by rw [hX1, size_strOf]; exact KW b HF.out L (by rw [HLN.out]; exact HN.out)
            clear hu0
            have f1 := oN.AZ (M := 0) e1 (fun _ e => by cases e)
            have HF1 : Hid (∀ (w : World) (A : Option Addr) (n c : Nat), Pt w u' A n c → Sh u' n c ∧ Rs w A n u'.aO) := fun w A n c h => ⟨agl f1 (by rw [Ce.dl]; omega) h, ⟨h.aO.1⟩⟩
            have yc : Hid (∀ w, Env w → Calls Tryz.prog 16 #[.string X1, .pointer none] w fun e w' => ∃ A' n' c', e = .returned (.tuple #[.agg #[.string (strOf u'.au), .string (strOf u'.usr), .string (strOf u'.pwd), .string (strOf u'.hst), .bool u'.hh, .int .i64 u'.port, .bool u'.opq, .string (strOf u'.txt), .slice A' n' c', .bool u'.hq, .bool u'.hf, .string (strOf u'.dY), .string (strOf u'.fB)], .int .i64 0]) ∧ Pt w' u' A' n' c' ∧ Below w.heap.size w w') := fun w E => jB e1 (by omega) w E
            have HC1 : Hid (∀ (A : Option Addr) (n c : Nat), Sh u' n c → ∀ w : World, Rs w A n u'.aO → Env w → Calls Tryz.prog 27 #[.agg #[.string (strOf u'.au), .string (strOf u'.usr), .string (strOf u'.pwd), .string (strOf u'.hst), .bool u'.hh, .int .i64 u'.port, .bool u'.opq, .string (strOf u'.txt), .slice A n c, .bool u'.hq, .bool u'.hf, .string (strOf u'.dY), .string (strOf u'.fB)]] w fun e w' => (∃ A1 c1 A2 c2, e = .returned (.tuple #[.agg #[.string (strOf M.ty), .string (strOf M.sub), .slice A1 M.ps.length c1], .slice A2 L.length c2, .int .i64 0]) ∧ Mp w' M A1 c1 ∧ Bp w' L A2 c2) ∧ Below w.heap.size w w') := fun A n c hS w hR E => by
              have k := EW hS w hR E
              rw [an1, er1] at k
              exact k
            have HBL1 : Hid (∀ w : World, Mp w M A cap → aY w A1 n1 (ah L) → Env w → Calls Tryz.prog 35 #[.agg #[.string (strOf M.ty), .string (strOf M.sub), .slice A M.ps.length cap], .slice A1 n1 c1, .bool b] w fun e w' => e = .returned (.tuple #[.string X1, .int .i64 0]) ∧ Below w.heap.size w w') := by rw [hX1]; exact HBQ.out b
            have JO : Hid (∀ (A A2 : Option Addr) (c c2 : Nat) (w : World), Mp w M A c → Mp w M A2 c2 → Calls Tryz.prog 29 #[.agg #[.string (strOf M.ty), .string (strOf M.sub), .slice A M.ps.length c], .agg #[.string (strOf M.ty), .string (strOf M.sub), .slice A2 M.ps.length c2]] w fun e w' => e = .returned (.bool true) ∧ Below w.heap.size w w') := fun A A2 c c2 w h k => by
              have h1 := J7.jW (strOf M.ty) (strOf M.sub) A M.ps.length c (nY M.ps) (strOf M.ty) (strOf M.sub) A2 M.ps.length c2 (nY M.ps) w h.prm k.prm h.nc h.cm k.nc k.cm
              rw [OY.Ls] at h1
              exact h1
            obtain ⟨SL, hSL⟩ : ∃ S, S = strOf L := ⟨_, rfl⟩
            have HSL := hid hSL
            have qs : (SL.toList == SL.toList) = true := beq_self_eq_true _
            have qn : (SL.toList != SL.toList) = false := by simp
            have HBR := hid hbl
            have hb := hbl
            clear hSL e1 er1 an1 alM hz1 f1 hX1 hlt hcb hk
            have E_6 := hid (Uu.out.below hb)
            have agT := hid (Zt.out.below hb)
            have akk := hid (akj.out.below hb)
            have ag2 := hid (ZC.out.below hb)
            clear hb hbl
            obtain ⟨m0, m1, m2⟩ := ag2.out.facts
            go_wp2_with fail
            clear m0 m1 m2 hcell
            refine (HBL1.out _ agT.out akk.out E_6.out).mono ?_
            rintro e wk ⟨rfl, hb⟩
            have kZ := hid (bel HBR.out hb)
            have E_7 := hid (E_6.out.below hb)
            have MP_7 := hid (agT.out.below hb)
            have RD_7 := hid (akk.out.below hb)
            have XM_7 := hid (ag2.out.below hb)
            clear hb
            go_wp2_with fail
            refine (yc.out _ E_7.out).mono ?_
            rintro e w8 ⟨A7, n7, c7, rfl, hpt, hb⟩
            have H7 := hid (bel kZ.out hb)
            have E_8 := hid (E_7.out.below hb)
            have MP_8 := hid (MP_7.out.below hb)
            have RD_8 := hid (RD_7.out.below hb)
            have XM_8 := hid (XM_7.out.below hb)
            clear hb
            have T7 := hid (hpt)
            clear hpt
            go_upto_region 8 with (fail)
            generalize bI : World.alloc _ _ = v9
            have hxa : UB v9 (w8.heap.size) u' (.slice A7 n7 c7) := by rw [← bI]; exact heap_alloc_new _ _
            have hb : Below w8.heap.size w8 v9 := by rw [← bI]; exact (Below.refl _ _).alloc (Nat.le_refl _) _
            have X7 := hid hxa
            clear bI hxa
            have Y0 := hid (bel H7.out hb)
            have E_9 := hid (E_8.out.below hb)
            have MP_9 := hid (MP_8.out.below hb)
            have RD_9 := hid (RD_8.out.below hb)
            have XM_9 := hid (XM_8.out.below hb)
            have akz := hid (T7.out.below hb)
            clear hb
            obtain ⟨hS, hR⟩ := HF1.out _ _ _ _ akz.out
            have HSa := hid hS
            have HRa := hid hR
            clear hS hR
            obtain ⟨k0, k1, k2, k3, k4, k5, k6, k7, k8, k9, k10, k11, k12⟩ := X7.out.facts
            go_wp2_with fail
            clear k0 k1 k2 k3 k4 k5 k6 k7 k8 k9 k10 k11 k12
            refine (HC1.out _ _ _ HSa.out _ HRa.out E_9.out).mono ?_
            rintro e w10 ⟨⟨A3, c3, A4, c4, rfl, hmp, hbp⟩, hb⟩
            have JZ := hid (bel Y0.out hb)
            have ajp := hid (E_9.out.below hb)
            have ajX := hid (MP_9.out.below hb)
            have akg := hid (RD_9.out.below hb)
            have akN := hid (XM_9.out.below hb)
            have akx := hid (akz.out.below hb)
            have akH := hid (X7.out.below hb)
            clear hb
            clear HSa HRa
            have M3 := hid (hmp)
            have B4 := hid (hbp)
            clear hmp hbp
            go_upto_region 9 with (fail)
            generalize bI : World.alloc _ _ = v11
            have hxa : B3 44 v11 (w10.heap.size) (.string (strOf M.ty)) (.string (strOf M.sub)) (.slice A3 M.ps.length c3) := by rw [← bI]; exact heap_alloc_new _ _
            have hb : Below w10.heap.size w10 v11 := by rw [← bI]; exact (Below.refl _ _).alloc (Nat.le_refl _) _
            have Y3 := hid hxa
            clear bI hxa
            have YZ := hid (bel JZ.out hb)
            have E_11 := hid (ajp.out.below hb)
            have Zr := hid (ajX.out.below hb)
            have akh := hid (akg.out.below hb)
            have ZB := hid (akN.out.below hb)
            have aky := hid (akx.out.below hb)
            have akI := hid (akH.out.below hb)
            have Zq := hid (M3.out.below hb)
            have aje := hid (B4.out.below hb)
            clear hb
            obtain ⟨m0, m1, m2⟩ := Y3.out.facts
            obtain ⟨n0, n1', n2⟩ := ZB.out.facts
            go_wp2_with fail
            clear m0 m1 m2 n0 n1' n2
            refine (JO.out _ _ _ _ _ Zq.out Zr.out).mono ?_
            rintro e wz ⟨rfl, hb⟩
            have aju := hid (bel YZ.out hb)
            have E_12 := hid (E_11.out.below hb)
            have MP_12 := hid (Zr.out.below hb)
            have aki := hid (akh.out.below hb)
            have XM_12 := hid (ZB.out.below hb)
            have T7_12 := hid (aky.out.below hb)
            have X7_12 := hid (akI.out.below hb)
            have M3_12 := hid (Zq.out.below hb)
            have ajf := hid (aje.out.below hb)
            have Y3_12 := hid (Y3.out.below hb)
            clear hb
            have hs := aF (P := Tryz.prog) 45 9 5 Tryz.underlying45 Tryz.underlying5 Tryz.underlying9 _ c4 ajf.out.zB
            rw [← HSL.out] at hs
            have ht := aF (P := Tryz.prog) 45 9 5 Tryz.underlying45 Tryz.underlying5 Tryz.underlying9 _ c1 aki.out
            rw [← HSL.out] at ht
            go_wp2
            go_roundw
            case rel => exact ⟨k + 1, by have := HKL.out; omega, by go_num, aju.out⟩
            case measure => have := HKL.out; simp [intOf]; omega
          ·
            obtain rfl : k = 2 := by omega
            have HBR := hid (bel iG.out hbl)
            go_wp2
            go_ret
            exact ⟨rfl, HBR.out⟩
    ·
      have hni : (500 : Int) < (n1 : Int) := by omega
      clear hn
      go_wp2_with fail
      refine (JM.out _ vV.out).mono ?_
      rintro e w4 ⟨rfl, hb⟩
      have HB4 := hid (bel HB3.out hb)
      have Hw := hid (vV.out.below hb)
      have NC := hid (Gi.out.below hb)
      have WT := hid (acP.out.below hb)
      have NM := hid (Gq.out.below hb)
      clear hb
      go_wp2
      go_ret
      exact ⟨rfl, HB4.out⟩
end Go.Proofs.YtmpeaoacaecgpaaGreatDoor.Laws
