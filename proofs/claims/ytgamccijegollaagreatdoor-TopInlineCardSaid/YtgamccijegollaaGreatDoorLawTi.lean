/- The law TopInline, walked. -/
import Derived.Test.YtgamccijegollaaGreatDoorFNAAY
import Derived.Test.YtgamccijegollaaGreatDoorFNAAW
set_option linter.unusedSimpArgs false
set_option linter.unusedVariables false
namespace Go.Proofs.YtgamccijegollaaGreatDoor.Laws
open Go.RowKit Go.Proofs.YtgamccijegollaaGreatDoor.Base Go.Proofs.YtgamccijegollaaGreatDoor.Dp Go.Proofs.YtgamccijegollaaGreatDoor.L6 Go.Proofs.YtgamccijegollaaGreatDoor.Kq Go.Proofs.YtgamccijegollaaGreatDoor.mW Go.Proofs.YtgamccijegollaaGreatDoor.wS Go.Proofs.YtgamccijegollaaGreatDoor.tK Go.Proofs.YtgamccijegollaaGreatDoor.UG Go.Proofs.YtgamccijegollaaGreatDoor.acs Go.Proofs.YtgamccijegollaaGreatDoor.ES Go.Proofs.YtgamccijegollaaGreatDoor.ajr Go.Proofs.YtgamccijegollaaGreatDoor.akM Go.Proofs.YtgamccijegollaaGreatDoor.aoa Go.Proofs.YtgamccijegollaaGreatDoor.apO Go.Proofs.YtgamccijegollaaGreatDoor.L6
open Go.Proofs.YtgamccijegollaaGreatDoor.jQ (oI)
open Go.Proofs.YtgamccijegollaaGreatDoor.pO (Max)
open Go.Proofs.YtgamccijegollaaGreatDoor.vZ (rD)
open Go.Proofs.YtgamccijegollaaGreatDoor.aj6 (zC)
open Go.Proofs.YtgamccijegollaaGreatDoor.apv (nI)
open Go.Proofs.YtgamccijegollaaGreatDoor.oG (B3)
open Go.Proofs.YtgamccijegollaaGreatDoor.sV (dS)
set_option linter.unusedSimpArgs false
set_option linter.unusedVariables false
set_option maxRecDepth 100000 in
set_option maxHeartbeats 8000000 in
theorem alL (s0 s h : ByteArray) (p n : Int) (s1 : ByteArray) (w : World) (h0 : s0.size ≤ 140737488351232) (_hs : s.size ≤ 140737488351232) (_hh : h.size ≤ 140737488351232) (_hp : -9223372036854775808 ≤ p ∧ p ≤ 9223372036854775807) (_hn : -9223372036854775808 ≤ n ∧ n ≤ 9223372036854775807) (h1 : s1.size ≤ 140737488351232) (hT : Tab.Pow w) (hL : oI w) (hM : Max w) (hU : rD w) : Calls Tryz.prog 12 #[.string s0, .agg #[.string s, .string h, .int .i64 p, .int .i64 n], .string s1] w fun e w' => e = .returned (.bool true) ∧ Below w.heap.size w w' := by
  have HE := hid (⟨hT, hL, hM, hU⟩ : Env w)
  have JM : Hid (∀ w : World, Env w → Calls Tryz.prog 46 #[] w fun e w' => e = .returned (.bool true) ∧ Below w.heap.size w w') := fun w E => akA.Xj w ⟨E.pow, E.max, E.Hq⟩
  clear hT hL hM hU _hs _hh _hp _hn
  obtain ⟨L, rfl⟩ : ∃ L, s0 = strOf L := ⟨s0.data.toList, (aG s0).symm⟩
  rw [o9] at h0
  have HNW : Hid (∀ w : World, Calls Tryz.prog 47 #[.agg #[.int .i64 1, .int .i64 1, .int .i64 5]] w fun e w' => ∃ gs : Nat, e = .returned (.tuple #[.pointer (some ⟨gs, 0, none⟩), .int .i64 0]) ∧ Below w.heap.size w w') := fun w => (TK.amy 1 1 5 (by decide) (by decide) (by decide) (by decide) (by decide) w).mono fun e w' ⟨gs, gt, gu, gm, h1, _, h2⟩ => ⟨gs, h1, h2⟩
  by_cases hl : L.length ≤ 1000
  · by_cases hl1 : s1.size ≤ 200
    · have hli : ¬ (1000 : Int) < ((strOf L).size : Int) := by rw [o9]; omega
      have hli1 : ¬ (200 : Int) < (s1.size : Int) := by omega
      cases ho : wS.url L none with
      | none =>
        obtain ⟨u, hu0⟩ : ∃ u, u = U0 := ⟨_, rfl⟩
        have yc : Hid (∀ w : World, Env w → Calls Tryz.prog 16 #[.string (strOf L), .pointer none] w fun e w' => ∃ A' n' c', e = .returned (.tuple #[.agg #[.string (strOf u.au), .string (strOf u.usr), .string (strOf u.MX), .string (strOf u.hst), .bool u.hh, .int .i64 u.port, .bool u.opq, .string (strOf u.txt), .slice A' n' c', .bool u.hq, .bool u.hf, .string (strOf u.dY), .string (strOf u.fB)], .int .i64 2]) ∧ Pt w' u A' n' c' ∧ Below w.heap.size w w') := fun w E => GZ (T := strOf L) hu0 ho (by rw [o9]; omega) w E
        clear ho hl hl1 h0 h1 hu0
        go_enter Tryz.func12, Tryz.ntmps12
        go_upto_region 1 with (fail)
        generalize bI : World.alloc (World.alloc w _) _ = v1
        obtain ⟨ho1_, hs1_, hb1_⟩ : OB v1 w.heap.size s h p n ∧ SB v1 (w.heap.size + 1) s1 ∧ Below w.heap.size w v1 := by subst bI; exact aeU w s h p n s1
        clear bI
        have HB1 := hid hb1_
        have sO := hid (HE.out.below hb1_)
        clear hb1_
        have XO := hid ho1_
        have XS := hid hs1_
        clear ho1_ hs1_
        go_wp2_with fail
        refine (JM.out _ sO.out).mono ?_
        rintro e w2 ⟨rfl, hb⟩
        have HB2 := hid (bel HB1.out hb)
        have xY := hid (sO.out.below hb)
        have aex := hid (XO.out.below hb)
        have adH := hid (XS.out.below hb)
        clear hb
        have hst := adH.out.cell
        go_wp2_with fail
        clear hst
        refine (HNW.out _).mono ?_
        rintro e w3 ⟨gs, rfl, hb⟩
        have HB3 := hid (bel HB2.out hb)
        have vV := hid (xY.out.below hb)
        have aob := hid (aex.out.below hb)
        have aog := hid (adH.out.below hb)
        clear hb
        go_wp2_with fail
        refine (yc.out _ vV.out).mono ?_
        rintro e w4 ⟨A1, n1, c1, rfl, hpt, hb⟩
        have HB4 := hid (bel HB3.out hb)
        have Hw := hid (vV.out.below hb)
        have ajP := hid (aob.out.below hb)
        have ajS := hid (aog.out.below hb)
        clear hb
        have PT := hid (hpt)
        clear hpt
        go_upto_region 5 with (fail)
        generalize bI : World.alloc _ _ = v5
        have hxa : UB v5 (w4.heap.size) u (.slice A1 n1 c1) := by rw [← bI]; exact heap_alloc_new _ _
        have hb : Below w4.heap.size w4 v5 := by rw [← bI]; exact (Below.refl _ _).alloc (Nat.le_refl _) _
        have XU := hid hxa
        clear bI hxa
        have iG := hid (bel HB4.out hb)
        have Uu := hid (Hw.out.below hb)
        have aom := hid (ajP.out.below hb)
        have aoo := hid (ajS.out.below hb)
        have afe := hid (PT.out.below hb)
        clear hb
        go_wp2
        go_ret
        exact ⟨rfl, iG.out⟩
      | some u =>
        have yc : Hid (∀ w : World, Env w → Calls Tryz.prog 16 #[.string (strOf L), .pointer none] w fun e w' => ∃ A' n' c', e = .returned (.tuple #[.agg #[.string (strOf u.au), .string (strOf u.usr), .string (strOf u.MX), .string (strOf u.hst), .bool u.hh, .int .i64 u.port, .bool u.opq, .string (strOf u.txt), .slice A' n' c', .bool u.hq, .bool u.hf, .string (strOf u.dY), .string (strOf u.fB)], .int .i64 0]) ∧ Pt w' u A' n' c' ∧ Below w.heap.size w w') := fun w E => jB (T := strOf L) ho (by rw [o9]; omega) w E
        by_cases apx : u.au = [100, 97, 116, 97]
        · have qs : ((strOf u.au).toList == [100, 97, 116, 97]) = true := by rw [Ce.aK, apx]; rfl
          have hz : WV.qI u = 0 := by unfold WV.qI; rw [if_pos apx]
          have WC : Hid (∀ (w : World) (A : Option Addr) (n c : Nat), Pt w u A n c → Sh u n c ∧ Rs w A n u.aO) := fun w A n c k => ⟨aox ho (by omega) k.aO, ⟨k.aO.1⟩⟩
          obtain ⟨⟨M, B⟩, ha⟩ : ∃ v, Ig u = v := ⟨_, rfl⟩
          obtain ⟨er, her⟩ : ∃ z, aai u = z := ⟨_, rfl⟩
          obtain ⟨nb, hnb⟩ : ∃ k, k = B.length := ⟨_, rfl⟩
          have HPC : Hid (∀ (A : Option Addr) (n c : Nat), Sh u n c → ∀ w : World, Rs w A n u.aO → Env w → Calls Tryz.prog 27 #[.agg #[.string (strOf u.au), .string (strOf u.usr), .string (strOf u.MX), .string (strOf u.hst), .bool u.hh, .int .i64 u.port, .bool u.opq, .string (strOf u.txt), .slice A n c, .bool u.hq, .bool u.hf, .string (strOf u.dY), .string (strOf u.fB)]] w fun e w' => (∃ A1 c1 A2 c2, e = .returned (.tuple #[.agg #[.string (strOf M.ty), .string (strOf M.sub), .slice A1 M.ps.length c1], .slice A2 nb c2, .int .i64 er]) ∧ Mp w' M A1 c1 ∧ aY w' A2 nb (ah B)) ∧ Below w.heap.size w w') := fun A n c hS w hR E => by
            have k := EW hS w hR E
            rw [ha, her] at k
            rw [hnb]
            exact k.mono fun e w' ⟨⟨A1, c1, A2, c2, h1, h2, h3⟩, h4⟩ => ⟨⟨A1, c1, A2, c2, h1, h2, h3.zB⟩, h4⟩
          by_cases he : er = 0
          · obtain ⟨K, hK⟩ : ∃ K, K = strOf (dS M.ty M.sub M.ps) := ⟨_, rfl⟩
            have BD : Hid (∀ (pv : Option Addr) (sp : Value) (w : World), Env w → Calls Tryz.prog 48 #[.pointer pv, .string (strOf L), .agg #[.string s, .string h, .int .i64 p, .int .i64 n], sp] w fun e w' => ∃ A2 c2, e = .returned (.agg #[.int .i64 0, .int .i64 200, .int .i64 0, .int .i64 (nb : Int), .string K, .slice A2 nb c2]) ∧ aY w' A2 nb (ah B) ∧ Below w.heap.size w w') := fun pv sp w E => by
              rw [hK, hnb]
              exact (apZ.aqo ho (by omega) hz M B ha (her.trans he) pv sp s h p n w E).mono fun e w' ⟨A2, c2, h1, h2, h3⟩ => ⟨A2, c2, h1, h2.zB, h3⟩
            have HS2 : Hid (∀ (pv : Option Addr) (sp : Value) (w : World), Env w → Calls Tryz.prog 48 #[.pointer pv, .string (strOf L), .agg #[.string ⟨#[]⟩, .string ⟨#[]⟩, .int .i64 0, .int .i64 0], sp] w fun e w' => ∃ A2 c2, e = .returned (.agg #[.int .i64 0, .int .i64 200, .int .i64 0, .int .i64 (nb : Int), .string K, .slice A2 nb c2]) ∧ aY w' A2 nb (ah B) ∧ Below w.heap.size w w') := fun pv sp w E => by
              rw [hK, hnb]
              exact (apZ.aqo ho (by omega) hz M B ha (her.trans he) pv sp ⟨#[]⟩ ⟨#[]⟩ 0 0 w E).mono fun e w' ⟨A2, c2, h1, h2, h3⟩ => ⟨A2, c2, h1, h2.zB, h3⟩
            have UA : Hid (∀ (n c : Nat), Sh u n c → ∀ (A : Option Addr) (c1 : Nat) (w : World), Mp w M A c1 → Calls Tryz.prog 49 #[.agg #[.string (strOf M.ty), .string (strOf M.sub), .slice A M.ps.length c1]] w fun e w' => e = .returned (.string K) ∧ Below w.heap.size w w') := fun n c hS A c1 w k => by
              have q := aja hS
              rw [ha] at q
              rw [hK]
              exact ajL q w k
            have qk : (K.toList == K.toList) = true := beq_self_eq_true _
            have qkn : (K.toList != K.toList) = false := by simp
            obtain ⟨SL, hSL⟩ : ∃ S, S = strOf B := ⟨_, rfl⟩
            have HSL := hid hSL
            have ql : (SL.toList == SL.toList) = true := beq_self_eq_true _
            have qln : (SL.toList != SL.toList) = false := by simp
            subst he
            clear hSL hK ho hl hl1 h0 h1 ha her hnb hz apx
            go_enter Tryz.func12, Tryz.ntmps12
            go_upto_region 1 with (fail)
            generalize bI : World.alloc (World.alloc w _) _ = v1
            obtain ⟨ho1_, hs1_, hb1_⟩ : OB v1 w.heap.size s h p n ∧ SB v1 (w.heap.size + 1) s1 ∧ Below w.heap.size w v1 := by subst bI; exact aeU w s h p n s1
            clear bI
            have HB1 := hid hb1_
            have sO := hid (HE.out.below hb1_)
            clear hb1_
            have XO := hid ho1_
            have XS := hid hs1_
            clear ho1_ hs1_
            go_wp2_with fail
            refine (JM.out _ sO.out).mono ?_
            rintro e w2 ⟨rfl, hb⟩
            have HB2 := hid (bel HB1.out hb)
            have xY := hid (sO.out.below hb)
            have aex := hid (XO.out.below hb)
            have adH := hid (XS.out.below hb)
            clear hb
            have hst := adH.out.cell
            go_wp2_with fail
            clear hst
            refine (HNW.out _).mono ?_
            rintro e w3 ⟨gs, rfl, hb⟩
            have HB3 := hid (bel HB2.out hb)
            have vV := hid (xY.out.below hb)
            have aob := hid (aex.out.below hb)
            have aog := hid (adH.out.below hb)
            clear hb
            go_wp2_with fail
            refine (yc.out _ vV.out).mono ?_
            rintro e w4 ⟨A1, n1, c1, rfl, hpt, hb⟩
            have HB4 := hid (bel HB3.out hb)
            have Hw := hid (vV.out.below hb)
            have ajP := hid (aob.out.below hb)
            have ajS := hid (aog.out.below hb)
            clear hb
            have PT := hid (hpt)
            clear hpt
            go_upto_region 5 with (fail)
            generalize bI : World.alloc _ _ = v5
            have hxa : UB v5 (w4.heap.size) u (.slice A1 n1 c1) := by rw [← bI]; exact heap_alloc_new _ _
            have hb : Below w4.heap.size w4 v5 := by rw [← bI]; exact (Below.refl _ _).alloc (Nat.le_refl _) _
            have XU := hid hxa
            clear bI hxa
            have iG := hid (bel HB4.out hb)
            have Uu := hid (Hw.out.below hb)
            have aom := hid (ajP.out.below hb)
            have aoo := hid (ajS.out.below hb)
            have afe := hid (PT.out.below hb)
            clear hb
            obtain ⟨hS, hR⟩ := WC.out _ _ _ _ afe.out
            have HSa := hid hS
            have HRa := hid hR
            clear hS hR
            obtain ⟨k0, k1, k2, k3, k4, k5, k6, k7, k8, k9, k10, k11, k12⟩ := XU.out.facts
            go_wp2_with fail
            clear k0 k1 k2 k3 k4 k5 k6 k7 k8 k9 k10 k11 k12
            refine (HPC.out _ _ _ HSa.out _ HRa.out Uu.out).mono ?_
            rintro e w6 ⟨⟨A3, c3, A4, c4, rfl, hmp, hbp⟩, hb⟩
            have nN := hid (bel iG.out hb)
            have E_6 := hid (Uu.out.below hb)
            have aoc := hid (aom.out.below hb)
            have ao3 := hid (aoo.out.below hb)
            have aoj := hid (afe.out.below hb)
            have aos := hid (XU.out.below hb)
            clear hb
            have M3 := hid (hmp)
            have B4 := hid (hbp)
            clear hmp hbp HRa
            go_upto_region 8 with (fail)
            generalize bI : World.alloc _ _ = v7
            have hxa : B3 44 v7 (w6.heap.size) (.string (strOf M.ty)) (.string (strOf M.sub)) (.slice A3 M.ps.length c3) := by rw [← bI]; exact heap_alloc_new _ _
            have hb : Below w6.heap.size w6 v7 := by rw [← bI]; exact (Below.refl _ _).alloc (Nat.le_refl _) _
            have XM := hid hxa
            clear bI hxa
            have kZ := hid (bel nN.out hb)
            have E_7 := hid (E_6.out.below hb)
            have aon := hid (aoc.out.below hb)
            have ao4 := hid (ao3.out.below hb)
            have aol := hid (aoj.out.below hb)
            have ahB := hid (aos.out.below hb)
            have ai9 := hid (M3.out.below hb)
            have ai8 := hid (B4.out.below hb)
            clear hb
            have HLO := hid (nI aon.out)
            go_wp2_with (refine fJ HLO.out (.tmp 4) rfl rfl rfl ?_)
            clear HLO
            refine (BD.out _ _ _ E_7.out).mono ?_
            rintro e wa ⟨A5, c5, rfl, hr5, hb⟩
            have H7 := hid (bel kZ.out hb)
            have E_8 := hid (E_7.out.below hb)
            have ap4 := hid (aon.out.below hb)
            have ap6 := hid (ao4.out.below hb)
            have aoL := hid (aol.out.below hb)
            have akJ := hid (ahB.out.below hb)
            have aoK := hid (ai9.out.below hb)
            have aoH := hid (ai8.out.below hb)
            have aoO := hid (XM.out.below hb)
            clear hb
            have R5 := hid (hr5)
            clear hr5
            go_upto_region 9 with (fail)
            generalize bI : World.alloc _ _ = v9
            have hxa : AB v9 (wa.heap.size) #[.int .i64 0, .int .i64 200, .int .i64 0, .int .i64 (nb : Int), .string K, .slice A5 nb c5] := by rw [← bI]; exact heap_alloc_new _ _
            have hb : Below wa.heap.size wa v9 := by rw [← bI]; exact (Below.refl _ _).alloc (Nat.le_refl _) _
            have XA := hid hxa
            clear bI hxa
            have Y0 := hid (bel H7.out hb)
            have E_9 := hid (E_8.out.below hb)
            have XO_9 := hid (ap4.out.below hb)
            have XS_9 := hid (ap6.out.below hb)
            have ao0 := hid (aoL.out.below hb)
            have ao5 := hid (akJ.out.below hb)
            have aoZ := hid (aoK.out.below hb)
            have aoV := hid (aoH.out.below hb)
            have ao2 := hid (aoO.out.below hb)
            have R5_9 := hid (R5.out.below hb)
            clear hb
            go_wp2_with fail
            refine (HS2.out _ _ _ E_9.out).mono ?_
            rintro e w10 ⟨A6, c6, rfl, hr6, hb⟩
            have JZ := hid (bel Y0.out hb)
            have ajp := hid (E_9.out.below hb)
            have ap3 := hid (XO_9.out.below hb)
            have ap5 := hid (XS_9.out.below hb)
            have ajq := hid (ao0.out.below hb)
            have ajT := hid (ao5.out.below hb)
            have ahH := hid (aoZ.out.below hb)
            have ai7 := hid (aoV.out.below hb)
            have akN := hid (ao2.out.below hb)
            have apW := hid (R5_9.out.below hb)
            have ap1 := hid (XA.out.below hb)
            clear hb
            have R6 := hid (hr6)
            clear hr6
            go_upto_region 10 with (fail)
            generalize bI : World.alloc _ _ = v11
            have hxa : AB v11 (w10.heap.size) #[.int .i64 0, .int .i64 200, .int .i64 0, .int .i64 (nb : Int), .string K, .slice A6 nb c6] := by rw [← bI]; exact heap_alloc_new _ _
            have hb : Below w10.heap.size w10 v11 := by rw [← bI]; exact (Below.refl _ _).alloc (Nat.le_refl _) _
            have XB := hid hxa
            clear bI hxa
            have YZ := hid (bel JZ.out hb)
            have E_11 := hid (ajp.out.below hb)
            have XO_11 := hid (ap3.out.below hb)
            have XS_11 := hid (ap5.out.below hb)
            have apd := hid (ajq.out.below hb)
            have apl := hid (ajT.out.below hb)
            have Zq := hid (ahH.out.below hb)
            have aje := hid (ai7.out.below hb)
            have ZB := hid (akN.out.below hb)
            have apf := hid (apW.out.below hb)
            have ajy := hid (ap1.out.below hb)
            have apX := hid (R6.out.below hb)
            clear hb
            obtain ⟨a0, a1, a2, a3, a4, a5⟩ := ajy.out.facts
            obtain ⟨b0, b1, b2, b3, b4, b5⟩ := XB.out.facts
            have hs5 := aF (P := Tryz.prog) 45 9 5 Tryz.underlying45 Tryz.underlying5 Tryz.underlying9 _ c5 apf.out
            rw [← HSL.out] at hs5
            have hs6 := aF (P := Tryz.prog) 45 9 5 Tryz.underlying45 Tryz.underlying5 Tryz.underlying9 _ c6 apX.out
            rw [← HSL.out] at hs6
            go_upto_region 14 with (fail)
            clear a0 a1 a2 a3 a4 a5 b0 b1 b2 b3 b4 b5 hs5 hs6
            refine aV (by kernel_rfl) [is (.pointer (some ⟨wa.heap.size, 1, none⟩)), is (.int .i64 200), is (.bool true), is (.bool true), is (.pointer (some ⟨wa.heap.size, 5, none⟩)), is (.slice A5 nb c5), is (.string SL), is (.slice A4 nb c4), is (.string SL), is (.bool true), is (.bool true), is (.bool true), is (.pointer (some ⟨wa.heap.size, 4, none⟩)), is (.string K), is (.agg #[.string (strOf M.ty), .string (strOf M.sub), .slice A3 M.ps.length c3]), is (.string K), is (.bool true), is (.bool true), is (.bool true), is (.pointer (some ⟨wa.heap.size, 3, none⟩)), is (.int .i64 (nb : Int)), is (.slice A4 nb c4), is (.int .i64 (nb : Int)), is (.bool true), is (.bool true), is (.bool true)] [[], [0], [1], [2], [3], [3, 4], [3, 5], [3], [3, 7], [3, 6, 8], [3, 9], [10], [11], [11, 12], [11], [11, 14], [11, 13, 15], [11, 16], [17], [18], [18, 19], [18], [18, 21], [18, 20, 22], [18, 23], [24]] (by kernel_rfl) ?_ ?_
            · refine ⟨?_, ?_, ?_, ?_, ?_, ?_, ?_, ?_, ?_, ?_, ?_, ?_, ?_, ?_, ?_, ?_, ?_, ?_, ?_, ?_, ?_, ?_, ?_, ?_, ?_, ?_, trivial⟩
              all_goals (intro t wq hbq hh K hK; simp only [filled, upd, Have, is, any, row, pick, Act.put, List.setIfInBounds_toArray, List.set_cons_zero, List.set_cons_succ, Nat.reduceAdd, Nat.reduceEqDiff, reduceIte, List.tail_cons, List.headD_cons] at hh hK ⊢)
              · clear hh
                go_simp
                exact hK _ _ (Below.refl _ _) rfl
              · have e0 := hh.1
                clear hh
                simp only [e0] at hK ⊢
                obtain ⟨a0, a1, a2, a3, a4, a5⟩ := (ajy.out.below hbq).facts
                go_simp
                exact hK _ _ (Below.refl _ _) rfl
              · have e1 := hh.1
                clear hh
                simp only [e1] at hK ⊢
                go_simp
                first | exact hK _ _ (Below.refl _ _) rfl | exact hK _ _ (Below.refl _ _) (iC (by omega) (by omega))
              iterate 2
                · try simp only [hh] at hK ⊢
                  clear hh
                  go_simp
                  exact hK _ _ (Below.refl _ _) rfl
              · have e3 := hh.1
                have e4 := hh.2.1
                clear hh
                simp only [e3, e4] at hK ⊢
                obtain ⟨a0, a1, a2, a3, a4, a5⟩ := (ajy.out.below hbq).facts
                go_simp
                exact hK _ _ (Below.refl _ _) rfl
              · have e3 := hh.1
                have e5 := hh.2.1
                clear hh
                simp only [e3, e5] at hK ⊢
                have hs := aF (P := Tryz.prog) 45 9 5 Tryz.underlying45 Tryz.underlying5 Tryz.underlying9 _ c5 (apf.out.below hbq)
                rw [← HSL.out] at hs
                go_simp
                exact hK _ _ (Below.refl _ _) rfl
              · try simp only [hh] at hK ⊢
                clear hh
                go_simp
                exact hK _ _ (Below.refl _ _) rfl
              · have e3 := hh.1
                have e7 := hh.2.1
                clear hh
                simp only [e3, e7] at hK ⊢
                have hs := aF (P := Tryz.prog) 45 9 5 Tryz.underlying45 Tryz.underlying5 Tryz.underlying9 _ c4 (aje.out.below hbq)
                rw [← HSL.out] at hs
                go_simp
                exact hK _ _ (Below.refl _ _) rfl
              · have e3 := hh.1
                have e6 := hh.2.1
                have e8 := hh.2.2.1
                clear hh
                simp only [e3, e6, e8] at hK ⊢
                go_simp
                first | exact hK _ _ (Below.refl _ _) rfl | (rw [ql]; exact hK _ _ (Below.refl _ _) rfl)
              iterate 3
                · try simp only [hh] at hK ⊢
                  clear hh
                  go_simp
                  exact hK _ _ (Below.refl _ _) rfl
              · have e11 := hh.1
                have e12 := hh.2.1
                clear hh
                simp only [e11, e12] at hK ⊢
                obtain ⟨a0, a1, a2, a3, a4, a5⟩ := (ajy.out.below hbq).facts
                go_simp
                exact hK _ _ (Below.refl _ _) rfl
              · have e11 := hh.1
                clear hh
                simp only [e11] at hK ⊢
                obtain ⟨m0, m1, m2⟩ := (ZB.out.below hbq).facts
                go_simp
                exact hK _ _ (Below.refl _ _) rfl
              · have e11 := hh.1
                have e14 := hh.2.1
                clear hh
                simp only [e11, e14] at hK ⊢
                go_simp
                refine (UA.out _ _ HSa.out _ _ _ (Zq.out.below hbq)).mono ?_
                rintro e wz ⟨rfl, hbz⟩
                exact hK _ _ hbz rfl
              · have e11 := hh.1
                have e13 := hh.2.1
                have e15 := hh.2.2.1
                clear hh
                simp only [e11, e13, e15] at hK ⊢
                go_simp
                first | exact hK _ _ (Below.refl _ _) rfl | (rw [qk]; exact hK _ _ (Below.refl _ _) rfl)
              iterate 3
                · try simp only [hh] at hK ⊢
                  clear hh
                  go_simp
                  exact hK _ _ (Below.refl _ _) rfl
              · have e18 := hh.1
                have e19 := hh.2.1
                clear hh
                simp only [e18, e19] at hK ⊢
                obtain ⟨a0, a1, a2, a3, a4, a5⟩ := (ajy.out.below hbq).facts
                go_simp
                exact hK _ _ (Below.refl _ _) rfl
              iterate 2
                · try simp only [hh] at hK ⊢
                  clear hh
                  go_simp
                  exact hK _ _ (Below.refl _ _) rfl
              · have e18 := hh.1
                have e20 := hh.2.1
                have e22 := hh.2.2.1
                clear hh
                simp only [e18, e20, e22] at hK ⊢
                go_simp
                first | exact hK _ _ (Below.refl _ _) rfl | (rw [show ((nb : Int) == (nb : Int)) = true from beq_self_eq_true _]; exact hK _ _ (Below.refl _ _) rfl)
              iterate 2
                · try simp only [hh] at hK ⊢
                  clear hh
                  go_simp
                  exact hK _ _ (Below.refl _ _) rfl
            · intro t wq hbq hh
              have f25 := aB hh 25 (by decide)
              simp only [pick] at f25
              replace f25 : t 25 = (.bool true) := f25
              clear hh
              simp only [filled, upd, Have, is, any, row, pick, Act.put, List.setIfInBounds_toArray, List.set_cons_zero, List.set_cons_succ, Nat.reduceAdd, Nat.reduceEqDiff, reduceIte]
              simp only [f25]
              have hb := bel YZ.out hbq
              go_wp2
              go_ret
              exact ⟨rfl, hb⟩
          · have BD : Hid (∀ (pv : Option Addr) (sp : Value) (w : World), Env w → Calls Tryz.prog 48 #[.pointer pv, .string (strOf L), .agg #[.string s, .string h, .int .i64 p, .int .i64 n], sp] w fun e w' => ∃ A2 c2, e = .returned (.agg #[.int .i64 0, .int .i64 0, .int .i64 0, .int .i64 0, .string ⟨#[]⟩, .slice A2 0 c2]) ∧ aY w' A2 0 (ah []) ∧ Below w.heap.size w w') := fun pv sp w E => by
              exact (apZ.sf_no ho (by omega) hz M B ha er her (beq_false_of_ne he) pv sp s h p n w E).mono fun e w' ⟨A2, c2, h1, h2, h3⟩ => ⟨A2, c2, h1, h2.zB, h3⟩
            have HS2 : Hid (∀ (pv : Option Addr) (sp : Value) (w : World), Env w → Calls Tryz.prog 48 #[.pointer pv, .string (strOf L), .agg #[.string ⟨#[]⟩, .string ⟨#[]⟩, .int .i64 0, .int .i64 0], sp] w fun e w' => ∃ A2 c2, e = .returned (.agg #[.int .i64 0, .int .i64 0, .int .i64 0, .int .i64 0, .string ⟨#[]⟩, .slice A2 0 c2]) ∧ aY w' A2 0 (ah []) ∧ Below w.heap.size w w') := fun pv sp w E => by
              exact (apZ.sf_no ho (by omega) hz M B ha er her (beq_false_of_ne he) pv sp ⟨#[]⟩ ⟨#[]⟩ 0 0 w E).mono fun e w' ⟨A2, c2, h1, h2, h3⟩ => ⟨A2, c2, h1, h2.zB, h3⟩
            obtain ⟨SL, hSL⟩ : ∃ S, S = strOf [] := ⟨_, rfl⟩
            have HSL := hid hSL
            have ql : (SL.toList == SL.toList) = true := beq_self_eq_true _
            have qln : (SL.toList != SL.toList) = false := by simp
            have hen : (er != 0) = true := by simp [he]
            clear hSL ho hl hl1 h0 h1 ha her hnb hz apx
            go_enter Tryz.func12, Tryz.ntmps12
            go_upto_region 1 with (fail)
            generalize bI : World.alloc (World.alloc w _) _ = v1
            obtain ⟨ho1_, hs1_, hb1_⟩ : OB v1 w.heap.size s h p n ∧ SB v1 (w.heap.size + 1) s1 ∧ Below w.heap.size w v1 := by subst bI; exact aeU w s h p n s1
            clear bI
            have HB1 := hid hb1_
            have sO := hid (HE.out.below hb1_)
            clear hb1_
            have XO := hid ho1_
            have XS := hid hs1_
            clear ho1_ hs1_
            go_wp2_with fail
            refine (JM.out _ sO.out).mono ?_
            rintro e w2 ⟨rfl, hb⟩
            have HB2 := hid (bel HB1.out hb)
            have xY := hid (sO.out.below hb)
            have aex := hid (XO.out.below hb)
            have adH := hid (XS.out.below hb)
            clear hb
            have hst := adH.out.cell
            go_wp2_with fail
            clear hst
            refine (HNW.out _).mono ?_
            rintro e w3 ⟨gs, rfl, hb⟩
            have HB3 := hid (bel HB2.out hb)
            have vV := hid (xY.out.below hb)
            have aob := hid (aex.out.below hb)
            have aog := hid (adH.out.below hb)
            clear hb
            go_wp2_with fail
            refine (yc.out _ vV.out).mono ?_
            rintro e w4 ⟨A1, n1, c1, rfl, hpt, hb⟩
            have HB4 := hid (bel HB3.out hb)
            have Hw := hid (vV.out.below hb)
            have ajP := hid (aob.out.below hb)
            have ajS := hid (aog.out.below hb)
            clear hb
            have PT := hid (hpt)
            clear hpt
            go_upto_region 5 with (fail)
            generalize bI : World.alloc _ _ = v5
            have hxa : UB v5 (w4.heap.size) u (.slice A1 n1 c1) := by rw [← bI]; exact heap_alloc_new _ _
            have hb : Below w4.heap.size w4 v5 := by rw [← bI]; exact (Below.refl _ _).alloc (Nat.le_refl _) _
            have XU := hid hxa
            clear bI hxa
            have iG := hid (bel HB4.out hb)
            have Uu := hid (Hw.out.below hb)
            have aom := hid (ajP.out.below hb)
            have aoo := hid (ajS.out.below hb)
            have afe := hid (PT.out.below hb)
            clear hb
            obtain ⟨hS, hR⟩ := WC.out _ _ _ _ afe.out
            have HSa := hid hS
            have HRa := hid hR
            clear hS hR
            obtain ⟨k0, k1, k2, k3, k4, k5, k6, k7, k8, k9, k10, k11, k12⟩ := XU.out.facts
            go_wp2_with fail
            clear k0 k1 k2 k3 k4 k5 k6 k7 k8 k9 k10 k11 k12
            refine (HPC.out _ _ _ HSa.out _ HRa.out Uu.out).mono ?_
            rintro e w6 ⟨⟨A3, c3, A4, c4, rfl, hmp, hbp⟩, hb⟩
            have nN := hid (bel iG.out hb)
            have E_6 := hid (Uu.out.below hb)
            have aoc := hid (aom.out.below hb)
            have ao3 := hid (aoo.out.below hb)
            have aoj := hid (afe.out.below hb)
            have aos := hid (XU.out.below hb)
            clear hb
            have M3 := hid (hmp)
            have B4 := hid (hbp)
            clear hmp hbp HRa
            go_upto_region 8 with (fail)
            generalize bI : World.alloc _ _ = v7
            have hxa : B3 44 v7 (w6.heap.size) (.string (strOf M.ty)) (.string (strOf M.sub)) (.slice A3 M.ps.length c3) := by rw [← bI]; exact heap_alloc_new _ _
            have hb : Below w6.heap.size w6 v7 := by rw [← bI]; exact (Below.refl _ _).alloc (Nat.le_refl _) _
            have XM := hid hxa
            clear bI hxa
            have kZ := hid (bel nN.out hb)
            have E_7 := hid (E_6.out.below hb)
            have aon := hid (aoc.out.below hb)
            have ao4 := hid (ao3.out.below hb)
            have aol := hid (aoj.out.below hb)
            have ahB := hid (aos.out.below hb)
            have ai9 := hid (M3.out.below hb)
            have ai8 := hid (B4.out.below hb)
            clear hb
            have HLO := hid (nI aon.out)
            go_wp2_with (refine fJ HLO.out (.tmp 4) rfl rfl rfl ?_)
            clear HLO
            refine (BD.out _ _ _ E_7.out).mono ?_
            rintro e wa ⟨A5, c5, rfl, hr5, hb⟩
            have H7 := hid (bel kZ.out hb)
            have E_8 := hid (E_7.out.below hb)
            have ap4 := hid (aon.out.below hb)
            have ap6 := hid (ao4.out.below hb)
            have aoL := hid (aol.out.below hb)
            have akJ := hid (ahB.out.below hb)
            have aoK := hid (ai9.out.below hb)
            have aoH := hid (ai8.out.below hb)
            have aoO := hid (XM.out.below hb)
            clear hb
            have R5 := hid (hr5)
            clear hr5
            go_upto_region 9 with (fail)
            generalize bI : World.alloc _ _ = v9
            have hxa : AB v9 (wa.heap.size) #[.int .i64 0, .int .i64 0, .int .i64 0, .int .i64 0, .string ⟨#[]⟩, .slice A5 0 c5] := by rw [← bI]; exact heap_alloc_new _ _
            have hb : Below wa.heap.size wa v9 := by rw [← bI]; exact (Below.refl _ _).alloc (Nat.le_refl _) _
            have XA := hid hxa
            clear bI hxa
            have Y0 := hid (bel H7.out hb)
            have E_9 := hid (E_8.out.below hb)
            have XO_9 := hid (ap4.out.below hb)
            have XS_9 := hid (ap6.out.below hb)
            have ao0 := hid (aoL.out.below hb)
            have ao5 := hid (akJ.out.below hb)
            have aoZ := hid (aoK.out.below hb)
            have aoV := hid (aoH.out.below hb)
            have ao2 := hid (aoO.out.below hb)
            have R5_9 := hid (R5.out.below hb)
            clear hb
            go_wp2_with fail
            refine (HS2.out _ _ _ E_9.out).mono ?_
            rintro e w10 ⟨A6, c6, rfl, hr6, hb⟩
            have JZ := hid (bel Y0.out hb)
            have ajp := hid (E_9.out.below hb)
            have ap3 := hid (XO_9.out.below hb)
            have ap5 := hid (XS_9.out.below hb)
            have ajq := hid (ao0.out.below hb)
            have ajT := hid (ao5.out.below hb)
            have ahH := hid (aoZ.out.below hb)
            have ai7 := hid (aoV.out.below hb)
            have akN := hid (ao2.out.below hb)
            have apW := hid (R5_9.out.below hb)
            have ap1 := hid (XA.out.below hb)
            clear hb
            have R6 := hid (hr6)
            clear hr6
            go_upto_region 10 with (fail)
            generalize bI : World.alloc _ _ = v11
            have hxa : AB v11 (w10.heap.size) #[.int .i64 0, .int .i64 0, .int .i64 0, .int .i64 0, .string ⟨#[]⟩, .slice A6 0 c6] := by rw [← bI]; exact heap_alloc_new _ _
            have hb : Below w10.heap.size w10 v11 := by rw [← bI]; exact (Below.refl _ _).alloc (Nat.le_refl _) _
            have XB := hid hxa
            clear bI hxa
            have YZ := hid (bel JZ.out hb)
            have E_11 := hid (ajp.out.below hb)
            have XO_11 := hid (ap3.out.below hb)
            have XS_11 := hid (ap5.out.below hb)
            have apd := hid (ajq.out.below hb)
            have apl := hid (ajT.out.below hb)
            have Zq := hid (ahH.out.below hb)
            have aje := hid (ai7.out.below hb)
            have ZB := hid (akN.out.below hb)
            have apf := hid (apW.out.below hb)
            have ajy := hid (ap1.out.below hb)
            have apX := hid (R6.out.below hb)
            clear hb
            obtain ⟨a0, a1, a2, a3, a4, a5⟩ := ajy.out.facts
            obtain ⟨b0, b1, b2, b3, b4, b5⟩ := XB.out.facts
            have hs5 := aF (P := Tryz.prog) 45 9 5 Tryz.underlying45 Tryz.underlying5 Tryz.underlying9 _ c5 apf.out
            rw [← HSL.out] at hs5
            have hs6 := aF (P := Tryz.prog) 45 9 5 Tryz.underlying45 Tryz.underlying5 Tryz.underlying9 _ c6 apX.out
            rw [← HSL.out] at hs6
            go_wp2
            go_ret
            exact ⟨rfl, YZ.out⟩
        · have qs : ((strOf u.au).toList == [100, 97, 116, 97]) = false := by rw [Ce.aK]; simp [apx]
          clear ho hl hl1 h0 h1 apx
          go_enter Tryz.func12, Tryz.ntmps12
          go_upto_region 1 with (fail)
          generalize bI : World.alloc (World.alloc w _) _ = v1
          obtain ⟨ho1_, hs1_, hb1_⟩ : OB v1 w.heap.size s h p n ∧ SB v1 (w.heap.size + 1) s1 ∧ Below w.heap.size w v1 := by subst bI; exact aeU w s h p n s1
          clear bI
          have HB1 := hid hb1_
          have sO := hid (HE.out.below hb1_)
          clear hb1_
          have XO := hid ho1_
          have XS := hid hs1_
          clear ho1_ hs1_
          go_wp2_with fail
          refine (JM.out _ sO.out).mono ?_
          rintro e w2 ⟨rfl, hb⟩
          have HB2 := hid (bel HB1.out hb)
          have xY := hid (sO.out.below hb)
          have aex := hid (XO.out.below hb)
          have adH := hid (XS.out.below hb)
          clear hb
          have hst := adH.out.cell
          go_wp2_with fail
          clear hst
          refine (HNW.out _).mono ?_
          rintro e w3 ⟨gs, rfl, hb⟩
          have HB3 := hid (bel HB2.out hb)
          have vV := hid (xY.out.below hb)
          have aob := hid (aex.out.below hb)
          have aog := hid (adH.out.below hb)
          clear hb
          go_wp2_with fail
          refine (yc.out _ vV.out).mono ?_
          rintro e w4 ⟨A1, n1, c1, rfl, hpt, hb⟩
          have HB4 := hid (bel HB3.out hb)
          have Hw := hid (vV.out.below hb)
          have ajP := hid (aob.out.below hb)
          have ajS := hid (aog.out.below hb)
          clear hb
          have PT := hid (hpt)
          clear hpt
          go_upto_region 5 with (fail)
          generalize bI : World.alloc _ _ = v5
          have hxa : UB v5 (w4.heap.size) u (.slice A1 n1 c1) := by rw [← bI]; exact heap_alloc_new _ _
          have hb : Below w4.heap.size w4 v5 := by rw [← bI]; exact (Below.refl _ _).alloc (Nat.le_refl _) _
          have XU := hid hxa
          clear bI hxa
          have iG := hid (bel HB4.out hb)
          have Uu := hid (Hw.out.below hb)
          have aom := hid (ajP.out.below hb)
          have aoo := hid (ajS.out.below hb)
          have afe := hid (PT.out.below hb)
          clear hb
          obtain ⟨k0, k1, k2, k3, k4, k5, k6, k7, k8, k9, k10, k11, k12⟩ := XU.out.facts
          go_wp2
          go_ret
          exact ⟨rfl, iG.out⟩
    · have hli : ¬ (1000 : Int) < ((strOf L).size : Int) := by rw [o9]; omega
      have hli1 : (200 : Int) < (s1.size : Int) := by omega
      clear hl hl1 h0 h1
      go_enter Tryz.func12, Tryz.ntmps12
      go_upto_region 1 with (fail)
      generalize bI : World.alloc (World.alloc w _) _ = v1
      obtain ⟨ho1_, hs1_, hb1_⟩ : OB v1 w.heap.size s h p n ∧ SB v1 (w.heap.size + 1) s1 ∧ Below w.heap.size w v1 := by subst bI; exact aeU w s h p n s1
      clear bI
      have HB1 := hid hb1_
      have sO := hid (HE.out.below hb1_)
      clear hb1_
      have XO := hid ho1_
      have XS := hid hs1_
      clear ho1_ hs1_
      go_wp2_with fail
      refine (JM.out _ sO.out).mono ?_
      rintro e w2 ⟨rfl, hb⟩
      have HB2 := hid (bel HB1.out hb)
      have xY := hid (sO.out.below hb)
      have aex := hid (XO.out.below hb)
      have adH := hid (XS.out.below hb)
      clear hb
      have hst := adH.out.cell
      go_wp2_with fail
      refine (JM.out _ xY.out).mono ?_
      rintro e w3 ⟨rfl, hb⟩
      have HB3 := hid (bel HB2.out hb)
      have vV := hid (xY.out.below hb)
      have aob := hid (aex.out.below hb)
      have aog := hid (adH.out.below hb)
      clear hb
      go_wp2
      go_ret
      exact ⟨rfl, HB3.out⟩
  · have hli : (1000 : Int) < ((strOf L).size : Int) := by rw [o9]; omega
    clear hl h0 h1
    go_enter Tryz.func12, Tryz.ntmps12
    go_upto_region 1 with (fail)
    generalize bI : World.alloc (World.alloc w _) _ = v1
    obtain ⟨ho1_, hs1_, hb1_⟩ : OB v1 w.heap.size s h p n ∧ SB v1 (w.heap.size + 1) s1 ∧ Below w.heap.size w v1 := by subst bI; exact aeU w s h p n s1
    clear bI
    have HB1 := hid hb1_
    have sO := hid (HE.out.below hb1_)
    clear hb1_
    have XO := hid ho1_
    have XS := hid hs1_
    clear ho1_ hs1_
    go_wp2_with fail
    refine (JM.out _ sO.out).mono ?_
    rintro e w2 ⟨rfl, hb⟩
    have HB2 := hid (bel HB1.out hb)
    have xY := hid (sO.out.below hb)
    have aex := hid (XO.out.below hb)
    have adH := hid (XS.out.below hb)
    clear hb
    go_wp2_with fail
    refine (JM.out _ xY.out).mono ?_
    rintro e w3 ⟨rfl, hb⟩
    have HB3 := hid (bel HB2.out hb)
    have vV := hid (xY.out.below hb)
    have aob := hid (aex.out.below hb)
    have aog := hid (adH.out.below hb)
    clear hb
    go_wp2
    go_ret
    exact ⟨rfl, HB3.out⟩
end Go.Proofs.YtgamccijegollaaGreatDoor.Laws
