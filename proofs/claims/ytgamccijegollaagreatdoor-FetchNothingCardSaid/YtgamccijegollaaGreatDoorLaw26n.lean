/- The law FetchNothing, walked. -/
import Derived.Test.YtgamccijegollaaGreatDoorFNAAU
set_option linter.unusedSimpArgs false
set_option linter.unusedVariables false
namespace Go.Proofs.YtgamccijegollaaGreatDoor.Laws
open Go.RowKit Go.Proofs.YtgamccijegollaaGreatDoor.Base Go.Proofs.YtgamccijegollaaGreatDoor.Dp Go.Proofs.YtgamccijegollaaGreatDoor.L6 Go.Proofs.YtgamccijegollaaGreatDoor.Kq Go.Proofs.YtgamccijegollaaGreatDoor.mW Go.Proofs.YtgamccijegollaaGreatDoor.wS Go.Proofs.YtgamccijegollaaGreatDoor.tK Go.Proofs.YtgamccijegollaaGreatDoor.UG Go.Proofs.YtgamccijegollaaGreatDoor.acs Go.Proofs.YtgamccijegollaaGreatDoor.ES Go.Proofs.YtgamccijegollaaGreatDoor.ajr Go.Proofs.YtgamccijegollaaGreatDoor.akM Go.Proofs.YtgamccijegollaaGreatDoor.aoa Go.Proofs.YtgamccijegollaaGreatDoor.apO Go.Proofs.YtgamccijegollaaGreatDoor.L6
open Go.Proofs.YtgamccijegollaaGreatDoor.jQ (oI)
open Go.Proofs.YtgamccijegollaaGreatDoor.pO (Max)
open Go.Proofs.YtgamccijegollaaGreatDoor.vZ (rD)
open Go.Proofs.YtgamccijegollaaGreatDoor.aj6 (zC)
open Go.Proofs.YtgamccijegollaaGreatDoor.apv (nI)
open Go.Proofs.YtgamccijegollaaGreatDoor.oG (B3)
open Go.Proofs.YtgamccijegollaaGreatDoor.sV (dS)
set_option linter.unusedSimpArgs false
set_option linter.unusedVariables false
set_option maxRecDepth 100000 in
set_option maxHeartbeats 8000000 in
theorem awake26 (w : World) (E : Env w) : Calls Tryz.prog 42 #[] w fun e w' => e = .returned (.bool true) ∧ Below w.heap.size w w' := by
  have HE := hid E
  clear E
  go_enter Tryz.func42, Tryz.ntmps42
  go_wp2_with fail
  refine (apO.ajA _ _ _ _ _ _ _ HE.out).mono ?_
  rintro e w3 ⟨rfl, hb⟩
  have HB3 := hid hb
  clear hb
  have hfd : (Instr.field 81 (.agg #[.int .i64 3, .int .i64 200, .int .i64 0, .int .i64 0, .string ⟨#[116, 101, 120, 116, 47, 104, 116, 109, 108, 59, 99, 104, 97, 114, 115, 101, 116, 61, 117, 116, 102, 45, 56]⟩, .slice none 0 0]) 1).run Tryz.prog w3 = .ok (.int .i64 200) w3 := by first | rfl | kernel_rfl
  go_wp2
  go_ret
  exact ⟨rfl, HB3.out⟩
set_option maxRecDepth 100000 in
set_option maxHeartbeats 8000000 in
theorem adl (s0 s h : ByteArray) (p n : Int) (s1 : ByteArray) (w : World) (h0 : s0.size ≤ 140737488351232) (_hs : s.size ≤ 140737488351232) (_hh : h.size ≤ 140737488351232) (_hp : -9223372036854775808 ≤ p ∧ p ≤ 9223372036854775807) (_hn : -9223372036854775808 ≤ n ∧ n ≤ 9223372036854775807) (h1 : s1.size ≤ 140737488351232) (hT : Tab.Pow w) (hL : oI w) (hM : Max w) (hU : rD w) : Calls Tryz.prog 10 #[.string s0, .agg #[.string s, .string h, .int .i64 p, .int .i64 n], .string s1] w fun e w' => e = .returned (.bool true) ∧ Below w.heap.size w w' := by
  have HE := hid (⟨hT, hL, hM, hU⟩ : Env w)
  have JM : Hid (∀ w : World, Env w → Calls Tryz.prog 42 #[] w fun e w' => e = .returned (.bool true) ∧ Below w.heap.size w w') := fun w E => awake26 w E
  clear hT hL hM hU _hs _hh _hp _hn
  obtain ⟨L, rfl⟩ : ∃ L, s0 = strOf L := ⟨s0.data.toList, (aG s0).symm⟩
  rw [o9] at h0
  by_cases hl : L.length ≤ 1000
  · by_cases hl1 : s1.size ≤ 200
    · have hli : ¬ (1000 : Int) < ((strOf L).size : Int) := by rw [o9]; omega
      have hli1 : ¬ (200 : Int) < (s1.size : Int) := by omega
      have HFB : Hid (∀ (sp : Value) (w : World), Env w → Calls Tryz.prog 45 #[.nilIface, .string (strOf (zC ++ 58 :: L)), .agg #[.string s, .string h, .int .i64 p, .int .i64 n], sp] w fun e w' => (∃ z, e = .returned (.agg #[.int .i64 z, .int .i64 0, .int .i64 0, .int .i64 0, .string ⟨#[]⟩, .slice none 0 0])) ∧ Below w.heap.size w w') := fun sp w E => aow L (by omega) sp s h p n w E
      have HAD : Hid (∀ w : World, (Op.stringOp .add ⟨#[98, 108, 111, 98, 58]⟩ (strOf L)).run Tryz.prog w = .ok (.string (strOf (zC ++ 58 :: L))) w) := fun w => dL _ _ w (by rw [o9]; show 5 + _ ≤ _; omega)
      cases ho : wS.url L none with
      | none =>
        obtain ⟨u, hu0⟩ : ∃ u, u = U0 := ⟨_, rfl⟩
        have yc : Hid (∀ w : World, Env w → Calls Tryz.prog 16 #[.string (strOf L), .pointer none] w fun e w' => ∃ A' n' c', e = .returned (.tuple #[.agg #[.string (strOf u.au), .string (strOf u.usr), .string (strOf u.MX), .string (strOf u.hst), .bool u.hh, .int .i64 u.port, .bool u.opq, .string (strOf u.txt), .slice A' n' c', .bool u.hq, .bool u.hf, .string (strOf u.dY), .string (strOf u.fB)], .int .i64 2]) ∧ Pt w' u A' n' c' ∧ Below w.heap.size w w') := fun w E => GZ (T := strOf L) hu0 ho (by rw [o9]; omega) w E
        have HF2 : Hid (∀ (sp : Value) (w : World), Env w → Calls Tryz.prog 45 #[.nilIface, .string (strOf L), .agg #[.string s, .string h, .int .i64 p, .int .i64 n], sp] w fun e w' => e = .returned (.agg #[.int .i64 7, .int .i64 0, .int .i64 0, .int .i64 0, .string ⟨#[]⟩, .slice none 0 0]) ∧ Below w.heap.size w w') := fun sp w E => nil_not ho (by omega) sp s h p n w E
        have HSC : Hid (strOf u.au = ⟨#[]⟩) := by show _ = _; rw [hu0]; rfl
        clear hu0
        clear ho hl hl1 h0 h1
        go_enter Tryz.func10, Tryz.ntmps10
        go_upto_region 1 with (fail)
        generalize bI : World.alloc (World.alloc w _) _ = v1
        obtain ⟨ho1_, hs1_, hb1_⟩ : OB v1 w.heap.size s h p n ∧ SB v1 (w.heap.size + 1) s1 ∧ Below w.heap.size w v1 := by subst bI; exact aeU w s h p n s1
        clear bI
        have HB1 := hid hb1_
        have sO := hid (HE.out.below hb1_)
        clear hb1_
        have XO := hid ho1_
        have XS := hid hs1_
        clear ho1_ hs1_
        go_wp2_with fail
        refine (JM.out _ sO.out).mono ?_
        rintro e w2 ⟨rfl, hb⟩
        have HB2 := hid (bel HB1.out hb)
        have xY := hid (sO.out.below hb)
        have aex := hid (XO.out.below hb)
        have adH := hid (XS.out.below hb)
        clear hb
        have hadd := HAD.out
        have HLO := hid (nI aex.out)
        have hst := adH.out.cell
        go_wp2_with (refine fJ HLO.out (.tmp 4) rfl rfl rfl ?_)
        clear hadd HLO hst
        refine (HFB.out _ _ xY.out).mono ?_
        rintro e w3 ⟨⟨z1, rfl⟩, hb⟩
        have HB3 := hid (bel HB2.out hb)
        have vV := hid (xY.out.below hb)
        have aob := hid (aex.out.below hb)
        have aog := hid (adH.out.below hb)
        clear hb
        go_upto_region 4 with (fail)
        generalize bI : World.alloc _ _ = v4
        have hxa : AB v4 (w3.heap.size) #[.int .i64 z1, .int .i64 0, .int .i64 0, .int .i64 0, .string ⟨#[]⟩, .slice none 0 0] := by rw [← bI]; exact heap_alloc_new _ _
        have hb : Below w3.heap.size w3 v4 := by rw [← bI]; exact (Below.refl _ _).alloc (Nat.le_refl _) _
        have XA := hid hxa
        clear bI hxa
        have HB4 := hid (bel HB3.out hb)
        have Hw := hid (vV.out.below hb)
        have ajP := hid (aob.out.below hb)
        have ajS := hid (aog.out.below hb)
        clear hb
        go_wp2_with fail
        refine (yc.out _ Hw.out).mono ?_
        rintro e w5 ⟨A1, n1, c1, rfl, hpt, hb⟩
        have iG := hid (bel HB4.out hb)
        have Uu := hid (Hw.out.below hb)
        have aom := hid (ajP.out.below hb)
        have aoo := hid (ajS.out.below hb)
        have XA_5 := hid (XA.out.below hb)
        clear hb
        clear hpt
        go_upto_region 5 with (fail)
        generalize bI : World.alloc _ _ = v6
        have hxa : UB v6 (w5.heap.size) u (.slice A1 n1 c1) := by rw [← bI]; exact heap_alloc_new _ _
        have hb : Below w5.heap.size w5 v6 := by rw [← bI]; exact (Below.refl _ _).alloc (Nat.le_refl _) _
        have XU := hid hxa
        clear bI hxa
        have nN := hid (bel iG.out hb)
        have E_6 := hid (Uu.out.below hb)
        have aoc := hid (aom.out.below hb)
        have ao3 := hid (aoo.out.below hb)
        have XA_6 := hid (XA_5.out.below hb)
        clear hb
        have HLO := hid (nI aoc.out)
        go_wp2_with (refine fJ HLO.out (.tmp 4) rfl rfl rfl ?_)
        clear HLO
        refine (HF2.out _ _ E_6.out).mono ?_
        rintro e w7 ⟨rfl, hb⟩
        have kZ := hid (bel nN.out hb)
        have E_7 := hid (E_6.out.below hb)
        have aon := hid (aoc.out.below hb)
        have ao4 := hid (ao3.out.below hb)
        have XA_7 := hid (XA_6.out.below hb)
        have ahB := hid (XU.out.below hb)
        clear hb
        go_upto_region 6 with (fail)
        generalize bI : World.alloc _ _ = v8
        have hxa : AB v8 (w7.heap.size) #[.int .i64 7, .int .i64 0, .int .i64 0, .int .i64 0, .string ⟨#[]⟩, .slice none 0 0] := by rw [← bI]; exact heap_alloc_new _ _
        have hb : Below w7.heap.size w7 v8 := by rw [← bI]; exact (Below.refl _ _).alloc (Nat.le_refl _) _
        have XB := hid hxa
        clear bI hxa
        have H7 := hid (bel kZ.out hb)
        have E_8 := hid (E_7.out.below hb)
        have ap4 := hid (aon.out.below hb)
        have ap6 := hid (ao4.out.below hb)
        have XA_8 := hid (XA_7.out.below hb)
        have akJ := hid (ahB.out.below hb)
        clear hb
        obtain ⟨b0, b1, b2, b3, b4, b5⟩ := XB.out.facts
        obtain ⟨u0, _⟩ := akJ.out.facts
        rw [HSC.out] at u0
        obtain ⟨a0, a1, a2, a3, a4, a5⟩ := XA_8.out.facts
        go_wp2
        go_ret
        exact ⟨rfl, H7.out⟩
      | some u =>
        have yc : Hid (∀ w : World, Env w → Calls Tryz.prog 16 #[.string (strOf L), .pointer none] w fun e w' => ∃ A' n' c', e = .returned (.tuple #[.agg #[.string (strOf u.au), .string (strOf u.usr), .string (strOf u.MX), .string (strOf u.hst), .bool u.hh, .int .i64 u.port, .bool u.opq, .string (strOf u.txt), .slice A' n' c', .bool u.hq, .bool u.hf, .string (strOf u.dY), .string (strOf u.fB)], .int .i64 0]) ∧ Pt w' u A' n' c' ∧ Below w.heap.size w w') := fun w E => jB (T := strOf L) ho (by rw [o9]; omega) w E
        have HF2 : Hid (∀ (sp : Value) (w : World), Env w → Calls Tryz.prog 45 #[.nilIface, .string (strOf L), .agg #[.string s, .string h, .int .i64 p, .int .i64 n], sp] w fun e w' => (∃ z st fi tt K A n c, e = .returned (.agg #[.int .i64 z, .int .i64 st, .int .i64 fi, .int .i64 tt, .string K, .slice A n c])) ∧ Below w.heap.size w w') := fun sp w E => nil_any L (by omega) sp s h p n w E
        clear ho hl hl1 h0 h1
        go_enter Tryz.func10, Tryz.ntmps10
        go_upto_region 1 with (fail)
        generalize bI : World.alloc (World.alloc w _) _ = v1
        obtain ⟨ho1_, hs1_, hb1_⟩ : OB v1 w.heap.size s h p n ∧ SB v1 (w.heap.size + 1) s1 ∧ Below w.heap.size w v1 := by subst bI; exact aeU w s h p n s1
        clear bI
        have HB1 := hid hb1_
        have sO := hid (HE.out.below hb1_)
        clear hb1_
        have XO := hid ho1_
        have XS := hid hs1_
        clear ho1_ hs1_
        go_wp2_with fail
        refine (JM.out _ sO.out).mono ?_
        rintro e w2 ⟨rfl, hb⟩
        have HB2 := hid (bel HB1.out hb)
        have xY := hid (sO.out.below hb)
        have aex := hid (XO.out.below hb)
        have adH := hid (XS.out.below hb)
        clear hb
        have hadd := HAD.out
        have HLO := hid (nI aex.out)
        have hst := adH.out.cell
        go_wp2_with (refine fJ HLO.out (.tmp 4) rfl rfl rfl ?_)
        clear hadd HLO hst
        refine (HFB.out _ _ xY.out).mono ?_
        rintro e w3 ⟨⟨z1, rfl⟩, hb⟩
        have HB3 := hid (bel HB2.out hb)
        have vV := hid (xY.out.below hb)
        have aob := hid (aex.out.below hb)
        have aog := hid (adH.out.below hb)
        clear hb
        go_upto_region 4 with (fail)
        generalize bI : World.alloc _ _ = v4
        have hxa : AB v4 (w3.heap.size) #[.int .i64 z1, .int .i64 0, .int .i64 0, .int .i64 0, .string ⟨#[]⟩, .slice none 0 0] := by rw [← bI]; exact heap_alloc_new _ _
        have hb : Below w3.heap.size w3 v4 := by rw [← bI]; exact (Below.refl _ _).alloc (Nat.le_refl _) _
        have XA := hid hxa
        clear bI hxa
        have HB4 := hid (bel HB3.out hb)
        have Hw := hid (vV.out.below hb)
        have ajP := hid (aob.out.below hb)
        have ajS := hid (aog.out.below hb)
        clear hb
        go_wp2_with fail
        refine (yc.out _ Hw.out).mono ?_
        rintro e w5 ⟨A1, n1, c1, rfl, hpt, hb⟩
        have iG := hid (bel HB4.out hb)
        have Uu := hid (Hw.out.below hb)
        have aom := hid (ajP.out.below hb)
        have aoo := hid (ajS.out.below hb)
        have XA_5 := hid (XA.out.below hb)
        clear hb
        clear hpt
        go_upto_region 5 with (fail)
        generalize bI : World.alloc _ _ = v6
        have hxa : UB v6 (w5.heap.size) u (.slice A1 n1 c1) := by rw [← bI]; exact heap_alloc_new _ _
        have hb : Below w5.heap.size w5 v6 := by rw [← bI]; exact (Below.refl _ _).alloc (Nat.le_refl _) _
        have XU := hid hxa
        clear bI hxa
        have nN := hid (bel iG.out hb)
        have E_6 := hid (Uu.out.below hb)
        have aoc := hid (aom.out.below hb)
        have ao3 := hid (aoo.out.below hb)
        have XA_6 := hid (XA_5.out.below hb)
        clear hb
        have HLO := hid (nI aoc.out)
        go_wp2_with (refine fJ HLO.out (.tmp 4) rfl rfl rfl ?_)
        clear HLO
        refine (HF2.out _ _ E_6.out).mono ?_
        rintro e w7 ⟨⟨z2, st, fi, tt, K, A2, n2, c2, rfl⟩, hb⟩
        have kZ := hid (bel nN.out hb)
        have E_7 := hid (E_6.out.below hb)
        have aon := hid (aoc.out.below hb)
        have ao4 := hid (ao3.out.below hb)
        have XA_7 := hid (XA_6.out.below hb)
        have ahB := hid (XU.out.below hb)
        clear hb
        go_upto_region 6 with (fail)
        generalize bI : World.alloc _ _ = v8
        have hxa : AB v8 (w7.heap.size) #[.int .i64 z2, .int .i64 st, .int .i64 fi, .int .i64 tt, .string K, .slice A2 n2 c2] := by rw [← bI]; exact heap_alloc_new _ _
        have hb : Below w7.heap.size w7 v8 := by rw [← bI]; exact (Below.refl _ _).alloc (Nat.le_refl _) _
        have XB := hid hxa
        clear bI hxa
        have H7 := hid (bel kZ.out hb)
        have E_8 := hid (E_7.out.below hb)
        have ap4 := hid (aon.out.below hb)
        have ap6 := hid (ao4.out.below hb)
        have XA_8 := hid (XA_7.out.below hb)
        have akJ := hid (ahB.out.below hb)
        clear hb
        obtain ⟨a0, a1, a2, a3, a4, a5⟩ := XA_8.out.facts
        go_wp2
        go_ret
        exact ⟨rfl, H7.out⟩
    · have hli : ¬ (1000 : Int) < ((strOf L).size : Int) := by rw [o9]; omega
      have hli1 : (200 : Int) < (s1.size : Int) := by omega
      clear hl hl1 h0 h1
      go_enter Tryz.func10, Tryz.ntmps10
      go_upto_region 1 with (fail)
      generalize bI : World.alloc (World.alloc w _) _ = v1
      obtain ⟨ho1_, hs1_, hb1_⟩ : OB v1 w.heap.size s h p n ∧ SB v1 (w.heap.size + 1) s1 ∧ Below w.heap.size w v1 := by subst bI; exact aeU w s h p n s1
      clear bI
      have HB1 := hid hb1_
      have sO := hid (HE.out.below hb1_)
      clear hb1_
      have XO := hid ho1_
      have XS := hid hs1_
      clear ho1_ hs1_
      go_wp2_with fail
      refine (JM.out _ sO.out).mono ?_
      rintro e w2 ⟨rfl, hb⟩
      have HB2 := hid (bel HB1.out hb)
      have xY := hid (sO.out.below hb)
      have aex := hid (XO.out.below hb)
      have adH := hid (XS.out.below hb)
      clear hb
      have hst := adH.out.cell
      go_wp2_with fail
      refine (JM.out _ xY.out).mono ?_
      rintro e w3 ⟨rfl, hb⟩
      have HB3 := hid (bel HB2.out hb)
      have vV := hid (xY.out.below hb)
      have aob := hid (aex.out.below hb)
      have aog := hid (adH.out.below hb)
      clear hb
      go_wp2
      go_ret
      exact ⟨rfl, HB3.out⟩
  · have hli : (1000 : Int) < ((strOf L).size : Int) := by rw [o9]; omega
    clear hl h0 h1
    go_enter Tryz.func10, Tryz.ntmps10
    go_upto_region 1 with (fail)
    generalize bI : World.alloc (World.alloc w _) _ = v1
    obtain ⟨ho1_, hs1_, hb1_⟩ : OB v1 w.heap.size s h p n ∧ SB v1 (w.heap.size + 1) s1 ∧ Below w.heap.size w v1 := by subst bI; exact aeU w s h p n s1
    clear bI
    have HB1 := hid hb1_
    have sO := hid (HE.out.below hb1_)
    clear hb1_
    have XO := hid ho1_
    have XS := hid hs1_
    clear ho1_ hs1_
    go_wp2_with fail
    refine (JM.out _ sO.out).mono ?_
    rintro e w2 ⟨rfl, hb⟩
    have HB2 := hid (bel HB1.out hb)
    have xY := hid (sO.out.below hb)
    have aex := hid (XO.out.below hb)
    have adH := hid (XS.out.below hb)
    clear hb
    go_wp2_with fail
    refine (JM.out _ xY.out).mono ?_
    rintro e w3 ⟨rfl, hb⟩
    have HB3 := hid (bel HB2.out hb)
    have vV := hid (xY.out.below hb)
    have aob := hid (aex.out.below hb)
    have aog := hid (adH.out.below hb)
    clear hb
    go_wp2
    go_ret
    exact ⟨rfl, HB3.out⟩
end Go.Proofs.YtgamccijegollaaGreatDoor.Laws
