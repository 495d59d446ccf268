/- The walk of the law SixReads: it returns true, whatever it is called with. -/
import Derived.Test.YtnmkkejodkjjiaaDoorSixM
import Derived.Test.YtnmkkejodkjjiaaDoorSixF
namespace Go.Proofs.YtnmkkejodkjjiaaDoor.Laws
open Go.RowKit Go.Proofs.YtnmkkejodkjjiaaDoor.Base Go.Proofs.YtnmkkejodkjjiaaDoor.Base2 Go.Proofs.YtnmkkejodkjjiaaDoor.SixP Go.Proofs.YtnmkkejodkjjiaaDoor.SixB Go.Proofs.YtnmkkejodkjjiaaDoor.SixC Go.Proofs.YtnmkkejodkjjiaaDoor.SixG Go.Proofs.YtnmkkejodkjjiaaDoor.SixH Go.Proofs.YtnmkkejodkjjiaaDoor.SixI Go.Proofs.YtnmkkejodkjjiaaDoor.SixL Go.Proofs.YtnmkkejodkjjiaaDoor.SixM Go.Proofs.YtnmkkejodkjjiaaDoor.Spl

set_option linter.unusedSimpArgs false in
set_option maxRecDepth 100000 in
set_option maxHeartbeats 4000000 in
theorem SixReads_any (s : ByteArray) (w : World) (_hs : s.size ≤ 140737488351232) (hL : Lad w) (hM : Max w) : Calls Tryd.prog 3 #[.string s] w fun e w' => e = .returned (.bool true) ∧ Below w.heap.size w w' := by
  have HL := hid hL
  have HM := hid hM
  clear hL hM
  by_cases h2 : s.size ≤ 200
  · have h2i : ¬ (200 : Int) < (s.size : Int) := by omega
    have hc := fun w hM => SixC.parse_any s w (by omega) hM
    have hr := fun w => SixF.parse_any s w (by omega)
    clear h2
    go_enter Tryd.func3, Tryd.ntmps3
    go_wp2_with fail
    refine (awake_any _ HL.out HM.out).mono ?_
    rintro e w1 ⟨rfl, hb1⟩
    have HB1 := hid hb1
    clear hb1
    cases hv : six s.data.toList with
    | none =>
      rw [hv] at hc hr
      clear hv
      obtain ⟨f, hf⟩ : ∃ f : Nat → Nat, V8 f = zer := ⟨fun _ => 0, rfl⟩
      have heq := fun w => eql_self f w
      have HV : Hid (SixV none = .tuple #[.agg #[.int .u16 (f 0 : Int), .int .u16 (f 1 : Int), .int .u16 (f 2 : Int), .int .u16 (f 3 : Int), .int .u16 (f 4 : Int), .int .u16 (f 5 : Int), .int .u16 (f 6 : Int), .int .u16 (f 7 : Int)], .bool false]) := by
        show SixV none = .tuple #[.agg (ncells (V8 f)).toArray, .bool false]
        rw [hf]
        rfl
      clear hf
      rw [HV.out] at hc hr
      have HC := hid hc
      have HRR := hid hr
      clear hc hr
      go_wp2_with fail
      refine (HC.out _ (HM.out.below HB1.out)).mono ?_
      rintro e w2 ⟨rfl, hb2⟩
      have HB2 := hid (bel HB1.out hb2)
      clear hb2
      go_wp2_with fail
      refine (HRR.out _).mono ?_
      rintro e w3 ⟨rfl, hb3⟩
      have HB3 := hid (bel (bel HB2.out ((Below.refl _ _).alloc (Nat.le_refl _) _)) hb3)
      have HX3 : Hid (Box w3 w2.heap.size 24 (V8 f)) := (box_new f).below hb3
      clear hb3
      go_upto_region 5 with (fail)
      generalize hw4 : w3.alloc _ = w4
      have HB4 : Hid (Below w.heap.size w w4) := by
        show Below _ _ _
        rw [← hw4]
        exact HB3.out.alloc HB3.out.size _
      have HX4 : Hid (Box w4 w2.heap.size 24 (V8 f)) := by
        show Box _ _ _ _
        rw [← hw4]
        exact HX3.out.below ((Below.refl _ _).alloc (Nat.le_refl _) _)
      have HX5 : Hid (Box w4 w3.heap.size 24 (V8 f)) := by
        show Box _ _ _ _
        rw [← hw4]
        exact box_new f
      clear hw4
      obtain ⟨c0, c1, c2, c3, c4, c5, c6, c7⟩ := cells8 HX4.out f rfl
      obtain ⟨d0, d1, d2, d3, d4, d5, d6, d7⟩ := cells8 HX5.out f rfl
      go_wp2
      go_ret
      exact ⟨rfl, HB4.out⟩
    | some V =>
      have hl := six_len hv
      rw [hv] at hc hr
      clear hv
      obtain ⟨f, rfl⟩ := sixv_fun hl
      have heq := fun w => eql_self f w
      clear hl
      have HV : Hid (SixV (some (V8 f)) = .tuple #[.agg #[.int .u16 (f 0 : Int), .int .u16 (f 1 : Int), .int .u16 (f 2 : Int), .int .u16 (f 3 : Int), .int .u16 (f 4 : Int), .int .u16 (f 5 : Int), .int .u16 (f 6 : Int), .int .u16 (f 7 : Int)], .bool true]) := rfl
      rw [HV.out] at hc hr
      have HC := hid hc
      have HRR := hid hr
      clear hc hr
      go_wp2_with fail
      refine (HC.out _ (HM.out.below HB1.out)).mono ?_
      rintro e w2 ⟨rfl, hb2⟩
      have HB2 := hid (bel HB1.out hb2)
      clear hb2
      go_wp2_with fail
      refine (HRR.out _).mono ?_
      rintro e w3 ⟨rfl, hb3⟩
      have HB3 := hid (bel (bel HB2.out ((Below.refl _ _).alloc (Nat.le_refl _) _)) hb3)
      have HX3 : Hid (Box w3 w2.heap.size 24 (V8 f)) := (box_new f).below hb3
      clear hb3
      go_upto_region 5 with (fail)
      generalize hw4 : w3.alloc _ = w4
      have HB4 : Hid (Below w.heap.size w w4) := by
        show Below _ _ _
        rw [← hw4]
        exact HB3.out.alloc HB3.out.size _
      have HX4 : Hid (Box w4 w2.heap.size 24 (V8 f)) := by
        show Box _ _ _ _
        rw [← hw4]
        exact HX3.out.below ((Below.refl _ _).alloc (Nat.le_refl _) _)
      have HX5 : Hid (Box w4 w3.heap.size 24 (V8 f)) := by
        show Box _ _ _ _
        rw [← hw4]
        exact box_new f
      clear hw4
      obtain ⟨c0, c1, c2, c3, c4, c5, c6, c7⟩ := cells8 HX4.out f rfl
      obtain ⟨d0, d1, d2, d3, d4, d5, d6, d7⟩ := cells8 HX5.out f rfl
      go_wp2
      go_ret
      exact ⟨rfl, HB4.out⟩
  · have h2i : (200 : Int) < (s.size : Int) := by omega
    clear h2
    go_enter Tryd.func3, Tryd.ntmps3
    go_wp2_with fail
    refine (awake_any _ HL.out HM.out).mono ?_
    rintro e w1 ⟨rfl, hb1⟩
    have HB1 := hid hb1
    clear hb1
    go_wp2_with fail
    refine (awake_any _ (HL.out.below HB1.out) (HM.out.below HB1.out)).mono ?_
    rintro e w2 ⟨rfl, hb2⟩
    go_wp2
    go_ret
    exact ⟨rfl, bel HB1.out hb2⟩
end Go.Proofs.YtnmkkejodkjjiaaDoor.Laws
