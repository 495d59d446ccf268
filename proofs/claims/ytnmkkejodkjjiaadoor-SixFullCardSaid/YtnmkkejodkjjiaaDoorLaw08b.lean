/- The walk of the law SixBack: it returns true, whatever it is called with. -/
import Derived.Test.YtnmkkejodkjjiaaDoorSixM
import Derived.Test.YtnmkkejodkjjiaaDoorSixK
namespace Go.Proofs.YtnmkkejodkjjiaaDoor.Laws
open Go.RowKit Go.Proofs.YtnmkkejodkjjiaaDoor.Base Go.Proofs.YtnmkkejodkjjiaaDoor.Base2 Go.Proofs.YtnmkkejodkjjiaaDoor.SixP Go.Proofs.YtnmkkejodkjjiaaDoor.SixB Go.Proofs.YtnmkkejodkjjiaaDoor.SixC Go.Proofs.YtnmkkejodkjjiaaDoor.SixG Go.Proofs.YtnmkkejodkjjiaaDoor.SixH Go.Proofs.YtnmkkejodkjjiaaDoor.SixI Go.Proofs.YtnmkkejodkjjiaaDoor.SixL Go.Proofs.YtnmkkejodkjjiaaDoor.SixM Go.Proofs.YtnmkkejodkjjiaaDoor.Spl

theorem nat8 (g : Nat → Int) (hg : ∀ i, i < 8 → 0 ≤ g i ∧ g i ≤ 65535) : ∃ f : Nat → Nat, (∀ i, f i < 65536) ∧ g 0 = (f 0 : Int) ∧ g 1 = (f 1 : Int) ∧ g 2 = (f 2 : Int) ∧ g 3 = (f 3 : Int) ∧ g 4 = (f 4 : Int) ∧ g 5 = (f 5 : Int) ∧ g 6 = (f 6 : Int) ∧ g 7 = (f 7 : Int) := by
  refine ⟨fun i => if i < 8 then (g i).toNat else 0, fun i => ?_, ?_⟩
  · by_cases h : i < 8
    · have := hg i h
      simp only [h, if_true]
      omega
    · simp only [h, if_false]
      omega
  · have h0 := hg 0 (by omega)
    have h1 := hg 1 (by omega)
    have h2 := hg 2 (by omega)
    have h3 := hg 3 (by omega)
    have h4 := hg 4 (by omega)
    have h5 := hg 5 (by omega)
    have h6 := hg 6 (by omega)
    have h7 := hg 7 (by omega)
    simp
    omega
set_option linter.unusedSimpArgs false in
set_option maxRecDepth 100000 in
set_option maxHeartbeats 4000000 in
theorem SixBack_any (g : Nat → Int) (w : World) (hg : ∀ i, i < 8 → 0 ≤ g i ∧ g i ≤ 65535) (hL : Lad w) (hM : Max w) : Calls Tryd.prog 4 #[.agg #[.int .u16 (g 0), .int .u16 (g 1), .int .u16 (g 2), .int .u16 (g 3), .int .u16 (g 4), .int .u16 (g 5), .int .u16 (g 6), .int .u16 (g 7)]] w fun e w' => e = .returned (.bool true) ∧ Below w.heap.size w w' := by
  obtain ⟨f, h6, e0, e1, e2, e3, e4, e5, e6, e7⟩ := nat8 g hg
  rw [e0, e1, e2, e3, e4, e5, e6, e7]
  clear e0 e1 e2 e3 e4 e5 e6 e7 hg
  have HL := hid hL
  have HM := hid hM
  have H6 := hid h6
  have heq := fun w => eql_self f w
  have hsx := six_prt f h6
  obtain ⟨P, hP⟩ : ∃ P, P = strOf (SixI.prt f) := ⟨_, rfl⟩
  have hps : P.size ≤ 1048576 := by
    rw [hP, size_strOf]
    unfold SixI.prt
    have h1 := jx_len (V8 f)
    have h2 := jx_len ((V8 f).take (lng (zs f)).1)
    have h3 := jx_len ((V8 f).drop (lng (zs f)).2)
    have h8 : (V8 f).length = 8 := rfl
    rw [List.length_take] at h2
    rw [List.length_drop] at h3
    split
    · omega
    · simp only [List.length_append, List.length_cons, List.length_nil]
      omega
  have hr := fun w hM => SixC.parse_any P w hps hM
  rw [show P.data.toList = SixI.prt f by rw [hP]; rfl, hsx] at hr
  have HV : Hid (SixV (some (V8 f)) = .tuple #[.agg #[.int .u16 (f 0 : Int), .int .u16 (f 1 : Int), .int .u16 (f 2 : Int), .int .u16 (f 3 : Int), .int .u16 (f 4 : Int), .int .u16 (f 5 : Int), .int .u16 (f 6 : Int), .int .u16 (f 7 : Int)], .bool true]) := rfl
  rw [HV.out] at hr
  have HR := hid hr
  have HP1 : Hid (∀ w, Lad w → Calls Tryd.prog 14 #[A8 f] w fun e w' => e = .returned (.string P) ∧ Below w.heap.size w w') := by
    show ∀ w, _
    rw [hP]
    exact fun w hL => SixI.print_any f h6 w hL
  have HP2 : Hid (∀ w, Calls Tryd.prog 15 #[A8 f] w fun e w' => e = .returned (.string P) ∧ Below w.heap.size w w') := by
    show ∀ w, _
    rw [hP]
    exact fun w => SixK.print_any f h6 w
  clear hL hM h6 hsx hP hps hr HV
  go_enter Tryd.func4, Tryd.ntmps4
  go_upto_region 1 with (fail)
  generalize hw1 : w.alloc _ = w1
  have HB1 : Hid (Below w.heap.size w w1) := by
    show Below _ _ _
    rw [← hw1]
    exact (Below.refl _ _).alloc (Nat.le_refl _) _
  have HX1 : Hid (Box w1 w.heap.size 24 (V8 f)) := by
    show Box _ _ _ _
    rw [← hw1]
    exact box_new f
  clear hw1
  go_wp2_with fail
  refine (awake_any _ (HL.out.below HB1.out) (HM.out.below HB1.out)).mono ?_
  rintro e w2 ⟨rfl, hb2⟩
  have HX2 := hid (HX1.out.below hb2)
  have HB2 := hid (bel HB1.out hb2)
  clear hb2
  obtain ⟨c0, c1, c2, c3, c4, c5, c6, c7⟩ := cells8 HX2.out f rfl
  go_wp2_with fail
  clear c0 c1 c2 c3 c4 c5 c6 c7
  refine (HP1.out _ (HL.out.below HB2.out)).mono ?_
  rintro e w3 ⟨rfl, hb3⟩
  have HX3 := hid (HX2.out.below hb3)
  have HB3 := hid (bel HB2.out hb3)
  clear hb3
  go_wp2_with fail
  refine (HR.out _ (HM.out.below HB3.out)).mono ?_
  rintro e w4 ⟨rfl, hb4⟩
  have HX4 := hid (HX3.out.below hb4)
  have HB4 := hid (bel HB3.out hb4)
  clear hb4
  go_upto_region 5 with (fail)
  generalize hw5 : w4.alloc _ = w5
  have HB5 : Hid (Below w.heap.size w w5) := by
    show Below _ _ _
    rw [← hw5]
    exact HB4.out.alloc HB4.out.size _
  have HX5 : Hid (Box w5 w.heap.size 24 (V8 f)) := by
    show Box _ _ _ _
    rw [← hw5]
    exact HX4.out.below ((Below.refl _ _).alloc (Nat.le_refl _) _)
  have HY5 : Hid (Box w5 w4.heap.size 24 (V8 f)) := by
    show Box _ _ _ _
    rw [← hw5]
    exact box_new f
  clear hw5
  obtain ⟨c0, c1, c2, c3, c4, c5, c6, c7⟩ := cells8 HX5.out f rfl
  go_wp2_with fail
  clear c0 c1 c2 c3 c4 c5 c6 c7
  refine (HP2.out _).mono ?_
  rintro e w6 ⟨rfl, hb6⟩
  have HX6 := hid (HX5.out.below hb6)
  have HY6 := hid (HY5.out.below hb6)
  have HB6 := hid (bel HB5.out hb6)
  clear hb6
  obtain ⟨c0, c1, c2, c3, c4, c5, c6, c7⟩ := cells8 HX6.out f rfl
  obtain ⟨d0, d1, d2, d3, d4, d5, d6, d7⟩ := cells8 HY6.out f rfl
  go_wp2
  go_ret
  exact ⟨rfl, HB6.out⟩
end Go.Proofs.YtnmkkejodkjjiaaDoor.Laws
