/- Contract of the document's own Parse of ranges: what SpnP's plain function says, for every string. -/
import Derived.Test.YtiencfgmdikepaaDoorSpnC
namespace Go.Proofs.YtiencfgmdikepaaDoor.SpnD
open Go.RowKit Go.Proofs.YtiencfgmdikepaaDoor.Base Go.Proofs.YtiencfgmdikepaaDoor.Base2 Go.Proofs.YtiencfgmdikepaaDoor.SpnP Go.Proofs.YtiencfgmdikepaaDoor.SpnA
open Go.Proofs.YtiencfgmdikepaaDoor.SpnC (row_cell says_no)

def T4 (w : World) (g : Nat) (a b c d : Value) : Prop := w.heap[g]? = some (.cells #[a, b, c, d] 27 (0, 0))
theorem T4.facts {w : World} {g : Nat} {a b c d : Value} (h : T4 w g a b c d) : (w.cell? ⟨g, 0, none⟩ = some a ∧ w.cell? ⟨g, 1, none⟩ = some b ∧ w.cell? ⟨g, 2, none⟩ = some c ∧ w.cell? ⟨g, 3, none⟩ = some d) ∧ w.frozen? ⟨g, 0, none⟩ = false ∧ w.frozen? ⟨g, 1, none⟩ = false ∧ w.frozen? ⟨g, 2, none⟩ = false ∧ w.frozen? ⟨g, 3, none⟩ = false :=
  ⟨⟨row_cell h 0 _ rfl, row_cell h 1 _ rfl, row_cell h 2 _ rfl, row_cell h 3 _ rfl⟩, frozen_of_row w g 0 _ _ h, frozen_of_row w g 1 _ _ h, frozen_of_row w g 2 _ _ h, frozen_of_row w g 3 _ _ h⟩
theorem T4.below {w w' : World} {g : Nat} {a b c d : Value} (h : T4 w g a b c d) (hb : Below w.heap.size w w') : T4 w' g a b c d := (hb.block g (Array.getElem?_eq_some_iff.1 h).1).trans h
theorem T4.lt {w : World} {g : Nat} {a b c d : Value} (h : T4 w g a b c d) : g < w.heap.size := (Array.getElem?_eq_some_iff.1 h).1
theorem T4.set02 {w : World} {g : Nat} {a b c d : Value} (h : T4 w g a b c d) (x y : Value) : T4 ((w.setCell ⟨g, 0, none⟩ x).setCell ⟨g, 2, none⟩ y) g x b y d :=
  heap_setCell_same _ g 2 _ _ y (heap_setCell_same w g 0 _ _ x h)
theorem T4.set13 {w : World} {g : Nat} {a b c d : Value} (h : T4 w g a b c d) (x y : Value) : T4 ((w.setCell ⟨g, 1, none⟩ x).setCell ⟨g, 3, none⟩ y) g a x c y :=
  heap_setCell_same _ g 3 _ _ y (heap_setCell_same w g 1 _ _ x h)
theorem T4.other {w : World} {g k : Nat} {a b c d : Value} (h : T4 w g a b c d) (hk : g ≠ k) (i j : Nat) (x y : Value) : T4 ((w.setCell ⟨k, i, none⟩ x).setCell ⟨k, j, none⟩ y) g a b c d := by
  unfold T4
  rw [heap_setCell_other _ _ _ _ hk, heap_setCell_other _ _ _ _ hk]
  exact h
def put4 (w : World) (g : Nat) (a b c d : Value) : World := (((w.setCell ⟨g, 0, none⟩ a).setCell ⟨g, 1, none⟩ b).setCell ⟨g, 2, none⟩ c).setCell ⟨g, 3, none⟩ d
theorem T4.put {w : World} {g : Nat} {a b c d : Value} (h : T4 w g a b c d) (x y z u : Value) : T4 (put4 w g x y z u) g x y z u :=
  heap_setCell_same _ g 3 _ _ u (heap_setCell_same _ g 2 _ _ z (heap_setCell_same _ g 1 _ _ y (heap_setCell_same w g 0 _ _ x h)))
theorem below_put {w0 w : World} {B g : Nat} (h : Below B w0 w) (hg : B ≤ g) (x y z u : Value) : Below B w0 (put4 w g x y z u) := (((h.setCell hg _).setCell hg _).setCell hg _).setCell hg _
theorem T4.load {w : World} {g : Nat} {a b c d : Value} (h : T4 w g a b c d) : (loadVar 27 ⟨g, 0, none⟩).run Tryd.prog w = .ok (.agg #[a, b, c, d]) w :=
  run_loadVar_row w g _ _ #[a, b, c, d] (0, 0) _ h Tryd.underlying27 rfl (by kernel_rfl)
theorem res_end {w : World} {g : Nat} {a b c d : Value} (h : T4 w g a b c d) (ok : Bool) (tmps : Array Value) (h2 : tmps.getD 2 undef = .pointer (some ⟨g, 0, none⟩)) (h3 : tmps.getD 3 undef = .bool ok) :
    (results Tryd.f11 tmps).run Tryd.prog w = .ok (.tuple #[.agg #[a, b, c, d], .bool ok]) w := by
  have hp' : tmps[2]?.getD undef = .pointer (some ⟨g, 0, none⟩) := by simpa using h2
  have hq' : tmps[3]?.getD undef = .bool ok := by simpa using h3
  simp [results, Tryd.results11, hp', hq', asAddr, h.load]
theorem head_at (s : ByteArray) (j : Nat) (M : List UInt8) (h : s.data.toList.drop j = M) (hj : j ≤ s.size) : (M = [] ∧ j = s.size) ∨ ∃ c t, M = c :: t ∧ j < s.size ∧ (∀ h', s[j]'h' = c) ∧ s.data.toList.drop (j + 1) = t := by
  rcases Nat.lt_or_ge j s.size with hlt | hge
  · have e := drop_at s j hlt
    rw [h] at e
    exact .inr ⟨s[j], s.data.toList.drop (j + 1), e, hlt, fun _ => rfl, rfl⟩
  · have : j = s.size := by omega
    subst this
    refine .inl ⟨?_, rfl⟩
    rw [← h, ← dlen, List.drop_length]
theorem len_at (s : ByteArray) (j : Nat) (M : List UInt8) (h : s.data.toList.drop j = M) (hj : j ≤ s.size) : M.length + j = s.size := by
  rw [← h, List.length_drop, dlen]
  omega
set_option maxRecDepth 100000 in
set_option maxHeartbeats 4000000 in
theorem ref_parse (s : ByteArray) (w : World) (hs : s.size ≤ 1073741824) :
    Calls Tryd.prog 11 #[.string s] w fun e w' => e = .returned (.tuple #[.agg #[.int .i64 (says s.data.toList).1, .int .i64 (says s.data.toList).2.1, .bool (says s.data.toList).2.2.1, .bool (says s.data.toList).2.2.2.1], .bool (says s.data.toList).2.2.2.2]) ∧ Below w.heap.size w w' := by
  by_cases h5 : s.size < 5
  · have p5 : (s.size : Int) < 5 := by omega
    have HV : Hid (says s.data.toList = (0, 0, false, false, false)) := by
      refine says_no _ ?_
      unfold okB
      rw [show decide (5 ≤ s.data.toList.length) = false by rw [dlen]; simp; omega]
      rfl
    go_enter Tryd.func11, Tryd.ntmps11
    go_wp2
    rw [HV.out]
    exact bodyPost_ret (v := .tuple #[.agg #[.int .i64 0, .int .i64 0, .bool false, .bool false], .bool false]) (by simp [results, Tryd.results11, go_sem]) rfl ⟨rfl, (Below.refl _ _).alloc (Nat.le_refl _) _⟩
  have p5 : (5 : Int) ≤ (s.size : Int) := by omega
  have h5' : 5 ≤ s.size := by omega
  have hx5 := ext_to s 5
  obtain ⟨L5, hL5⟩ : ∃ X, X = s.data.toList.take 5 := ⟨_, rfl⟩
  rw [← hL5] at hx5
  have hl5 : L5.length ≤ 5 := by rw [hL5, List.length_take]; omega
  obtain ⟨W5, hW5⟩ : ∃ X, X = UtfL.lower L5 := ⟨_, rfl⟩
  have HL5 := hid hL5
  have HW5 := hid hW5
  clear hL5 hW5 h5
  by_cases hb : W5 = bytesL
  · have e5 : ((strOf W5).toList == [98, 121, 116, 101, 115]) = true := by rw [hb, strOf, ByteArray.toList_mk]; decide
    have HB := hid hb
    clear hb
    have HOK : Hid (okB s.data.toList = (is 61 (pass (s.data.toList.drop 5)) && is 45 (pass (num 0 (from_ s.data.toList)).2) && (num 0 (to_ s.data.toList)).2.isEmpty && (hasNum (from_ s.data.toList) || hasNum (to_ s.data.toList)) &&
        !(hasNum (from_ s.data.toList) && hasNum (to_ s.data.toList) && decide ((num 0 (to_ s.data.toList)).1 < (num 0 (from_ s.data.toList)).1)))) := by
      show _ = _
      unfold okB
      rw [← HL5.out, ← HW5.out, HB.out, dlen, show decide (5 ≤ s.size) = true by simp; omega]
      simp
    go_enter Tryd.func11, Tryd.ntmps11
    go_wp2_with fail
    refine (RefA.lower_any (strOf L5) _ (by rw [size_strOf]; omega)).mono ?_
    rintro e w1 ⟨rfl, hb1⟩
    rw [show UtfL.lower (strOf L5).data.toList = W5 from HW5.out.symm]
    have hT1 : T4 w1 w.heap.size (.int .i64 0) (.int .i64 0) (.bool false) (.bool false) := (hb1.block w.heap.size (by simp)).trans (heap_alloc_new w _)
    have HT1 := hid hT1
    have hB1 : Below w.heap.size w w1 := ((Below.refl _ _).alloc (Nat.le_refl _) _).trans (hb1.mono (by simp))
    have HB1 := hid hB1
    obtain ⟨⟨g0, g1, g2, g3⟩, k0, k1, k2, k3⟩ := hT1.facts
    clear hT1 hb1 hB1
    go_wp2_with fail
    refine (skip_any s 5 _ hs h5').mono ?_
    rintro e w2 ⟨⟨j0, rfl, ha0, hz0, hd0⟩, rfl⟩
    obtain ⟨M0, hM0⟩ : ∃ X, X = pass (s.data.toList.drop 5) := ⟨_, rfl⟩
    rw [← hM0] at hd0
    have HM0 := hid hM0
    clear hM0
    have hcM := head_at s j0 M0 hd0 hz0
    have HD0 := hid hd0
    clear hd0
    by_cases hq : is 61 M0 = false
    · have HV : Hid (says s.data.toList = (0, 0, false, false, false)) := by
        refine says_no _ ?_
        rw [HOK.out, ← HM0.out, hq]
        rfl
      rcases hcM with ⟨hM, rfl⟩ | ⟨c, t, hM, hlt, hc, ht⟩
      · have e1 : ((s.size : Int) == (s.size : Int)) = true := by simp
        clear hq hM
        go_wp2_with fail
        rw [HV.out]
        exact bodyPost_ret (w := put4 _ w.heap.size (.int .i64 0) (.int .i64 0) (.bool false) (.bool false)) (res_end (HT1.out.put _ _ _ _) false _ rfl rfl) rfl ⟨rfl, below_put HB1.out (Nat.le_refl _) _ _ _ _⟩
      · have e1 : ((j0 : Int) == (s.size : Int)) = false := by simp; omega
        have e2 : ((c.toNat : Int) != 61) = true := by
          rw [hM] at hq
          simp only [is] at hq
          simp
          intro h
          have : c = 61 := UInt8.toNat_inj.1 (by simp; omega)
          rw [this] at hq
          cases hq
        clear hq hM ht
        go_wp2_with fail
        rw [HV.out]
        exact bodyPost_ret (w := put4 _ w.heap.size (.int .i64 0) (.int .i64 0) (.bool false) (.bool false)) (res_end (HT1.out.put _ _ _ _) false _ rfl rfl) rfl ⟨rfl, below_put HB1.out (Nat.le_refl _) _ _ _ _⟩
    have hq' : is 61 M0 = true := by simpa using hq
    clear hq
    rcases hcM with ⟨hM, _⟩ | ⟨c, t, hM, hlt, hc, ht⟩
    · rw [hM] at hq'
      cases hq'
    have HEQ := hid hq'
    have hc61 : c = 61 := by
      rw [hM] at hq'
      simp only [is, beq_iff_eq] at hq'
      exact hq'
    subst hc61
    have HT0 : Hid (s.data.toList.drop (j0 + 1) = cut 61 M0) := by
      show _ = _
      rw [ht, hM, cut, if_pos rfl]
    clear hq' ht hM
    have e1 : ((j0 : Int) == (s.size : Int)) = false := by simp; omega
    obtain ⟨N0, hN0⟩ : ∃ X, X = pass (cut 61 M0) := ⟨_, rfl⟩
    have HN0 := hid hN0
    clear hN0
    go_wp2_with fail
    rw [show ((j0 : Int) + 1) = ((j0 + 1 : Nat) : Int) by omega]
    refine (skip_any s (j0 + 1) _ hs (by omega)).mono ?_
    rintro e w2 ⟨⟨j1, rfl, ha1, hz1, hd1⟩, rfl⟩
    rw [HT0.out, ← HN0.out] at hd1
    have HD1 := hid hd1
    have HLN := hid (len_at s j1 N0 hd1 hz1)
    clear hd1 e1 hc
    have HFR : Hid (from_ s.data.toList = N0) := by
      show _ = _
      unfold from_
      rw [← HM0.out, ← HN0.out]
    obtain ⟨F, hF⟩ : ∃ X, X = (num 0 N0).1 := ⟨_, rfl⟩
    obtain ⟨P0, hP0⟩ : ∃ X, X = (num 0 N0).2 := ⟨_, rfl⟩
    have HF := hid hF
    have HP0 := hid hP0
    clear hF hP0
    go_wp2_with fail
    refine (ref_number s j1 _ hs hz1).mono ?_
    rintro e w2 ⟨⟨j2, rfl, ha2, hz2, hd2⟩, rfl⟩
    rw [HD1.out, ← HF.out]
    rw [HD1.out, ← HP0.out] at hd2
    have HD2 := hid hd2
    have HLP := hid (len_at s j2 P0 hd2 hz2)
    clear hd2
    obtain ⟨hf, hhf⟩ : ∃ X, X = hasNum N0 := ⟨_, rfl⟩
    have hdn : decide (j1 < j2) = hf := by
      rw [hhf]
      unfold hasNum
      rw [← HP0.out, Bool.eq_iff_iff, decide_eq_true_iff, decide_eq_true_iff]
      have := HLN.out
      have := HLP.out
      omega
    have hdi : decide ((j1 : Int) < (j2 : Int)) = hf := by rw [← hdn, Bool.eq_iff_iff, decide_eq_true_iff, decide_eq_true_iff]; omega
    have HHF := hid hhf
    clear hhf
    have HGB : Hid (w.heap.size < w1.heap.size) := HT1.out.lt
    have HB1x := HB1
    have HT1x := HT1
    clear HB1 HT1 g0 g1 g2 g3 k0 k1 k2 k3
    go_wp2_with fail
    refine (skip_any s j2 _ hs hz2).mono ?_
    rintro e w6 ⟨⟨j3, rfl, ha3, hz3, hd3⟩, rfl⟩
    obtain ⟨w6, hw6⟩ : ∃ w6 : World, w6 = (w1.alloc (.cells #[.int .i64 F, .int .i64 0, .bool hf, .bool false] 27)) := ⟨_, rfl⟩
    rw [← hw6]
    have HB6 : Hid (Below w.heap.size w w6) := by rw [hw6]; exact HB1x.out.alloc HB1x.out.size _
    have HR6 : Hid (T4 w6 w.heap.size (.int .i64 0) (.int .i64 0) (.bool false) (.bool false)) := by rw [hw6]; exact (((Below.refl _ _).alloc (Nat.le_refl _) _).block _ HT1x.out.lt).trans HT1x.out
    have HG6 : Hid (T4 w6 w1.heap.size (.int .i64 F) (.int .i64 0) (.bool hf) (.bool false)) := by rw [hw6]; exact heap_alloc_new w1 _
    clear hw6 hdn hdi HB1x HT1x
    obtain ⟨P1, hP1⟩ : ∃ X, X = pass P0 := ⟨_, rfl⟩
    rw [HD2.out, ← hP1] at hd3
    have HP1 := hid hP1
    clear hP1
    have hcM := head_at s j3 P1 hd3 hz3
    clear hd3
    obtain ⟨⟨g0, g1, g2, g3⟩, k0, k1, k2, k3⟩ := HR6.out.facts
    by_cases hq : is 45 P1 = false
    · have HV : Hid (says s.data.toList = (0, 0, false, false, false)) := by
        refine says_no _ ?_
        rw [HOK.out, HFR.out, ← HP0.out, ← HP1.out, hq]
        simp
      rcases hcM with ⟨hM, rfl⟩ | ⟨c, t, hM, hlt, hc, ht⟩
      · have e1 : ((s.size : Int) == (s.size : Int)) = true := by simp
        clear hq hM
        go_wp2_with fail
        rw [HV.out]
        exact bodyPost_ret (w := put4 _ w.heap.size (.int .i64 0) (.int .i64 0) (.bool false) (.bool false)) (res_end (HR6.out.put _ _ _ _) false _ rfl rfl) rfl ⟨rfl, below_put HB6.out (Nat.le_refl _) _ _ _ _⟩
      · have e1 : ((j3 : Int) == (s.size : Int)) = false := by simp; omega
        have e2 : ((c.toNat : Int) != 45) = true := by
          rw [hM] at hq
          simp only [is] at hq
          simp
          intro h
          have : c = 45 := UInt8.toNat_inj.1 (by simp; omega)
          rw [this] at hq
          cases hq
        clear hq hM ht
        go_wp2_with fail
        rw [HV.out]
        exact bodyPost_ret (w := put4 _ w.heap.size (.int .i64 0) (.int .i64 0) (.bool false) (.bool false)) (res_end (HR6.out.put _ _ _ _) false _ rfl rfl) rfl ⟨rfl, below_put HB6.out (Nat.le_refl _) _ _ _ _⟩
    have hq' : is 45 P1 = true := by simpa using hq
    clear hq
    rcases hcM with ⟨hM, _⟩ | ⟨c, t, hM, hlt, hc, ht⟩
    · rw [hM] at hq'
      cases hq'
    have HDA := hid hq'
    have hc45 : c = 45 := by
      rw [hM] at hq'
      simp only [is, beq_iff_eq] at hq'
      exact hq'
    subst hc45
    have HT3 : Hid (s.data.toList.drop (j3 + 1) = cut 45 P1) := by
      show _ = _
      rw [ht, hM, cut, if_pos rfl]
    clear hq' ht hM
    have e1 : ((j3 : Int) == (s.size : Int)) = false := by simp; omega
    obtain ⟨Q0, hQ0⟩ : ∃ X, X = pass (cut 45 P1) := ⟨_, rfl⟩
    have HQ0 := hid hQ0
    clear hQ0
    go_wp2_with fail
    rw [show ((j3 : Int) + 1) = ((j3 + 1 : Nat) : Int) by omega]
    refine (skip_any s (j3 + 1) _ hs (by omega)).mono ?_
    rintro e w7 ⟨⟨j4, rfl, ha4, hz4, hd4⟩, rfl⟩
    rw [HT3.out, ← HQ0.out] at hd4
    have HD4 := hid hd4
    have HLQ := hid (len_at s j4 Q0 hd4 hz4)
    clear hd4 e1 hc
    have HTO : Hid (to_ s.data.toList = Q0) := by
      show _ = _
      unfold to_
      rw [HFR.out, ← HP0.out, ← HP1.out, ← HQ0.out]
    obtain ⟨T, hT⟩ : ∃ X, X = (num 0 Q0).1 := ⟨_, rfl⟩
    obtain ⟨Z, hZ⟩ : ∃ X, X = (num 0 Q0).2 := ⟨_, rfl⟩
    have HT := hid hT
    have HZ := hid hZ
    clear hT hZ
    go_wp2_with fail
    refine (ref_number s j4 _ hs hz4).mono ?_
    rintro e w7 ⟨⟨j5, rfl, ha5, hz5, hd5⟩, rfl⟩
    rw [HD4.out, ← HT.out]
    rw [HD4.out, ← HZ.out] at hd5
    have HLZ := hid (len_at s j5 Z hd5 hz5)
    clear hd5
    obtain ⟨ht, hht⟩ : ∃ X, X = hasNum Q0 := ⟨_, rfl⟩
    have hdn : decide (j4 < j5) = ht := by
      rw [hht]
      unfold hasNum
      rw [← HZ.out, Bool.eq_iff_iff, decide_eq_true_iff, decide_eq_true_iff]
      have := HLQ.out
      have := HLZ.out
      omega
    have hdi : decide ((j4 : Int) < (j5 : Int)) = ht := by rw [← hdn, Bool.eq_iff_iff, decide_eq_true_iff, decide_eq_true_iff]; omega
    have HHT := hid hht
    clear hht
    obtain ⟨⟨c0, c1, c2, c3⟩, f0, f1, f2, f3⟩ := HG6.out.facts
    have HSAY : Hid (okB s.data.toList = (decide (j5 = s.size) && (hf || ht) && !(hf && ht && decide (T < F)))) := by
      show _ = _
      have hzz : Z.isEmpty = decide (j5 = s.size) := by
        have := HLZ.out
        cases Z with
        | nil => simp at this; simp [this]
        | cons x t => simp at this; simp; omega
      rw [HOK.out, HFR.out, HTO.out, ← HM0.out, HEQ.out, ← HP0.out, ← HP1.out, HDA.out, ← HZ.out, hzz, ← HHF.out, ← HHT.out, ← HF.out, ← HT.out]
      simp
    have HVAL : Hid (okB s.data.toList = true → says s.data.toList = (F, T, hf, ht, true)) := by
      intro hok
      unfold says
      rw [if_pos hok, HFR.out, HTO.out, ← HF.out, ← HT.out, ← HHF.out, ← HHT.out]
    have HRN : Hid (T4 ((w6.setCell ⟨w1.heap.size, 1, none⟩ (.int .i64 T)).setCell ⟨w1.heap.size, 3, none⟩ (.bool ht)) w.heap.size (.int .i64 0) (.int .i64 0) (.bool false) (.bool false)) := HR6.out.other (by have := HGB.out; omega) 1 3 _ _
    have HBN : Hid (Below w.heap.size w ((w6.setCell ⟨w1.heap.size, 1, none⟩ (.int .i64 T)).setCell ⟨w1.heap.size, 3, none⟩ (.bool ht))) := (HB6.out.setCell (by show w.heap.size ≤ w1.heap.size; have := HGB.out; omega) _).setCell (by show w.heap.size ≤ w1.heap.size; have := HGB.out; omega) _
    have hne : w1.heap.size ≠ w.heap.size := by have := HGB.out; omega
    have hne' : w.heap.size ≠ w1.heap.size := by have := HGB.out; omega
    have hcase : (j5 ≠ s.size ∨ j5 = s.size ∧ hf = false ∧ ht = false ∨ j5 = s.size ∧ hf = true ∧ ht = true ∧ T < F) ∨ (j5 = s.size ∧ (hf = true ∧ ht = false ∨ hf = false ∧ ht = true ∨ hf = true ∧ ht = true ∧ ¬ T < F)) := by
      cases hf <;> cases ht <;> by_cases h : j5 = s.size <;> by_cases h' : T < F <;> simp [h, h']
    rcases hcase with hbad | hgood
    · have HV : Hid (says s.data.toList = (0, 0, false, false, false)) := by
        refine says_no _ ?_
        rw [HSAY.out]
        rcases hbad with h | ⟨h3, h4, h5⟩ | ⟨h3, h4, h5, h6⟩
        · simp [h]
        · simp [h4, h5]
        · simp [h4, h5, h6]
      rcases hbad with h | ⟨h3, h4, h5⟩ | ⟨h3, h4, h5, h6⟩
      · have e1 : ((j5 : Int) != (s.size : Int)) = true := by simp; omega
        clear h
        go_wp2_with fail
        rw [HV.out]
        exact bodyPost_ret (w := put4 _ w.heap.size (.int .i64 0) (.int .i64 0) (.bool false) (.bool false)) (res_end (HRN.out.put _ _ _ _) false _ rfl rfl) rfl ⟨rfl, below_put HBN.out (Nat.le_refl _) _ _ _ _⟩
      · have e1 : ((j5 : Int) != (s.size : Int)) = false := by simp; omega
        clear h3
        subst h4 h5
        go_wp2_with fail
        rw [HV.out]
        exact bodyPost_ret (w := put4 _ w.heap.size (.int .i64 0) (.int .i64 0) (.bool false) (.bool false)) (res_end (HRN.out.put _ _ _ _) false _ rfl rfl) rfl ⟨rfl, below_put HBN.out (Nat.le_refl _) _ _ _ _⟩
      · have e1 : ((j5 : Int) != (s.size : Int)) = false := by simp; omega
        clear h3
        subst h4 h5
        go_wp2_with fail
        rw [HV.out]
        exact bodyPost_ret (w := put4 _ w.heap.size (.int .i64 0) (.int .i64 0) (.bool false) (.bool false)) (res_end (HRN.out.put _ _ _ _) false _ rfl rfl) rfl ⟨rfl, below_put HBN.out (Nat.le_refl _) _ _ _ _⟩
    · have HV : Hid (says s.data.toList = (F, T, hf, ht, true)) := by
        refine HVAL.out ?_
        rw [HSAY.out]
        obtain ⟨h3, h4⟩ := hgood
        rcases h4 with ⟨a, b⟩ | ⟨a, b⟩ | ⟨a, b, c⟩
        · simp [h3, a, b]
        · simp [h3, a, b]
        · simp [h3, a, b]; omega
      obtain ⟨h3, h4⟩ := hgood
      have e1 : ((j5 : Int) != (s.size : Int)) = false := by simp; omega
      clear h3
      rcases h4 with ⟨h4, h5⟩ | ⟨h4, h5⟩ | ⟨h4, h5, h6⟩
      all_goals
        subst h4 h5
        go_wp2_with fail
        rw [HV.out]
        exact bodyPost_ret (w := put4 _ w.heap.size (.int .i64 F) (.int .i64 T) (.bool _) (.bool _)) (res_end (HRN.out.put _ _ _ _) true _ rfl rfl) rfl ⟨rfl, below_put HBN.out (Nat.le_refl _) _ _ _ _⟩
  · have e5 : ((strOf W5).toList == [98, 121, 116, 101, 115]) = false := by
      rw [strOf, ByteArray.toList_mk]
      simpa [bytesL] using hb
    have HV : Hid (says s.data.toList = (0, 0, false, false, false)) := by
      refine says_no _ ?_
      unfold okB
      rw [show decide (UtfL.lower (s.data.toList.take 5) = bytesL) = false by rw [← HL5.out, ← HW5.out]; simpa using hb]
      simp
    clear hb
    go_enter Tryd.func11, Tryd.ntmps11
    go_wp2_with fail
    refine (RefA.lower_any (strOf L5) _ (by rw [size_strOf]; omega)).mono ?_
    rintro e w1 ⟨rfl, hb1⟩
    rw [show UtfL.lower (strOf L5).data.toList = W5 from HW5.out.symm]
    have hT1 : T4 w1 w.heap.size (.int .i64 0) (.int .i64 0) (.bool false) (.bool false) := (hb1.block w.heap.size (by simp)).trans (heap_alloc_new w _)
    obtain ⟨⟨c0, c1, c2, c3⟩, f0, f1, f2, f3⟩ := hT1.facts
    have HT := hid hT1
    clear hT1
    go_wp2_with fail
    rw [HV.out]
    exact bodyPost_ret (w := put4 _ w.heap.size (.int .i64 0) (.int .i64 0) (.bool false) (.bool false)) (res_end (HT.out.put _ _ _ _) false _ rfl rfl) rfl ⟨rfl, below_put (((Below.refl _ _).alloc (Nat.le_refl _) _).trans (hb1.mono (by simp))) (Nat.le_refl _) _ _ _ _⟩
end Go.Proofs.YtiencfgmdikepaaDoor.SpnD
