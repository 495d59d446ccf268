/- Contract of span.Parse: what SpnP's plain function says, for every string. -/
import Derived.Test.YtiencfgmdikepaaDoorSpnB
import Derived.Laws.Rows
namespace Go.Proofs.YtiencfgmdikepaaDoor.SpnC
open Go.RowKit Go.Proofs.YtiencfgmdikepaaDoor.Base Go.Proofs.YtiencfgmdikepaaDoor.Base2 Go.Proofs.YtiencfgmdikepaaDoor.SpnP Go.Proofs.YtiencfgmdikepaaDoor.SpnA

theorem cut_eq (c : UInt8) (L : List UInt8) : Lib.trimPrefix L [c] = cut c L ∧ Lib.hasPrefix L [c] = is c L := by
  unfold Lib.trimPrefix Lib.hasPrefix
  cases L with
  | nil => exact ⟨by simp [cut], rfl⟩
  | cons x t =>
    by_cases h : c = x
    · subst h
      exact ⟨by simp [cut], by simp [is]⟩
    · have h' : ¬ x = c := fun e => h e.symm
      exact ⟨by simp [cut, h, h'], by simp only [is, List.isPrefixOf, Bool.and_true]; rw [Bool.eq_iff_iff, beq_iff_eq, beq_iff_eq]; exact eq_comm⟩
theorem cutp_any (L : List UInt8) (c : UInt8) (w : World) :
    Calls Tryd.prog 17 #[.string (strOf L), .string ⟨#[c]⟩] w fun e w' => e = .returned (.tuple #[.string (strOf (cut c L)), .bool (is c L)]) ∧ w' = w := by
  have h := Tryd.strings_CutPrefix (strOf L) ⟨#[c]⟩ w
  obtain ⟨h1, h2⟩ := cut_eq c L
  rw [show (strOf L).data.toList = L from rfl, show (⟨#[c]⟩ : ByteArray).data.toList = [c] from rfl, h1, h2] at h
  exact h
theorem cut_len (c : UInt8) (L : List UInt8) : (cut c L).length ≤ L.length := by
  unfold cut
  split
  · simp
  · split <;> simp
/-- A block that is a row of these cells. -/
theorem row_cell {w : World} {g : Nat} {cs : Array Value} {t : TypeId} (h : w.heap[g]? = some (.cells cs t (0, 0))) (j : Nat) (v : Value) (hv : cs[j]? = some v) : w.cell? ⟨g, j, none⟩ = some v := (cell_of_row w g j cs t (0, 0) h).trans hv
def T4 (w : World) (g : Nat) (a b c d : Value) : Prop := w.heap[g]? = some (.cells #[a, b, c, d] 24 (0, 0))
theorem T4.facts {w : World} {g : Nat} {a b c d : Value} (h : T4 w g a b c d) : (w.cell? ⟨g, 0, none⟩ = some a ∧ w.cell? ⟨g, 1, none⟩ = some b ∧ w.cell? ⟨g, 2, none⟩ = some c ∧ w.cell? ⟨g, 3, none⟩ = some d) ∧ w.frozen? ⟨g, 0, none⟩ = false ∧ w.frozen? ⟨g, 1, none⟩ = false ∧ w.frozen? ⟨g, 2, none⟩ = false ∧ w.frozen? ⟨g, 3, none⟩ = false :=
  ⟨⟨row_cell h 0 _ rfl, row_cell h 1 _ rfl, row_cell h 2 _ rfl, row_cell h 3 _ rfl⟩, frozen_of_row w g 0 _ _ h, frozen_of_row w g 1 _ _ h, frozen_of_row w g 2 _ _ h, frozen_of_row w g 3 _ _ h⟩
theorem T4.below {w w' : World} {g : Nat} {a b c d : Value} (h : T4 w g a b c d) (hb : Below w.heap.size w w') : T4 w' g a b c d := (hb.block g (Array.getElem?_eq_some_iff.1 h).1).trans h
theorem T4.lt {w : World} {g : Nat} {a b c d : Value} (h : T4 w g a b c d) : g < w.heap.size := (Array.getElem?_eq_some_iff.1 h).1
theorem T4.set02 {w : World} {g : Nat} {a b c d : Value} (h : T4 w g a b c d) (x y : Value) : T4 ((w.setCell ⟨g, 0, none⟩ x).setCell ⟨g, 2, none⟩ y) g x b y d :=
  heap_setCell_same _ g 2 _ _ y (heap_setCell_same w g 0 _ _ x h)
theorem T4.set13 {w : World} {g : Nat} {a b c d : Value} (h : T4 w g a b c d) (x y : Value) : T4 ((w.setCell ⟨g, 1, none⟩ x).setCell ⟨g, 3, none⟩ y) g a x c y :=
  heap_setCell_same _ g 3 _ _ y (heap_setCell_same w g 1 _ _ x h)
theorem T4.other {w : World} {g k : Nat} {a b c d : Value} (h : T4 w g a b c d) (hk : g ≠ k) (i j : Nat) (x y : Value) : T4 ((w.setCell ⟨k, i, none⟩ x).setCell ⟨k, j, none⟩ y) g a b c d := by
  unfold T4
  rw [heap_setCell_other _ _ _ _ hk, heap_setCell_other _ _ _ _ hk]
  exact h
def put4 (w : World) (g : Nat) (a b c d : Value) : World := (((w.setCell ⟨g, 0, none⟩ a).setCell ⟨g, 1, none⟩ b).setCell ⟨g, 2, none⟩ c).setCell ⟨g, 3, none⟩ d
theorem T4.put {w : World} {g : Nat} {a b c d : Value} (h : T4 w g a b c d) (x y z u : Value) : T4 (put4 w g x y z u) g x y z u :=
  heap_setCell_same _ g 3 _ _ u (heap_setCell_same _ g 2 _ _ z (heap_setCell_same _ g 1 _ _ y (heap_setCell_same w g 0 _ _ x h)))
theorem below_put {w0 w : World} {B g : Nat} (h : Below B w0 w) (hg : B ≤ g) (x y z u : Value) : Below B w0 (put4 w g x y z u) := (((h.setCell hg _).setCell hg _).setCell hg _).setCell hg _
theorem T4.load {w : World} {g : Nat} {a b c d : Value} (h : T4 w g a b c d) : (loadVar 24 ⟨g, 0, none⟩).run Tryd.prog w = .ok (.agg #[a, b, c, d]) w :=
  run_loadVar_row w g _ _ #[a, b, c, d] (0, 0) _ h Tryd.underlying24 rfl (by kernel_rfl)
theorem res_end {w : World} {g : Nat} {a b c d : Value} (h : T4 w g a b c d) (ok : Bool) (tmps : Array Value) (h2 : tmps.getD 2 undef = .pointer (some ⟨g, 0, none⟩)) (h3 : tmps.getD 3 undef = .bool ok) :
    (results Tryd.f10 tmps).run Tryd.prog w = .ok (.tuple #[.agg #[a, b, c, d], .bool ok]) w := by
  have hp' : tmps[2]?.getD undef = .pointer (some ⟨g, 0, none⟩) := by simpa using h2
  have hq' : tmps[3]?.getD undef = .bool ok := by simpa using h3
  simp [results, Tryd.results10, hp', hq', asAddr, h.load]
/-- The parts of a text that fails ahead of all. -/
theorem says_no (L : List UInt8) (h : okB L = false) : says L = (0, 0, false, false, false) := by unfold says; rw [h]; rfl
set_option maxRecDepth 100000 in
set_option maxHeartbeats 4000000 in
theorem parse_any (s : ByteArray) (w : World) (hs : s.size ≤ 1073741824) :
    Calls Tryd.prog 10 #[.string s] w fun e w' => e = .returned (.tuple #[.agg #[.int .i64 (says s.data.toList).1, .int .i64 (says s.data.toList).2.1, .bool (says s.data.toList).2.2.1, .bool (says s.data.toList).2.2.2.1], .bool (says s.data.toList).2.2.2.2]) ∧ Below w.heap.size w w' := by
  have HL := hid (dlen s)
  by_cases h5 : s.size < 5
  · have p5 : (s.size : Int) < 5 := by omega
    have HV : Hid (says s.data.toList = (0, 0, false, false, false)) := by
      refine says_no _ ?_
      unfold okB
      rw [show decide (5 ≤ s.data.toList.length) = false by rw [dlen]; simp; omega]
      rfl
    go_enter Tryd.func10, Tryd.ntmps10
    go_wp2
    rw [HV.out]
    exact bodyPost_ret (v := .tuple #[.agg #[.int .i64 0, .int .i64 0, .bool false, .bool false], .bool false]) (by simp [results, Tryd.results10, go_sem]) rfl ⟨rfl, (Below.refl _ _).alloc (Nat.le_refl _) _⟩
  have p5 : (5 : Int) ≤ (s.size : Int) := by omega
  have hx5 := ext_to s 5
  have hx5' := ext_from s 5 s.size rfl
  obtain ⟨L5, hL5⟩ : ∃ X, X = s.data.toList.take 5 := ⟨_, rfl⟩
  obtain ⟨R5, hR5⟩ : ∃ X, X = s.data.toList.drop 5 := ⟨_, rfl⟩
  rw [← hL5] at hx5
  rw [← hR5] at hx5'
  have hl5 : L5.length ≤ 5 := by rw [hL5, List.length_take]; omega
  have hr5 : R5.length ≤ s.size := by rw [hR5, List.length_drop, dlen]; omega
  obtain ⟨W5, hW5⟩ : ∃ X, X = UtfL.lower L5 := ⟨_, rfl⟩
  have HL5 := hid hL5
  have HR5x := hid hR5
  have HW5 := hid hW5
  clear hL5 hR5 hW5
  by_cases hb : W5 = bytesL
  · have e5 : ((strOf W5).toList == [98, 121, 116, 101, 115]) = true := by rw [hb, strOf, ByteArray.toList_mk]; decide
    have HB := hid hb
    clear hb
    go_enter Tryd.func10, Tryd.ntmps10
    go_wp2_with fail
    refine (UtfL.lower_any (strOf L5) _ (by rw [size_strOf]; unfold maxLen; omega)).mono ?_
    rintro e w1 ⟨rfl, hb1⟩
    rw [show UtfL.lower (strOf L5).data.toList = W5 from HW5.out.symm]
    go_wp2_with fail
    have hT1 : T4 w1 w.heap.size (.int .i64 0) (.int .i64 0) (.bool false) (.bool false) := (hb1.block w.heap.size (by simp)).trans (heap_alloc_new w _)
    have HT1 := hid hT1
    have hB1 : Below w.heap.size w w1 := ((Below.refl _ _).alloc (Nat.le_refl _) _).trans (hb1.mono (by simp))
    have HB1 := hid hB1
    clear hT1 hb1 hB1
    obtain ⟨M0, hM0⟩ : ∃ X, X = pass R5 := ⟨_, rfl⟩
    have lM0 : M0.length ≤ s.size := by rw [hM0]; exact Nat.le_trans (pass_len _) hr5
    have HM0 := hid hM0
    clear hM0
    go_wp2_with fail
    refine (pass_any (strOf R5) _ (by rw [size_strOf]; omega)).mono ?_
    rintro e w2 ⟨rfl, hb2⟩
    rw [show pass (strOf R5).data.toList = M0 from HM0.out.symm]
    have HB2 : Hid (Below w.heap.size w w2) := bel HB1.out hb2
    have HT2 : Hid (T4 w2 w.heap.size (.int .i64 0) (.int .i64 0) (.bool false) (.bool false)) := HT1.out.below hb2
    clear hb2 HB1 HT1
    obtain ⟨eqB, heq⟩ : ∃ X, X = is 61 M0 := ⟨_, rfl⟩
    obtain ⟨M1, hM1⟩ : ∃ X, X = cut 61 M0 := ⟨_, rfl⟩
    have lM1 : M1.length ≤ s.size := by rw [hM1]; exact Nat.le_trans (cut_len _ _) lM0
    have HEQ := hid heq
    have HM1 := hid hM1
    clear heq hM1
    go_wp2_with fail
    refine (cutp_any M0 61 _).mono ?_
    rintro e w3 ⟨rfl, rfl⟩
    rw [← HEQ.out, ← HM1.out]
    obtain ⟨N0, hN0⟩ : ∃ X, X = pass M1 := ⟨_, rfl⟩
    have lN0 : N0.length ≤ s.size := by rw [hN0]; exact Nat.le_trans (pass_len _) lM1
    have HN0 := hid hN0
    clear hN0
    go_wp2_with fail
    refine (pass_any (strOf M1) _ (by rw [size_strOf]; omega)).mono ?_
    rintro e w4 ⟨rfl, hb4⟩
    rw [show pass (strOf M1).data.toList = N0 from HN0.out.symm]
    have HB4 : Hid (Below w.heap.size w w4) := (HB2.out.alloc HB2.out.size _).trans (hb4.mono (by have := HB2.out.size; simp; omega))
    have HR4 : Hid (T4 w4 w.heap.size (.int .i64 0) (.int .i64 0) (.bool false) (.bool false)) := T4.below (w := w3.alloc (.cells #[.int .i64 0, .int .i64 0, .bool false, .bool false] 24)) ((((Below.refl _ _).alloc (Nat.le_refl _) _).block _ HT2.out.lt).trans HT2.out) hb4
    have HG4 : Hid (T4 w4 w3.heap.size (.int .i64 0) (.int .i64 0) (.bool false) (.bool false)) := T4.below (heap_alloc_new w3 _) hb4
    have HGB : Hid (w.heap.size < w3.heap.size) := HT2.out.lt
    clear hb4 HB2 HT2
    obtain ⟨F, hF⟩ : ∃ X, X = (num 0 N0).1 := ⟨_, rfl⟩
    obtain ⟨hf, hhf⟩ : ∃ X, X = hasNum N0 := ⟨_, rfl⟩
    obtain ⟨P0, hP0⟩ : ∃ X, X = (num 0 N0).2 := ⟨_, rfl⟩
    have lP0 : P0.length ≤ s.size := by rw [hP0]; exact Nat.le_trans (num_len _ _) lN0
    have HF := hid hF
    have HHF := hid hhf
    have HP0 := hid hP0
    clear hF hhf hP0
    go_wp2_with fail
    refine (number_any (strOf N0) _ (by rw [size_strOf]; omega)).mono ?_
    rintro e w5 ⟨rfl, hb5⟩
    rw [show (strOf N0).data.toList = N0 from rfl, ← HF.out, ← HHF.out, ← HP0.out]
    have HB5 : Hid (Below w.heap.size w w5) := bel HB4.out hb5
    have HR5 : Hid (T4 w5 w.heap.size (.int .i64 0) (.int .i64 0) (.bool false) (.bool false)) := HR4.out.below hb5
    have hG5 := HG4.out.below hb5
    have HG5 := hid hG5
    obtain ⟨⟨c0, c1, c2, c3⟩, f0, f1, f2, f3⟩ := hG5.facts
    clear hb5 HB4 HR4 HG4 hG5
    obtain ⟨P1, hP1⟩ : ∃ X, X = pass P0 := ⟨_, rfl⟩
    have lP1 : P1.length ≤ s.size := by rw [hP1]; exact Nat.le_trans (pass_len _) lP0
    have HP1 := hid hP1
    clear hP1
    go_wp2_with fail
    refine (pass_any (strOf P0) _ (by rw [size_strOf]; omega)).mono ?_
    rintro e w6 ⟨rfl, hb6⟩
    rw [show pass (strOf P0).data.toList = P1 from HP1.out.symm]
    have HB6 : Hid (Below w.heap.size w w6) := bel ((HB5.out.setCell (by show w.heap.size ≤ w3.heap.size; have := HGB.out; omega) _).setCell (by show w.heap.size ≤ w3.heap.size; have := HGB.out; omega) _) hb6
    have HR6 : Hid (T4 w6 w.heap.size (.int .i64 0) (.int .i64 0) (.bool false) (.bool false)) := T4.below (HR5.out.other (by have := HGB.out; omega) 0 2 _ _) hb6
    have HG6 : Hid (T4 w6 w3.heap.size (.int .i64 F) (.int .i64 0) (.bool hf) (.bool false)) := T4.below (HG5.out.set02 _ _) hb6
    clear hb6 HB5 HR5 HG5 c0 c1 c2 c3 f0 f1 f2 f3
    obtain ⟨daB, hda⟩ : ∃ X, X = is 45 P1 := ⟨_, rfl⟩
    obtain ⟨P2, hP2⟩ : ∃ X, X = cut 45 P1 := ⟨_, rfl⟩
    have lP2 : P2.length ≤ s.size := by rw [hP2]; exact Nat.le_trans (cut_len _ _) lP1
    have HDA := hid hda
    have HP2 := hid hP2
    clear hda hP2
    go_wp2_with fail
    refine (cutp_any P1 45 _).mono ?_
    rintro e w7 ⟨rfl, rfl⟩
    rw [← HDA.out, ← HP2.out]
    obtain ⟨Q0, hQ0⟩ : ∃ X, X = pass P2 := ⟨_, rfl⟩
    have lQ0 : Q0.length ≤ s.size := by rw [hQ0]; exact Nat.le_trans (pass_len _) lP2
    have HQ0 := hid hQ0
    clear hQ0
    go_wp2_with fail
    refine (pass_any (strOf P2) _ (by rw [size_strOf]; omega)).mono ?_
    rintro e w8 ⟨rfl, hb8⟩
    rw [show pass (strOf P2).data.toList = Q0 from HQ0.out.symm]
    have HB8 : Hid (Below w.heap.size w w8) := bel HB6.out hb8
    have HR8 : Hid (T4 w8 w.heap.size (.int .i64 0) (.int .i64 0) (.bool false) (.bool false)) := HR6.out.below hb8
    have HG8 : Hid (T4 w8 w3.heap.size (.int .i64 F) (.int .i64 0) (.bool hf) (.bool false)) := HG6.out.below hb8
    clear hb8 HB6 HR6 HG6
    obtain ⟨T, hT⟩ : ∃ X, X = (num 0 Q0).1 := ⟨_, rfl⟩
    obtain ⟨ht, hht⟩ : ∃ X, X = hasNum Q0 := ⟨_, rfl⟩
    obtain ⟨Z, hZ⟩ : ∃ X, X = (num 0 Q0).2 := ⟨_, rfl⟩
    have HT := hid hT
    have HHT := hid hht
    have HZ := hid hZ
    clear hT hht hZ
    go_wp2_with fail
    refine (number_any (strOf Q0) _ (by rw [size_strOf]; omega)).mono ?_
    rintro e w9 ⟨rfl, hb9⟩
    rw [show (strOf Q0).data.toList = Q0 from rfl, ← HT.out, ← HHT.out, ← HZ.out]
    have HB9 : Hid (Below w.heap.size w w9) := bel HB8.out hb9
    have HR9 : Hid (T4 w9 w.heap.size (.int .i64 0) (.int .i64 0) (.bool false) (.bool false)) := HR8.out.below hb9
    have hG9 := HG8.out.below hb9
    have HG9 := hid hG9
    obtain ⟨⟨c0, c1, c2, c3⟩, f0, f1, f2, f3⟩ := hG9.facts
    obtain ⟨⟨g0, g1, g2, g3⟩, k0, k1, k2, k3⟩ := HR9.out.facts
    clear hb9 HB8 HR8 HG8 hG9
    have HSAY : Hid (okB s.data.toList = (eqB && daB && Z.isEmpty && (hf || ht) && !(hf && ht && decide (T < F)))) := by
      show _ = _
      have e1 : pass (s.data.toList.drop 5) = M0 := by rw [HM0.out, HR5x.out]
      have e2 : from_ s.data.toList = N0 := by unfold from_; rw [e1, ← HM1.out, ← HN0.out]
      have e3 : to_ s.data.toList = Q0 := by unfold to_; rw [e2, ← HP0.out, ← HP1.out, ← HP2.out, ← HQ0.out]
      unfold okB
      rw [e1, e2, e3, ← HP0.out, ← HP1.out, ← HEQ.out, ← HDA.out, ← HZ.out, ← HHF.out, ← HHT.out, ← HF.out, ← HT.out, ← HL5.out, ← HW5.out, HB.out, dlen, show decide (5 ≤ s.size) = true by simp; omega]
      simp
    have HVAL : Hid (okB s.data.toList = true → says s.data.toList = (F, T, hf, ht, true)) := by
      intro hok
      have e1 : pass (s.data.toList.drop 5) = M0 := by rw [HM0.out, HR5x.out]
      have e2 : from_ s.data.toList = N0 := by unfold from_; rw [e1, ← HM1.out, ← HN0.out]
      have e3 : to_ s.data.toList = Q0 := by unfold to_; rw [e2, ← HP0.out, ← HP1.out, ← HP2.out, ← HQ0.out]
      unfold says
      rw [if_pos hok, e2, e3, ← HF.out, ← HT.out, ← HHF.out, ← HHT.out]
    have HGN : Hid (T4 ((w9.setCell ⟨w3.heap.size, 1, none⟩ (.int .i64 T)).setCell ⟨w3.heap.size, 3, none⟩ (.bool ht)) w3.heap.size (.int .i64 F) (.int .i64 T) (.bool hf) (.bool ht)) := HG9.out.set13 _ _
    have HRN : Hid (T4 ((w9.setCell ⟨w3.heap.size, 1, none⟩ (.int .i64 T)).setCell ⟨w3.heap.size, 3, none⟩ (.bool ht)) w.heap.size (.int .i64 0) (.int .i64 0) (.bool false) (.bool false)) := HR9.out.other (by have := HGB.out; omega) 1 3 _ _
    have HBN : Hid (Below w.heap.size w ((w9.setCell ⟨w3.heap.size, 1, none⟩ (.int .i64 T)).setCell ⟨w3.heap.size, 3, none⟩ (.bool ht))) := (HB9.out.setCell (by show w.heap.size ≤ w3.heap.size; have := HGB.out; omega) _).setCell (by show w.heap.size ≤ w3.heap.size; have := HGB.out; omega) _
    have hne : w3.heap.size ≠ w.heap.size := by have := HGB.out; omega
    have hne' : w.heap.size ≠ w3.heap.size := by have := HGB.out; omega
    have hcase : (eqB = false ∨ eqB = true ∧ daB = false ∨ eqB = true ∧ daB = true ∧ Z ≠ [] ∨ eqB = true ∧ daB = true ∧ Z = [] ∧ hf = false ∧ ht = false ∨ eqB = true ∧ daB = true ∧ Z = [] ∧ hf = true ∧ ht = true ∧ T < F) ∨
        (eqB = true ∧ daB = true ∧ Z = [] ∧ (hf = true ∧ ht = false ∨ hf = false ∧ ht = true ∨ hf = true ∧ ht = true ∧ ¬ T < F)) := by
      cases eqB <;> cases daB <;> cases hf <;> cases ht <;> by_cases h : Z = [] <;> by_cases h' : T < F <;> simp [h, h']
    rcases hcase with hbad | hgood
    · have HV : Hid (says s.data.toList = (0, 0, false, false, false)) := by
        refine says_no _ ?_
        rw [HSAY.out]
        rcases hbad with h | ⟨h1, h⟩ | ⟨h1, h2, h⟩ | ⟨h1, h2, h3, h4, h5⟩ | ⟨h1, h2, h3, h4, h5, h6⟩
        · simp [h]
        · simp [h]
        · have : Z.isEmpty = false := by cases Z; exact absurd rfl h; rfl
          simp [this]
        · simp [h4, h5]
        · simp [h4, h5, h6]
      rcases hbad with h | ⟨h1, h⟩ | ⟨h1, h2, h⟩ | ⟨h1, h2, h3, h4, h5⟩ | ⟨h1, h2, h3, h4, h5, h6⟩
      · subst h
        go_wp2_with fail
        rw [HV.out]
        exact bodyPost_ret (w := put4 _ w.heap.size (.int .i64 0) (.int .i64 0) (.bool false) (.bool false)) (res_end (HRN.out.put _ _ _ _) false _ rfl rfl) rfl ⟨rfl, below_put HBN.out (Nat.le_refl _) _ _ _ _⟩
      · subst h1 h
        go_wp2_with fail
        rw [HV.out]
        exact bodyPost_ret (w := put4 _ w.heap.size (.int .i64 0) (.int .i64 0) (.bool false) (.bool false)) (res_end (HRN.out.put _ _ _ _) false _ rfl rfl) rfl ⟨rfl, below_put HBN.out (Nat.le_refl _) _ _ _ _⟩
      · subst h1 h2
        have z1 : (strOf Z).toList.isEmpty = false := by rw [strOf, ByteArray.toList_mk]; cases Z; exact absurd rfl h; rfl
        have z2 : ((strOf Z).toList == []) = false := by rw [strOf, ByteArray.toList_mk]; cases Z; exact absurd rfl h; rfl
        clear h
        go_wp2_with fail
        rw [HV.out]
        exact bodyPost_ret (w := put4 _ w.heap.size (.int .i64 0) (.int .i64 0) (.bool false) (.bool false)) (res_end (HRN.out.put _ _ _ _) false _ rfl rfl) rfl ⟨rfl, below_put HBN.out (Nat.le_refl _) _ _ _ _⟩
      · subst h1 h2 h3 h4 h5
        have z1 : (strOf []).toList = [] := by rw [strOf, ByteArray.toList_mk]
        go_wp2_with fail
        rw [HV.out]
        exact bodyPost_ret (w := put4 _ w.heap.size (.int .i64 0) (.int .i64 0) (.bool false) (.bool false)) (res_end (HRN.out.put _ _ _ _) false _ rfl rfl) rfl ⟨rfl, below_put HBN.out (Nat.le_refl _) _ _ _ _⟩
      · subst h1 h2 h3 h4 h5
        have z1 : (strOf []).toList = [] := by rw [strOf, ByteArray.toList_mk]
        go_wp2_with fail
        rw [HV.out]
        exact bodyPost_ret (w := put4 _ w.heap.size (.int .i64 0) (.int .i64 0) (.bool false) (.bool false)) (res_end (HRN.out.put _ _ _ _) false _ rfl rfl) rfl ⟨rfl, below_put HBN.out (Nat.le_refl _) _ _ _ _⟩
    · have HV : Hid (says s.data.toList = (F, T, hf, ht, true)) := by
        refine HVAL.out ?_
        rw [HSAY.out]
        obtain ⟨h1, h2, h3, h4⟩ := hgood
        rcases h4 with ⟨a, b⟩ | ⟨a, b⟩ | ⟨a, b, c⟩
        · simp [h1, h2, h3, a, b]
        · simp [h1, h2, h3, a, b]
        · simp [h1, h2, h3, a, b]; omega
      obtain ⟨h1, h2, h3, h4⟩ := hgood
      subst h1 h2 h3
      have z1 : (strOf []).toList = [] := by rw [strOf, ByteArray.toList_mk]
      rcases h4 with ⟨h4, h5⟩ | ⟨h4, h5⟩ | ⟨h4, h5, h6⟩
      all_goals
        subst h4 h5
        go_wp2_with fail
        rw [HV.out]
        exact bodyPost_ret (w := put4 _ w.heap.size (.int .i64 F) (.int .i64 T) (.bool _) (.bool _)) (res_end (HRN.out.put _ _ _ _) true _ rfl rfl) rfl ⟨rfl, below_put HBN.out (Nat.le_refl _) _ _ _ _⟩
  · have e5 : ((strOf W5).toList == [98, 121, 116, 101, 115]) = false := by
      rw [strOf, ByteArray.toList_mk]
      simpa [bytesL] using hb
    have HV : Hid (says s.data.toList = (0, 0, false, false, false)) := by
      refine says_no _ ?_
      unfold okB
      rw [show decide (UtfL.lower (s.data.toList.take 5) = bytesL) = false by rw [← HL5.out, ← HW5.out]; simpa using hb]
      simp
    clear hb
    go_enter Tryd.func10, Tryd.ntmps10
    go_wp2_with fail
    refine (UtfL.lower_any (strOf L5) _ (by rw [size_strOf]; unfold maxLen; omega)).mono ?_
    rintro e w1 ⟨rfl, hb1⟩
    rw [show UtfL.lower (strOf L5).data.toList = W5 from HW5.out.symm]
    have hT1 : T4 w1 w.heap.size (.int .i64 0) (.int .i64 0) (.bool false) (.bool false) := (hb1.block w.heap.size (by simp)).trans (heap_alloc_new w _)
    obtain ⟨⟨c0, c1, c2, c3⟩, f0, f1, f2, f3⟩ := hT1.facts
    have HT := hid (hT1.put (.int .i64 0) (.int .i64 0) (.bool false) (.bool false))
    clear hT1
    go_wp2_with fail
    rw [HV.out]
    exact bodyPost_ret (w := put4 w1 w.heap.size (.int .i64 0) (.int .i64 0) (.bool false) (.bool false)) (res_end HT.out false _ rfl rfl) rfl ⟨rfl, below_put (((Below.refl _ _).alloc (Nat.le_refl _) _).trans (hb1.mono (by simp))) (Nat.le_refl _) _ _ _ _⟩
end Go.Proofs.YtiencfgmdikepaaDoor.SpnC
