/- Tables of int. -/
import Derived.Test.YtihlojkghemjeaaTbG
import Derived.BigQuiet
import Derived.Deep.QuietTactic
import Derived.Deep.WholeRow
namespace Go.Proofs.Ytihlojkghemjeaa.TbI
open Go.RowKit Go.Proofs.Ytihlojkghemjeaa.Base Go.Proofs.Ytihlojkghemjeaa.Base2 Go.Proofs.Ytihlojkghemjeaa.Base3 Go.Proofs.Ytihlojkghemjeaa.Regs Go.Proofs.Ytihlojkghemjeaa.TbG
set_option linter.unusedSimpArgs false in
theorem info_e3 : (Try.prog.info? 77).map (fun i => (i.zero, i.size, i.bytes)) = some (some (.agg #[.int .i64 0, .int .i64 0]), 2, 16) := by kernel_rfl
set_option linter.unusedSimpArgs false in
theorem info_e : (Try.prog.info? 77).map (fun i => (i.zero, i.size)) = some (some (.agg #[.int .i64 0, .int .i64 0]), 2) := by kernel_rfl
set_option maxRecDepth 100000 in
set_option maxHeartbeats 4000000 in
set_option linter.unusedSimpArgs false in
theorem put_any (B g room last : Nat) (l : List (Nat × Int)) (x : Int) (w : World) (h : IsT 75 77 (Value.int .i64) B g room last l w) (hr : l.length < room) (hm : room ≤ 64) (hlast : last ≤ 100000) :
    Calls Try.prog 11 #[.pointer (some ⟨g, 0, none⟩), .int .i64 x] w fun e w' => e = .returned (.tuple #[.int .i64 ((last : Int) + 1), .int .i64 0]) ∧ IsT 75 77 (Value.int .i64) B g room (last + 1) (l ++ [(last + 1, x)]) w' ∧ Below B w w' ∧ Kp 75 77 w w' := by
  obtain ⟨i0, hi0, hz0, hz1, hz2⟩ := info_parts info_e3
  have hlt := h.lt
  obtain ⟨v, hv, hown, hBg⟩ := h
  obtain ⟨A, c, rfl, hnc, hcm, _⟩ := own_cells hown
  obtain ⟨c0, c1, c2⟩ := cells3 hv
  obtain ⟨f0, f1, f2⟩ := thaw3 hv
  have hroom : ¬ (room : Int) ≤ (l.length : Int) := by omega
  have hll : (l.length : Int) ≤ 64 := by omega
  have hlasti : (last : Int) ≤ 100000 := by omega
  go_enter Try.func11, Try.ntmps11
  go_wp2_with fail
  go_quiet (fail)
  have hv1 : (w.drewN nq).heap[g]? = some (.cells #[.int .i64 (room : Int), .int .i64 (last : Int), .slice A l.length c] 75 (0, 0)) := by rw [World.heap_drewN]; exact hv
  have hb1 : Below w.heap.size w (w.drewN nq) := below_drewN (Below.refl _ _) _
  have hown1 := owns_below hown hb1
  generalize w.drewN nq = w1 at hv1 hown1 hb1 ⊢
  clear c0 c1 c2 f0 f1 f2
  obtain ⟨c0, c1, c2⟩ := cells3 hv1
  obtain ⟨f0, f1, f2⟩ := thaw3 hv1
  go_wp2_with fail
  have hv2 := heap_setCell_same w1 g 1 _ _ (.int .i64 ((last : Int) + 1)) hv1
  have hown2 := own_set (g := g) (i := 1) (x := .int .i64 ((last : Int) + 1)) hown1 (own_ne (by decide) hv1 hown1)
  have HBW : Hid (Below B w (w1.setCell ⟨g, 1, none⟩ (.int .i64 ((last : Int) + 1)))) := (hb1.mono (by omega)).setCell (p := ⟨g, 1, none⟩) hBg _
  have HKW : Hid (Kp 75 77 w (w1.setCell ⟨g, 1, none⟩ (.int .i64 ((last : Int) + 1)))) := (Kp.below hb1).trans (Kp.set hv1 (.inl rfl))
  generalize hw2 : w1.setCell _ _ = w2 at hv2 hown2 HBW HKW ⊢
  clear c0 c1 c2 f0 f1 f2 hw2 hv hown hv1 hown1 hb1
  have HV : Hid (w2.heap[g]? = some (.cells #[.int .i64 (room : Int), .int .i64 ((last : Int) + 1), .slice A l.length c] 75 (0, 0))) := by show _ = _; simpa using hv2
  obtain ⟨c0, c1, c2⟩ := cells3 HV.out
  have HO := hid hown2
  have HLT : Hid (g < w2.heap.size) := (Array.getElem?_eq_some_iff.1 HV.out).1
  have HBL : Hid (B ≤ w.heap.size) := by show _ ≤ _; omega
  clear hv2 hown2
  generalize decide (room ≤ l.length) = dd
  refine wp_region_any (by kernel_rfl) ?_
  change wpAny _ _ _ _ _ _ _ (World.drew _)
  refine wpAny_take (i := 0) (v := (.pointer (some ⟨g, 0, none⟩))) rfl (by kernel_rfl) (by kernel_rfl) (by kernel_rfl) (fun _ _ _ h => h) (Or.inl ⟨by rfl, ?yy0⟩) ?_
  case yy0 => (intro w; go_simp; try with_reducible rfl)
  simp only [List.getElem_toArray, List.getElem_cons_zero, List.getElem_cons_succ, Act.put, List.setIfInBounds_toArray, List.set_cons_zero, List.set_cons_succ]
  refine wpAny_go 12 [is (.pointer (some ⟨g, 0, none⟩)), is (.pointer (some ⟨g, 0, none⟩)), is (.pointer (some ⟨g, 0, none⟩)), is (.pointer (some ⟨g, 2, none⟩)), is (.slice A l.length c), is (.pointer (some ⟨g, 0, none⟩)), is (.pointer (some ⟨g, 0, none⟩)), is (.pointer (some ⟨g, 1, none⟩)), is (.int .i64 ((last : Int) + 1)), is (.int .i64 x), is (.agg #[.int .i64 ((last : Int) + 1), .int .i64 x]), one2 (.int .i64 ((last : Int) + 1)) (.int .i64 x)] [[], [], [1], [1, 2], [1, 2, 3], [], [5], [5, 6], [5, 6, 7], [], [5, 6, 7, 8, 9], [5, 6, 7, 8, 9, 10], [1, 2, 3, 4, 5, 6, 7, 8, 9, 10, 11]] [0] (by kernel_rfl) (by kernel_rfl) (by kernel_rfl) ?_ ?_ ?_
  · intro k hk; simp only [List.mem_cons, List.not_mem_nil, or_false] at hk; subst hk; rfl
  · refine ⟨?_, ?_, ?_, ?_, ?_, ?_, ?_, ?_, ?_, ?_, ?_, ?_, trivial⟩
    · intro t wq hbq hh K hK
      clear hh
      simp only [filled, filledN, upd, Have, is, any, row, pick, Act.put, List.setIfInBounds_toArray, List.set_cons_zero, List.set_cons_succ, Nat.reduceAdd, Nat.reduceEqDiff, reduceIte] at hK ⊢
      go_simp
      exact hK _ _ (Below.refl _ _) rfl
    · intro t wq hbq hh K hK
      clear hh
      simp only [filled, filledN, upd, Have, is, any, row, pick, Act.put, List.setIfInBounds_toArray, List.set_cons_zero, List.set_cons_succ, Nat.reduceAdd, Nat.reduceEqDiff, reduceIte] at hK ⊢
      go_simp
      exact hK _ _ (Below.refl _ _) rfl
    · intro t wq hbq hh K hK
      have e1 := hh.1
      simp only [pick] at e1
      replace e1 : t 1 = (.pointer (some ⟨g, 0, none⟩)) := e1
      clear hh
      simp only [filled, filledN, upd, Have, is, any, row, pick, Act.put, List.setIfInBounds_toArray, List.set_cons_zero, List.set_cons_succ, Nat.reduceAdd, Nat.reduceEqDiff, reduceIte] at hK ⊢
      simp only [e1] at hK ⊢
      go_simp
      exact hK _ _ (Below.refl _ _) rfl
    · intro t wq hbq hh K hK
      have e2 := hh.2.1
      simp only [pick] at e2
      replace e2 : t 2 = (.pointer (some ⟨g, 0, none⟩)) := e2
      clear hh
      simp only [filled, filledN, upd, Have, is, any, row, pick, Act.put, List.setIfInBounds_toArray, List.set_cons_zero, List.set_cons_succ, Nat.reduceAdd, Nat.reduceEqDiff, reduceIte] at hK ⊢
      simp only [e2] at hK ⊢
      go_simp
      exact hK _ _ (Below.refl _ _) rfl
    · intro t wq hbq hh K hK
      have e3 := hh.2.2.1
      simp only [pick] at e3
      replace e3 : t 3 = (.pointer (some ⟨g, 2, none⟩)) := e3
      clear hh
      simp only [filled, filledN, upd, Have, is, any, row, pick, Act.put, List.setIfInBounds_toArray, List.set_cons_zero, List.set_cons_succ, Nat.reduceAdd, Nat.reduceEqDiff, reduceIte] at hK ⊢
      simp only [e3] at hK ⊢
      have hq := (hbq.cell (p := ⟨g, 2, none⟩) HLT.out).trans c2
      go_simp
      exact hK _ _ (Below.refl _ _) rfl
    · intro t wq hbq hh K hK
      clear hh
      simp only [filled, filledN, upd, Have, is, any, row, pick, Act.put, List.setIfInBounds_toArray, List.set_cons_zero, List.set_cons_succ, Nat.reduceAdd, Nat.reduceEqDiff, reduceIte] at hK ⊢
      go_simp
      exact hK _ _ (Below.refl _ _) rfl
    · intro t wq hbq hh K hK
      have e5 := hh.1
      simp only [pick] at e5
      replace e5 : t 5 = (.pointer (some ⟨g, 0, none⟩)) := e5
      clear hh
      simp only [filled, filledN, upd, Have, is, any, row, pick, Act.put, List.setIfInBounds_toArray, List.set_cons_zero, List.set_cons_succ, Nat.reduceAdd, Nat.reduceEqDiff, reduceIte] at hK ⊢
      simp only [e5] at hK ⊢
      go_simp
      exact hK _ _ (Below.refl _ _) rfl
    · intro t wq hbq hh K hK
      have e6 := hh.2.1
      simp only [pick] at e6
      replace e6 : t 6 = (.pointer (some ⟨g, 0, none⟩)) := e6
      clear hh
      simp only [filled, filledN, upd, Have, is, any, row, pick, Act.put, List.setIfInBounds_toArray, List.set_cons_zero, List.set_cons_succ, Nat.reduceAdd, Nat.reduceEqDiff, reduceIte] at hK ⊢
      simp only [e6] at hK ⊢
      go_simp
      exact hK _ _ (Below.refl _ _) rfl
    · intro t wq hbq hh K hK
      have e7 := hh.2.2.1
      simp only [pick] at e7
      replace e7 : t 7 = (.pointer (some ⟨g, 1, none⟩)) := e7
      clear hh
      simp only [filled, filledN, upd, Have, is, any, row, pick, Act.put, List.setIfInBounds_toArray, List.set_cons_zero, List.set_cons_succ, Nat.reduceAdd, Nat.reduceEqDiff, reduceIte] at hK ⊢
      simp only [e7] at hK ⊢
      have hq := (hbq.cell (p := ⟨g, 1, none⟩) HLT.out).trans c1
      go_simp
      exact hK _ _ (Below.refl _ _) rfl
    · intro t wq hbq hh K hK
      clear hh
      simp only [filled, filledN, upd, Have, is, any, row, pick, Act.put, List.setIfInBounds_toArray, List.set_cons_zero, List.set_cons_succ, Nat.reduceAdd, Nat.reduceEqDiff, reduceIte] at hK ⊢
      go_simp
      exact hK _ _ (Below.refl _ _) rfl
    · intro t wq hbq hh K hK
      have e8 := hh.2.2.2.1
      simp only [pick] at e8
      replace e8 : t 8 = (.int .i64 ((last : Int) + 1)) := e8
      have e9 := hh.2.2.2.2.1
      simp only [pick] at e9
      replace e9 : t 9 = (.int .i64 x) := e9
      clear hh
      simp only [filled, filledN, upd, Have, is, any, row, pick, Act.put, List.setIfInBounds_toArray, List.set_cons_zero, List.set_cons_succ, Nat.reduceAdd, Nat.reduceEqDiff, reduceIte] at hK ⊢
      simp only [e8, e9] at hK ⊢
      go_simp
      exact hK _ _ (Below.refl _ _) rfl
    · intro t wq hbq hh K hK
      have e10 := hh.2.2.2.2.2.1
      simp only [pick] at e10
      replace e10 : t 10 = (.agg #[.int .i64 ((last : Int) + 1), .int .i64 x]) := e10
      clear hh
      simp only [filled, filledN, upd, Have, is, any, row, pick, Act.put, List.setIfInBounds_toArray, List.set_cons_zero, List.set_cons_succ, Nat.reduceAdd, Nat.reduceEqDiff, reduceIte] at hK ⊢
      simp only [e10] at hK ⊢
      go_simp
      go_simp
      exact hK _ _ ((Below.refl _ _).alloc (Nat.le_refl _) _) ⟨wq.heap.size, rfl, by simp, (cell_of_row _ wq.heap.size 0 _ _ _ (heap_alloc_new wq _)).trans rfl, (cell_of_row _ wq.heap.size 1 _ _ _ (heap_alloc_new wq _)).trans rfl⟩
  · intro t wq hbq hh
    have f0 := have_get hh 0 (by decide)
    simp only [pick] at f0
    replace f0 : t 0 = (.pointer (some ⟨g, 0, none⟩)) := f0
    have f4 := have_get hh 4 (by decide)
    simp only [pick] at f4
    replace f4 : t 4 = (.slice A l.length c) := f4
    have f11 := have_get hh 11 (by decide)
    simp only [pick] at f11
    clear hh
    simp only [filled, filledN, upd, Have, is, any, row, pick, Act.put, List.setIfInBounds_toArray, List.set_cons_zero, List.set_cons_succ, Nat.reduceAdd, Nat.reduceEqDiff, reduceIte]
    simp only [f0, f4]
    obtain ⟨b, f11, hbl, q0, q1⟩ := f11
    simp only [f11]
    have hvq : wq.heap[g]? = some (.cells #[.int .i64 (room : Int), .int .i64 ((last : Int) + 1), .slice A l.length c] 75 (0, 0)) := (hbq.block g HLT.out).trans HV.out
    have hoq : wq.ownsRow B 77 2 (.slice A l.length c) l.length (flat (Value.int .i64) l) := owns_below (w := w2.drew) HO.out hbq
    have hlq : g < wq.heap.size := Nat.lt_of_lt_of_le HLT.out hbq.size
    have HVQ := hid hvq
    have HLQ := hid hlq
    have Q0 := hid q0
    have Q1 := hid q1
    clear hvq hlq q0 q1
    show wpList _ _ _ [_, _, _, _] _ _
    refine wpList_append_own _ rfl _ _ 73 rfl B 77 i0 _ 2 16 Try.underlying73 hi0 hz0 hz1 hz2 rfl (by decide) (.slice A l.length c) l.length (flat (Value.int .i64) l) rfl hoq ⟨b, 0, none⟩ 1 1 [.int .i64 ((last : Int) + 1), .int .i64 x] rfl rfl ?d1 (by intro u hu; simp at hu; rcases hu with rfl | rfl <;> rfl) ?d2 ?d3 ?d4 ?_
    case d1 => intro j u hj; match j, hj with | 0, hj => (simp at hj; subst hj; simpa [Addr.add] using Q0.out) | 1, hj => (simp at hj; subst hj; simpa [Addr.add] using Q1.out)
    case d2 => unfold maxLen; omega
    case d3 => omega
    case d4 => have := HLQ.out; omega
    intro v' w4 hown' hgrow _
    have hv4 : w4.heap[g]? = some (.cells #[.int .i64 (room : Int), .int .i64 ((last : Int) + 1), .slice A l.length c] 75 (0, 0)) := (hgrow.block g HLQ.out (fun e => own_ne (by decide) HVQ.out hoq e.symm)).trans HVQ.out
    have hbw4 : Below B w w4 := (HBW.out.drew.trans (hbq.mono (Nat.le_trans HBL.out HBW.out.size))).grown hgrow (by have := HLQ.out; omega) (fun k hk => (hoq.lt k hk).1)
    have hkp4 : Kp 75 77 w w4 := ((show Kp 75 77 w w2.drew from HKW.out).trans (Kp.below hbq)).trans (Kp.grown hoq hgrow)
    have hT5 := heap_setCell_same w4 g 2 _ _ v' hv4
    have hown5 : (w4.setCell ⟨g, 2, none⟩ v').ownsRow B 77 2 v' (l.length + 1) (flat (Value.int .i64) l ++ [.int .i64 ((last : Int) + 1), .int .i64 x]) := own_set hown' (own_ne (by decide) hv4 hown')
    have H5 : Hid (IsT 75 77 (Value.int .i64) B g room (last + 1) (l ++ [(last + 1, x)]) (w4.setCell ⟨g, 2, none⟩ v')) := by
      refine ⟨v', by simpa using hT5, ?_, hBg⟩
      rw [List.length_append, flat_append]
      exact hown5
    have HB5 : Hid (Below B w (w4.setCell ⟨g, 2, none⟩ v')) := hbw4.setCell (p := ⟨g, 2, none⟩) hBg _
    have HK5 : Hid (Kp 75 77 w (w4.setCell ⟨g, 2, none⟩ v')) := hkp4.trans (Kp.set hv4 (.inl rfl))
    obtain ⟨k0, k1, k2⟩ := cells3 hv4
    obtain ⟨m0, m1, m2⟩ := thaw3 hv4
    obtain ⟨n0, n1, n2⟩ := cells3 hT5
    obtain ⟨vA, vc, hvf, _⟩ := own_form hown'
    subst hvf
    clear hoq hown' hgrow hv4 hbw4 hkp4 hT5 hown5
    go_wp2
    go_ret2
    exact ⟨rfl, H5.out, HB5.out, HK5.out⟩
set_option linter.unusedSimpArgs false in
theorem put_full (B g room last : Nat) (l : List (Nat × Int)) (x : Int) (w : World) (h : IsT 75 77 (Value.int .i64) B g room last l w) (hr : room ≤ l.length) (hm : l.length ≤ 64) :
    Calls Try.prog 11 #[.pointer (some ⟨g, 0, none⟩), .int .i64 x] w fun e w' => e = .returned (.tuple #[.int .i64 0, .int .i64 4]) ∧ Below w.heap.size w w' := by
  obtain ⟨v, hv, hown, hBg⟩ := h
  obtain ⟨A, c, rfl, hnc, hcm, _⟩ := own_cells hown
  obtain ⟨c0, c1, c2⟩ := cells3 hv
  have hroom : (room : Int) ≤ (l.length : Int) := by omega
  have hll : (l.length : Int) ≤ 64 := by omega
  go_enter Try.func11, Try.ntmps11
  go_wp2_with fail
  go_quiet (fail)
  go_wp2
  go_ret2
  exact ⟨rfl, below_drewN (Below.refl _ _) _⟩
set_option linter.unusedSimpArgs false in
theorem find1_any (hb k : Nat) (x : Int) (h : Int) (w : World) (hc : w.cell? ⟨hb, 0, none⟩ = some (.int .i64 h)) : Calls Try.prog 42 #[.agg #[.int .i64 (k : Int), .int .i64 x], .pointer (some ⟨hb, 0, none⟩)] w fun e w' => e = .returned (.bool (decide ((k : Int) = h))) ∧ Below w.heap.size w w' := by
  have hlt := World.block_lt_of_cell? w _ hc
  go_enter Try.func42, Try.ntmps42
  go_wp2
  go_ret
  exact ⟨ret_bool (by rw [Bool.eq_iff_iff]; simp), (Below.refl _ _).alloc (Nat.le_refl _) _⟩
/-- A place as a number. -/
def plc : Option Nat → Int
  | none => -1
  | some k => k
set_option maxHeartbeats 1000000 in
set_option linter.unusedSimpArgs false in
theorem index_any (A : Option Addr) (c hb : Nat) (l : List (Nat × Int)) (h : Int) (w : World) (hl : l.length ≤ 64)
    (hcell : ∀ k (hk : k < l.length), ∃ b, A = some ⟨b, 0, none⟩ ∧ b < w.heap.size ∧ w.cell? ⟨b, k * 2, none⟩ = some (.int .i64 (l[k].1 : Int)) ∧ w.cell? ⟨b, k * 2 + 1, none⟩ = some ((Value.int .i64) l[k].2)) (hc : w.cell? ⟨hb, 0, none⟩ = some (.int .i64 h)) :
    Calls Try.prog 41 #[.slice A l.length c, .func (.func 42) #[] #[.pointer (some ⟨hb, 0, none⟩)]] w fun e w' => e = .returned (.int .i64 (plc (idx l h))) ∧ Below w.heap.size w w' := by
  have hhb := World.block_lt_of_cell? w _ hc
  have HC := hid hcell
  have HH := hid hc
  have hlli : (l.length : Int) ≤ 64 := by omega
  clear hcell hc
  rcases Nat.eq_zero_or_pos l.length with h0 | h0
  · have hi : idx l h = none := by
      have : l = [] := List.eq_nil_of_length_eq_zero h0
      subst this
      rfl
    rw [hi]
    go_enter Try.func41, Try.ntmps41
    go_wp2
    go_loopw [5, 8] (fun _ vk wr => vk = .int .i64 0 ∧ wr = w) (fun _ _ _ => 0)
    case atStart => exact ⟨rfl, rfl⟩
    case round =>
      obtain ⟨rfl, rfl⟩ := hrel
      go_wp2
      go_ret
      exact ⟨rfl, Below.refl _ _⟩
  · obtain ⟨b, rfl, hbl, _⟩ := HC.out 0 h0
    go_enter Try.func41, Try.ntmps41
    go_wp2
    go_loopw [5, 8] (fun _ vk wr => ∃ j : Nat, j ≤ l.length ∧ vk = .int .i64 (j : Int) ∧ Hid (Below w.heap.size w wr) ∧ Hid (∀ k (hk : k < l.length), k < j → ¬ (l[k].1 : Int) = h)) (fun _ vk _ => l.length - (intOf vk).toNat)
    case atStart => exact ⟨0, Nat.zero_le _, rfl, Below.refl _ _, fun k _ hk => absurd hk (by omega)⟩
    case round =>
      obtain ⟨j, hj, rfl, HB, HN⟩ := hrel
      by_cases hlt : j < l.length
      · obtain ⟨b', e, _, hc0, hc1⟩ := HC.out j hlt
        injection e with e
        injection e with e
        subst e
        obtain ⟨⟨hd, x⟩, hp⟩ : ∃ p, p = l[j] := ⟨_, rfl⟩
        rw [← hp] at hc0 hc1
        have k0 := (HB.out.cell (p := ⟨b, j * 2, none⟩) hbl).trans hc0
        have k1 := (HB.out.cell (p := ⟨b, j * 2 + 1, none⟩) hbl).trans hc1
        have HHC := hid ((HB.out.cell (p := ⟨hb, 0, none⟩) hhb).trans HH.out)
        have HP := hid hp
        clear hc0 hc1 hp
        go_wp2_with fail
        refine (find1_any hb hd x h _ HHC.out).mono ?_
        rintro e w1 ⟨rfl, hb1⟩
        have HB1 := hid (HB.out.trans (hb1.mono HB.out.size))
        clear hb1
        by_cases hq : (hd : Int) = h
        · have HI : Hid (plc (idx l h) = (j : Int)) := by
            show _ = _
            cases hx : idx l h with
            | none => exact absurd (by rw [← HP.out]; exact hq) (idx_none hx j hlt)
            | some k =>
              obtain ⟨hk, e1, e2⟩ := idx_some hx
              show (k : Int) = j
              rcases Nat.lt_trichotomy k j with h1 | h1 | h1
              · exact absurd e1 (HN.out k hk h1)
              · rw [h1]
              · exact absurd (by rw [← HP.out]; exact hq) (e2 j h1)
          rw [decide_eq_true hq]
          clear hq
          go_wp2
          go_ret
          exact ⟨ret_int HI.out.symm, HB1.out⟩
        · rw [decide_eq_false hq]
          have HN2 : Hid (∀ k (hk : k < l.length), k < j + 1 → ¬ (l[k].1 : Int) = h) := fun k hk hkj => by
            by_cases e : k = j
            · subst e; rw [← HP.out]; exact hq
            · exact HN.out k hk (by omega)
          clear hq
          go_wp2
          go_roundw
          case rel => exact ⟨j + 1, by omega, by go_num, HB1.out, HN2.out⟩
          case measure => simp [intOf]; omega
      · obtain rfl : j = l.length := by omega
        have HI : Hid (idx l h = none) := by
          show _ = _
          cases hx : idx l h with
          | none => rfl
          | some k => obtain ⟨hk, e1, _⟩ := idx_some hx; exact absurd e1 (HN.out k hk hk)
        go_wp2
        go_ret
        exact ⟨ret_int (by rw [HI.out]; rfl), HB.out⟩
set_option linter.unusedSimpArgs false in
theorem find_any (B g room last : Nat) (l : List (Nat × Int)) (h : Int) (w : World) (hT : IsT 75 77 (Value.int .i64) B g room last l w) (hl : l.length ≤ 64) :
    Calls Try.prog 35 #[.pointer (some ⟨g, 0, none⟩), .int .i64 h] w fun e w' => e = .returned (.tuple #[.int .i64 (plc (idx l h)), .bool (idx l h).isSome]) ∧ Below w.heap.size w w' := by
  have hlt := hT.lt
  obtain ⟨v, hv, hown, hBg⟩ := hT
  obtain ⟨A, c, rfl, hnc, hcm, hcell⟩ := own_cells hown
  obtain ⟨c0, c1, c2⟩ := cells3 hv
  have HC := hid hcell
  have hb0 : Below w.heap.size w (w.alloc (.cells #[.int .i64 h] 2)) := (Below.refl _ _).alloc (Nat.le_refl _) _
  clear hcell hv hown
  go_enter Try.func35, Try.ntmps35
  go_wp2_with fail
  refine (index_any A c w.heap.size l h _ hl (fun k hk => ?_) (by rw [World.cell?_alloc_mark]; rfl)).mono ?_
  · obtain ⟨b, e, h1, h2, h3⟩ := HC.out k hk
    exact ⟨b, e, Nat.lt_of_lt_of_le h1 hb0.size, (hb0.cell (p := ⟨b, k * 2, none⟩) h1).trans h2, (hb0.cell (p := ⟨b, k * 2 + 1, none⟩) h1).trans h3⟩
  rintro e w1 ⟨rfl, hb1⟩
  have HB := hid (bel hb0 hb1)
  clear hb0 hb1
  cases hi : idx l h with
  | none =>
    have HI := hid hi
    clear hi
    rw [show plc none = -1 from rfl]
    go_wp2
    go_ret2
    exact ⟨by rw [HI.out]; rfl, HB.out⟩
  | some k =>
    rw [show plc (some k) = (k : Int) from rfl]
    have HI := hid hi
    clear hi
    go_wp2
    go_ret2
    exact ⟨by rw [HI.out]; rfl, HB.out⟩
/-- What Get and Del answer. -/
def got (l : List (Nat × Int)) (h : Int) : Value := match idx l h with
  | none => .tuple #[.int .i64 0, .bool false]
  | some k => match l[k]? with
    | none => undef
    | some p => .tuple #[(Value.int .i64) p.2, .bool true]
set_option linter.unusedSimpArgs false in
theorem get_any (B g room last : Nat) (l : List (Nat × Int)) (h : Int) (w : World) (hT : IsT 75 77 (Value.int .i64) B g room last l w) (hl : l.length ≤ 64) :
    Calls Try.prog 15 #[.pointer (some ⟨g, 0, none⟩), .int .i64 h] w fun e w' => e = .returned (got l h) ∧ Below w.heap.size w w' := by
  have HT := hid hT
  have hlli : (l.length : Int) ≤ 64 := by omega
  clear hT
  cases hi : idx l h with
  | none =>
    have HG : Hid (got l h = .tuple #[.int .i64 0, .bool false]) := by show _ = _; unfold got; rw [hi]
    rw [HG.out]
    have HI := hid hi
    clear hi
    go_enter Try.func15, Try.ntmps15
    go_wp2_with fail
    refine (find_any B g room last l h _ HT.out hl).mono ?_
    rw [HI.out]
    rintro e w1 ⟨rfl, hb1⟩
    rw [show plc none = -1 from rfl]
    have HB := hid hb1
    clear hb1
    go_wp2
    go_ret2
    exact ⟨rfl, HB.out⟩
  | some k =>
    obtain ⟨hk, e1, _⟩ := idx_some hi
    obtain ⟨⟨hd, x⟩, hp⟩ : ∃ p, p = l[k] := ⟨_, rfl⟩
    have HG : Hid (got l h = .tuple #[.int .i64 x, .bool true]) := by show _ = _; unfold got; rw [hi]; simp only; rw [List.getElem?_eq_getElem hk, ← hp]; try rfl
    rw [HG.out]
    have HI := hid hi
    have HP := hid hp
    clear hi e1 hp
    go_enter Try.func15, Try.ntmps15
    go_wp2_with fail
    refine (find_any B g room last l h _ HT.out hl).mono ?_
    rw [HI.out]
    rintro e w1 ⟨rfl, hb1⟩
    rw [show plc (some k) = (k : Int) from rfl]
    have HB := hid hb1
    obtain ⟨v, hv, hown, hBg⟩ := HT.out.below hb1
    obtain ⟨A, c, rfl, hnc, hcm, hcell⟩ := own_cells hown
    obtain ⟨c0, c1, c2⟩ := cells3 hv
    obtain ⟨b, rfl, hbl, k0, k1⟩ := hcell k hk
    rw [← HP.out] at k0 k1
    have k1' : w1.cell? ⟨b, k * 2 + 1, none⟩ = some (.int .i64 x) := k1
    clear hb1 hv hown hcell k1
    go_wp2
    go_ret2
    exact ⟨rfl, HB.out⟩
set_option maxRecDepth 100000 in
set_option maxHeartbeats 4000000 in
set_option linter.unusedSimpArgs false in
theorem delete_any (B b c k n1 : Nat) (l : List (Nat × Int)) (w : World) (hown : w.ownsRow B 77 2 (.slice (some ⟨b, 0, none⟩) (n1 + 1) c) (n1 + 1) (flat (Value.int .i64) l)) (hk : k ≤ n1) (hl : n1 ≤ 64) :
    Calls Try.prog 36 #[.slice (some ⟨b, 0, none⟩) (n1 + 1) c, .int .i64 (k : Int), .int .i64 ((k : Int) + 1)] w fun e w' => e = .returned (.slice (some ⟨b, 0, none⟩) n1 c) ∧ w'.ownsRow B 77 2 (.slice (some ⟨b, 0, none⟩) n1 c) n1 (flat (Value.int .i64) (l.eraseIdx k)) ∧ w.grownBy w' (some b) := by
  obtain ⟨i0, hi0, hz0, hz1, hz2⟩ := info_parts info_e3
  have hln : l.length = n1 + 1 := by have := hown.1; rw [flat_length] at this; omega
  have HN := hid hln
  have HBB : Hid (B ≤ b) := (hown.lt b rfl).1
  have HBLT : Hid (b < w.heap.size) := (hown.lt b rfl).2
  have hnc : n1 + 1 ≤ c ∧ c ≤ maxLen := by
    rcases hown.2 with ⟨h, _⟩ | ⟨b', cap, cur, e, _, _, h1, h2, _⟩
    · cases h
    · injection e with _ _ e3
      subst e3
      exact ⟨h1, h2⟩
  have HCM : Hid (c ≤ maxLen) := hnc.2
  have hc1 : n1 + 1 ≤ c := hnc.1
  obtain ⟨cur, hh, hsz, htk⟩ := own_block hown
  have hcell : ∀ j u, (flat (Value.int .i64) l)[j]? = some u → w.cell? ⟨b, j, none⟩ = some u := fun j u hj => by
    rw [cell_of_row w b j cur _ _ hh, ← hj, ← htk, List.getElem?_take, if_pos, Array.getElem?_toList]
    have := (List.getElem?_eq_some_iff.1 hj).1
    rw [flat_length, hln] at this
    omega
  have HPRE : Hid (w.ownsRow B 77 2 (.slice (some ⟨b, 0, none⟩) k c) k (flat (Value.int .i64) (l.take k))) := by
    refine ⟨by rw [flat_length, List.length_take]; omega, .inr ⟨b, c, cur, rfl, HBB.out, hh, by omega, HCM.out, hsz, ?_⟩⟩
    rw [← flat_take, ← htk, List.take_take, Nat.min_eq_left (by omega)]
  have h1i : (k : Int) ≤ (n1 : Int) := by omega
  have h2i : (n1 : Int) + 1 ≤ (c : Int) := by omega
  have hkn : ¬ (k : Int) = (k : Int) + 1 := by omega
  by_cases hcc : c = k + 1
  · have HNEW : Hid (∀ wq, Below w.heap.size w wq → ∀ j u, (flat (Value.int .i64) (l.drop (k + 1)))[j]? = some u → wq.cell? (Addr.add ⟨b, 0, none⟩ j) = some u) := fun wq hb j u hj => by
      rw [List.drop_eq_nil_of_le (by omega)] at hj
      simp [flat_nil] at hj
    clear hcell hh hsz htk hown hln hnc
    go_enter Try.func36, Try.ntmps36
    subst hcc
    obtain rfl : n1 = k := by omega
    have hkk : (n1 : Int) ≤ (n1 : Int) + 1 := by omega
    go_wp2_with fail
    generalize ((n1 : Int) == (n1 : Int) + 1) = dd
    refine wp_region_rel_tail (by kernel_rfl) 6 [is (.slice (some ⟨b, 0, none⟩) (n1 + 1) (n1 + 1)), is (.int .i64 (n1 : Int)), is (.slice (some ⟨b, 0, none⟩) n1 (n1 + 1)), is (.slice (some ⟨b, 0, none⟩) (n1 + 1) (n1 + 1)), is (.int .i64 ((n1 : Int) + 1)), is (.slice (some ⟨b, 0, none⟩) 0 0)] [[], [], [0, 1], [], [], [3, 4], [0, 1, 2, 3, 4, 5]] (by kernel_rfl) ?_ ?_
    · refine ⟨?_, ?_, ?_, ?_, ?_, ?_, trivial⟩
      · intro t wq hbq hh K hK
        clear hh
        simp only [filled, filledN, upd, Have, is, any, row, pick, Act.put, List.setIfInBounds_toArray, List.set_cons_zero, List.set_cons_succ, Nat.reduceAdd, Nat.reduceEqDiff, reduceIte] at hK ⊢
        go_simp
        exact hK _ _ (Below.refl _ _) rfl
      · intro t wq hbq hh K hK
        clear hh
        simp only [filled, filledN, upd, Have, is, any, row, pick, Act.put, List.setIfInBounds_toArray, List.set_cons_zero, List.set_cons_succ, Nat.reduceAdd, Nat.reduceEqDiff, reduceIte] at hK ⊢
        go_simp
        exact hK _ _ (Below.refl _ _) rfl
      · intro t wq hbq hh K hK
        have e0 := hh.1
        simp only [pick] at e0
        replace e0 : t 0 = (.slice (some ⟨b, 0, none⟩) (n1 + 1) (n1 + 1)) := e0
        have e1 := hh.2.1
        simp only [pick] at e1
        replace e1 : t 1 = (.int .i64 (n1 : Int)) := e1
        clear hh
        simp only [filled, filledN, upd, Have, is, any, row, pick, Act.put, List.setIfInBounds_toArray, List.set_cons_zero, List.set_cons_succ, Nat.reduceAdd, Nat.reduceEqDiff, reduceIte] at hK ⊢
        simp only [e0, e1] at hK ⊢
        go_simp
        exact hK _ _ (Below.refl _ _) rfl
      · intro t wq hbq hh K hK
        clear hh
        simp only [filled, filledN, upd, Have, is, any, row, pick, Act.put, List.setIfInBounds_toArray, List.set_cons_zero, List.set_cons_succ, Nat.reduceAdd, Nat.reduceEqDiff, reduceIte] at hK ⊢
        go_simp
        exact hK _ _ (Below.refl _ _) rfl
      · intro t wq hbq hh K hK
        clear hh
        simp only [filled, filledN, upd, Have, is, any, row, pick, Act.put, List.setIfInBounds_toArray, List.set_cons_zero, List.set_cons_succ, Nat.reduceAdd, Nat.reduceEqDiff, reduceIte] at hK ⊢
        go_simp
        exact hK _ _ (Below.refl _ _) rfl
      · intro t wq hbq hh K hK
        have e3 := hh.1
        simp only [pick] at e3
        replace e3 : t 3 = (.slice (some ⟨b, 0, none⟩) (n1 + 1) (n1 + 1)) := e3
        have e4 := hh.2.1
        simp only [pick] at e4
        replace e4 : t 4 = (.int .i64 ((n1 : Int) + 1)) := e4
        clear hh
        simp only [filled, filledN, upd, Have, is, any, row, pick, Act.put, List.setIfInBounds_toArray, List.set_cons_zero, List.set_cons_succ, Nat.reduceAdd, Nat.reduceEqDiff, reduceIte] at hK ⊢
        simp only [e3, e4] at hK ⊢
        go_simp
        exact hK _ _ (Below.refl _ _) rfl
    · intro t wq hbq hh
      have f2 := have_get hh 2 (by decide)
      simp only [pick] at f2
      replace f2 : t 2 = (.slice (some ⟨b, 0, none⟩) n1 (n1 + 1)) := f2
      have f5 := have_get hh 5 (by decide)
      simp only [pick] at f5
      replace f5 : t 5 = (.slice (some ⟨b, 0, none⟩) 0 0) := f5
      clear hh
      simp only [filled, filledN, upd, Have, is, any, row, pick, Act.put, List.setIfInBounds_toArray, List.set_cons_zero, List.set_cons_succ, Nat.reduceAdd, Nat.reduceEqDiff, reduceIte]
      simp only [f2, f5]
      show wpList _ _ _ [_, _] _ _
      have hpre : wq.ownsRow B 77 2 (.slice (some ⟨b, 0, none⟩) n1 (n1 + 1)) n1 (flat (Value.int .i64) (l.take n1)) := owns_below HPRE.out hbq
      have hnew : ∀ j u, (flat (Value.int .i64) (l.drop (n1 + 1)))[j]? = some u → wq.cell? (Addr.add ⟨b, 0, none⟩ j) = some u := fun j u hj => HNEW.out wq hbq j u hj
      obtain ⟨w4, hrun, hown4, hgrow⟩ := run_append_fits (P := Try.prog) wq B 73 73 77 i0 2 Try.underlying73 hi0 hz1 b n1 (n1 + 1) (flat (Value.int .i64) (l.take n1)) hpre ⟨b, 0, none⟩ 0 0 (flat (Value.int .i64) (l.drop (n1 + 1))) (by rw [flat_length, List.length_drop, HN.out]; omega) hnew (flat_one _ (fun _ => rfl) _) (by omega)
      have hBq : b < wq.heap.size := Nat.lt_of_lt_of_le HBLT.out hbq.size
      rw [show n1 + (0) = n1 by omega] at hrun hown4
      have hfl : flat (Value.int .i64) (l.take n1) ++ flat (Value.int .i64) (l.drop (n1 + 1)) = flat (Value.int .i64) (l.eraseIdx n1) := by rw [← flat_append, List.eraseIdx_eq_take_drop_succ]
      rw [hfl] at hown4
      obtain ⟨cur4, hh4, hsz4, htk4⟩ := own_block hown4
      have hcl : ∀ ty, (Builtin.clear_ #[73] ty #[.slice (some ⟨b, n1 * 2, none⟩) 1 1]).run Try.prog w4 = .ok (.tuple #[]) (w4.setRow b (cur4.toList.take (n1 * 2) ++ [Value.int .i64 0, (.int .i64 0 : Value)] ++ cur4.toList.drop (n1 * 2 + 2)).toArray) :=
        fun ty => run_clear_two w4 73 77 ty (.int .i64 0) (.int .i64 0) Try.underlying73 (zero_of_info info_e).1 rfl rfl rfl b (n1 * 2) _ cur4 77 hh4 (by rw [hsz4]; omega)
      have HX : Hid (w.grownBy (w4.setRow b (cur4.toList.take (n1 * 2) ++ [Value.int .i64 0, (.int .i64 0 : Value)] ++ cur4.toList.drop (n1 * 2 + 2)).toArray) (some b) ∧ (w4.setRow b (cur4.toList.take (n1 * 2) ++ [Value.int .i64 0, (.int .i64 0 : Value)] ++ cur4.toList.drop (n1 * 2 + 2)).toArray).ownsRow B 77 2 (.slice (some ⟨b, 0, none⟩) n1 (n1 + 1)) n1 (flat (Value.int .i64) (l.eraseIdx n1))) := by
        have hgw : w.grownBy wq (some b) := ⟨hbq.os, hbq.tape, hbq.output, hbq.size, fun j hj _ => hbq.block j hj⟩
        refine ⟨⟨hgrow.os.trans hgw.os, hgrow.tape.trans hgw.tape, hgrow.output.trans hgw.output, by have := Nat.le_trans hgw.size hgrow.size; simpa using this, fun j hj hne => (setRow_other w4 b j _ (fun e => hne (by rw [e]))).trans ((hgrow.block j (Nat.lt_of_lt_of_le hj hgw.size) hne).trans (hgw.block j hj hne))⟩, ?_⟩
        refine ⟨hown4.1, .inr ⟨b, n1 + 1, _, rfl, HBB.out, setRow_heap w4 b cur4 _ _ _ hh4, by omega, HCM.out, ?_, ?_⟩⟩
        · simp only [List.size_toArray, List.length_append, List.length_take, List.length_drop, Array.length_toList, List.length_cons, List.length_nil]; omega
        · rw [List.append_assoc, List.take_append_of_le_length (by rw [List.length_take, Array.length_toList, hsz4]; omega), List.take_take, Nat.min_self, htk4]
      obtain ⟨C5, hC5⟩ : ∃ C5 : Array Value, C5 = (cur4.toList.take (n1 * 2) ++ [(Value.int .i64 0), (.int .i64 0 : Value)] ++ cur4.toList.drop (n1 * 2 + 2)).toArray := ⟨_, rfl⟩
      rw [← hC5] at hcl HX
      clear hC5 hpre hnew hown4 hgrow hh4 hsz4 htk4 hfl
      refine wpList_plain rfl fun K' hK' => ?_
      unfold Oper.wp
      simp [execOp, resolve, invoke, builtin, Act.eval, hrun, Result.andThen]
      refine hK' _ _ ?_
      go_wp2
      go_ret
      exact ⟨rfl, HX.out.2, HX.out.1⟩
  · have HNEW : Hid (∀ wq, Below w.heap.size w wq → ∀ j u, (flat (Value.int .i64) (l.drop (k + 1)))[j]? = some u → wq.cell? (Addr.add ⟨b, (k + 1) * 2, none⟩ j) = some u) := fun wq hb j u hj => by
      have ha : Addr.add ⟨b, (k + 1) * 2, none⟩ j = ⟨b, (k + 1) * 2 + j, none⟩ := by unfold Addr.add; split <;> simp_all
      rw [ha, hb.cell (p := ⟨b, (k + 1) * 2 + j, none⟩) HBLT.out]
      refine hcell _ _ ?_
      rw [← flat_drop, List.getElem?_drop] at hj
      exact hj
    have hcc2 : ¬ k + 1 = c := fun e => hcc e.symm
    have hcc3 : k + 1 < c := by omega
    have hkc : k ≤ c := by omega
    clear hcell hh hsz htk hown hln hnc
    go_enter Try.func36, Try.ntmps36
    go_wp2_with fail
    generalize ((k : Int) == (k : Int) + 1) = dd
    refine wp_region_rel_tail (by kernel_rfl) 6 [is (.slice (some ⟨b, 0, none⟩) (n1 + 1) c), is (.int .i64 (k : Int)), is (.slice (some ⟨b, 0, none⟩) k c), is (.slice (some ⟨b, 0, none⟩) (n1 + 1) c), is (.int .i64 ((k : Int) + 1)), is (.slice (some ⟨b, (k + 1) * 2, none⟩) (n1 - k) (c - (k + 1)))] [[], [], [0, 1], [], [], [3, 4], [0, 1, 2, 3, 4, 5]] (by kernel_rfl) ?_ ?_
    · refine ⟨?_, ?_, ?_, ?_, ?_, ?_, trivial⟩
      · intro t wq hbq hh K hK
        clear hh
        simp only [filled, filledN, upd, Have, is, any, row, pick, Act.put, List.setIfInBounds_toArray, List.set_cons_zero, List.set_cons_succ, Nat.reduceAdd, Nat.reduceEqDiff, reduceIte] at hK ⊢
        go_simp
        exact hK _ _ (Below.refl _ _) rfl
      · intro t wq hbq hh K hK
        clear hh
        simp only [filled, filledN, upd, Have, is, any, row, pick, Act.put, List.setIfInBounds_toArray, List.set_cons_zero, List.set_cons_succ, Nat.reduceAdd, Nat.reduceEqDiff, reduceIte] at hK ⊢
        go_simp
        exact hK _ _ (Below.refl _ _) rfl
      · intro t wq hbq hh K hK
        have e0 := hh.1
        simp only [pick] at e0
        replace e0 : t 0 = (.slice (some ⟨b, 0, none⟩) (n1 + 1) c) := e0
        have e1 := hh.2.1
        simp only [pick] at e1
        replace e1 : t 1 = (.int .i64 (k : Int)) := e1
        clear hh
        simp only [filled, filledN, upd, Have, is, any, row, pick, Act.put, List.setIfInBounds_toArray, List.set_cons_zero, List.set_cons_succ, Nat.reduceAdd, Nat.reduceEqDiff, reduceIte] at hK ⊢
        simp only [e0, e1] at hK ⊢
        go_simp
        exact hK _ _ (Below.refl _ _) rfl
      · intro t wq hbq hh K hK
        clear hh
        simp only [filled, filledN, upd, Have, is, any, row, pick, Act.put, List.setIfInBounds_toArray, List.set_cons_zero, List.set_cons_succ, Nat.reduceAdd, Nat.reduceEqDiff, reduceIte] at hK ⊢
        go_simp
        exact hK _ _ (Below.refl _ _) rfl
      · intro t wq hbq hh K hK
        clear hh
        simp only [filled, filledN, upd, Have, is, any, row, pick, Act.put, List.setIfInBounds_toArray, List.set_cons_zero, List.set_cons_succ, Nat.reduceAdd, Nat.reduceEqDiff, reduceIte] at hK ⊢
        go_simp
        exact hK _ _ (Below.refl _ _) rfl
      · intro t wq hbq hh K hK
        have e3 := hh.1
        simp only [pick] at e3
        replace e3 : t 3 = (.slice (some ⟨b, 0, none⟩) (n1 + 1) c) := e3
        have e4 := hh.2.1
        simp only [pick] at e4
        replace e4 : t 4 = (.int .i64 ((k : Int) + 1)) := e4
        clear hh
        simp only [filled, filledN, upd, Have, is, any, row, pick, Act.put, List.setIfInBounds_toArray, List.set_cons_zero, List.set_cons_succ, Nat.reduceAdd, Nat.reduceEqDiff, reduceIte] at hK ⊢
        simp only [e3, e4] at hK ⊢
        go_simp
        exact hK _ _ (Below.refl _ _) rfl
    · intro t wq hbq hh
      have f2 := have_get hh 2 (by decide)
      simp only [pick] at f2
      replace f2 : t 2 = (.slice (some ⟨b, 0, none⟩) k c) := f2
      have f5 := have_get hh 5 (by decide)
      simp only [pick] at f5
      replace f5 : t 5 = (.slice (some ⟨b, (k + 1) * 2, none⟩) (n1 - k) (c - (k + 1))) := f5
      clear hh
      simp only [filled, filledN, upd, Have, is, any, row, pick, Act.put, List.setIfInBounds_toArray, List.set_cons_zero, List.set_cons_succ, Nat.reduceAdd, Nat.reduceEqDiff, reduceIte]
      simp only [f2, f5]
      show wpList _ _ _ [_, _] _ _
      have hpre : wq.ownsRow B 77 2 (.slice (some ⟨b, 0, none⟩) k c) k (flat (Value.int .i64) (l.take k)) := owns_below HPRE.out hbq
      have hnew : ∀ j u, (flat (Value.int .i64) (l.drop (k + 1)))[j]? = some u → wq.cell? (Addr.add ⟨b, (k + 1) * 2, none⟩ j) = some u := fun j u hj => HNEW.out wq hbq j u hj
      obtain ⟨w4, hrun, hown4, hgrow⟩ := run_append_fits (P := Try.prog) wq B 73 73 77 i0 2 Try.underlying73 hi0 hz1 b k c (flat (Value.int .i64) (l.take k)) hpre ⟨b, (k + 1) * 2, none⟩ (n1 - k) (c - (k + 1)) (flat (Value.int .i64) (l.drop (k + 1))) (by rw [flat_length, List.length_drop, HN.out]; omega) hnew (flat_one _ (fun _ => rfl) _) (by omega)
      have hBq : b < wq.heap.size := Nat.lt_of_lt_of_le HBLT.out hbq.size
      rw [show k + (n1 - k) = n1 by omega] at hrun hown4
      have hfl : flat (Value.int .i64) (l.take k) ++ flat (Value.int .i64) (l.drop (k + 1)) = flat (Value.int .i64) (l.eraseIdx k) := by rw [← flat_append, List.eraseIdx_eq_take_drop_succ]
      rw [hfl] at hown4
      obtain ⟨cur4, hh4, hsz4, htk4⟩ := own_block hown4
      have hcl : ∀ ty, (Builtin.clear_ #[73] ty #[.slice (some ⟨b, n1 * 2, none⟩) 1 (c - n1)]).run Try.prog w4 = .ok (.tuple #[]) (w4.setRow b (cur4.toList.take (n1 * 2) ++ [Value.int .i64 0, (.int .i64 0 : Value)] ++ cur4.toList.drop (n1 * 2 + 2)).toArray) :=
        fun ty => run_clear_two w4 73 77 ty (.int .i64 0) (.int .i64 0) Try.underlying73 (zero_of_info info_e).1 rfl rfl rfl b (n1 * 2) _ cur4 77 hh4 (by rw [hsz4]; omega)
      have HX : Hid (w.grownBy (w4.setRow b (cur4.toList.take (n1 * 2) ++ [Value.int .i64 0, (.int .i64 0 : Value)] ++ cur4.toList.drop (n1 * 2 + 2)).toArray) (some b) ∧ (w4.setRow b (cur4.toList.take (n1 * 2) ++ [Value.int .i64 0, (.int .i64 0 : Value)] ++ cur4.toList.drop (n1 * 2 + 2)).toArray).ownsRow B 77 2 (.slice (some ⟨b, 0, none⟩) n1 c) n1 (flat (Value.int .i64) (l.eraseIdx k))) := by
        have hgw : w.grownBy wq (some b) := ⟨hbq.os, hbq.tape, hbq.output, hbq.size, fun j hj _ => hbq.block j hj⟩
        refine ⟨⟨hgrow.os.trans hgw.os, hgrow.tape.trans hgw.tape, hgrow.output.trans hgw.output, by have := Nat.le_trans hgw.size hgrow.size; simpa using this, fun j hj hne => (setRow_other w4 b j _ (fun e => hne (by rw [e]))).trans ((hgrow.block j (Nat.lt_of_lt_of_le hj hgw.size) hne).trans (hgw.block j hj hne))⟩, ?_⟩
        refine ⟨hown4.1, .inr ⟨b, c, _, rfl, HBB.out, setRow_heap w4 b cur4 _ _ _ hh4, by omega, HCM.out, ?_, ?_⟩⟩
        · simp only [List.size_toArray, List.length_append, List.length_take, List.length_drop, Array.length_toList, List.length_cons, List.length_nil]; omega
        · rw [List.append_assoc, List.take_append_of_le_length (by rw [List.length_take, Array.length_toList, hsz4]; omega), List.take_take, Nat.min_self, htk4]
      obtain ⟨C5, hC5⟩ : ∃ C5 : Array Value, C5 = (cur4.toList.take (n1 * 2) ++ [(Value.int .i64 0), (.int .i64 0 : Value)] ++ cur4.toList.drop (n1 * 2 + 2)).toArray := ⟨_, rfl⟩
      rw [← hC5] at hcl HX
      clear hC5 hpre hnew hown4 hgrow hh4 hsz4 htk4 hfl
      refine wpList_plain rfl fun K' hK' => ?_
      unfold Oper.wp
      simp [execOp, resolve, invoke, builtin, Act.eval, hrun, Result.andThen]
      refine hK' _ _ ?_
      go_wp2
      go_ret
      exact ⟨rfl, HX.out.2, HX.out.1⟩
/-- The entries behind Del. -/
def gone (l : List (Nat × Int)) (h : Int) : List (Nat × Int) := match idx l h with
  | none => l
  | some k => l.eraseIdx k
set_option maxHeartbeats 1000000 in
set_option linter.unusedSimpArgs false in
theorem del_any (B g room last : Nat) (l : List (Nat × Int)) (h : Int) (w : World) (hT : IsT 75 77 (Value.int .i64) B g room last l w) (hl : l.length ≤ 64) :
    Calls Try.prog 14 #[.pointer (some ⟨g, 0, none⟩), .int .i64 h] w fun e w' => e = .returned (got l h) ∧ IsT 75 77 (Value.int .i64) B g room last (gone l h) w' ∧ Below B w w' ∧ Kp 75 77 w w' := by
  have HT := hid hT
  have hBw : B ≤ w.heap.size := by obtain ⟨_, _, _, h3⟩ := hT; exact Nat.le_trans h3 (Nat.le_of_lt HT.out.lt)
  have hlli : (l.length : Int) ≤ 64 := by omega
  clear hT
  cases hi : idx l h with
  | none =>
    have HG : Hid (got l h = .tuple #[.int .i64 0, .bool false]) := by show _ = _; unfold got; rw [hi]
    have HGN : Hid (gone l h = l) := by show _ = _; unfold gone; rw [hi]
    have HI := hid hi
    clear hi
    go_enter Try.func14, Try.ntmps14
    go_wp2_with fail
    refine (get_any B g room last l h _ HT.out hl).mono ?_
    rw [HG.out]
    rintro e w1 ⟨rfl, hb1⟩
    have HT1 := hid (HT.out.below hb1)
    have HB1 := hid hb1
    clear hb1
    go_wp2_with fail
    refine (find_any B g room last l h _ HT1.out hl).mono ?_
    rw [HI.out]
    rintro e w2 ⟨rfl, hb2⟩
    have HT2 := hid (HT1.out.below hb2)
    have HB2 := hid (bel HB1.out hb2)
    clear hb2
    go_wp2
    go_ret2
    exact ⟨by rw [HG.out]; rfl, by rw [HGN.out]; exact HT2.out, HB2.out.mono hBw, Kp.below HB2.out⟩
  | some k =>
    obtain ⟨hk, e1, _⟩ := idx_some hi
    obtain ⟨⟨hd, x⟩, hp⟩ : ∃ p, p = l[k] := ⟨_, rfl⟩
    have HG : Hid (got l h = .tuple #[.int .i64 x, .bool true]) := by show _ = _; unfold got; rw [hi]; simp only; rw [List.getElem?_eq_getElem hk, ← hp]; try rfl
    have HGN : Hid (gone l h = l.eraseIdx k) := by show _ = _; unfold gone; rw [hi]
    have HI := hid hi
    obtain ⟨n1, hn1⟩ : ∃ n1, l.length = n1 + 1 := ⟨l.length - 1, by omega⟩
    have HN1 := hid hn1
    have hkn : k ≤ n1 := by omega
    have hn64 : n1 ≤ 64 := by omega
    clear hi e1 hp hn1
    go_enter Try.func14, Try.ntmps14
    go_wp2_with fail
    refine (get_any B g room last l h _ HT.out hl).mono ?_
    rw [HG.out]
    rintro e w1 ⟨rfl, hb1⟩
    have HT1 := hid (HT.out.below hb1)
    have HB1 := hid hb1
    clear hb1
    go_wp2_with fail
    refine (find_any B g room last l h _ HT1.out hl).mono ?_
    rw [HI.out]
    rintro e w2 ⟨rfl, hb2⟩
    rw [show plc (some k) = (k : Int) from rfl]
    have HT2 := hid (HT1.out.below hb2)
    have HB2 := hid (bel HB1.out hb2)
    clear hb2
    obtain ⟨v, hv, hown, hBg⟩ := HT2.out
    have hglt := HT2.out.lt
    obtain ⟨A, c, rfl, hnc, hcm, hcell⟩ := own_cells hown
    obtain ⟨b, rfl, hbl, _, _⟩ := hcell k hk
    rw [HN1.out] at hv hown
    obtain ⟨c0, c1, c2⟩ := cells3 hv
    have HV := hid hv
    have HO := hid hown
    clear hcell hv hown
    have hki : (k : Int) ≤ 64 := by omega
    go_wp2_with fail
    refine (delete_any B b c k n1 l _ HO.out hkn hn64).mono ?_
    rintro e w3 ⟨rfl, hown3, hgrow⟩
    have hv3 : w3.heap[g]? = some (.cells #[.int .i64 (room : Int), .int .i64 (last : Int), .slice (some ⟨b, 0, none⟩) (n1 + 1) c] 75 (0, 0)) := (hgrow.block g hglt (fun e => own_ne (by decide) HV.out HO.out (by rw [e]; rfl))).trans HV.out
    have hb3 : Below B w w3 := (HB2.out.mono hBw).grown hgrow (Nat.le_trans hBw HB2.out.size) (fun j hj => (HO.out.lt j (by rw [← hj]; rfl)).1)
    have hk3 : Kp 75 77 w w3 := (Kp.below HB2.out).trans (Kp.grown HO.out hgrow)
    have hv4 := heap_setCell_same w3 g 2 _ _ (.slice (some ⟨b, 0, none⟩) n1 c) hv3
    have hown4 := own_set (g := g) (i := 2) (x := .slice (some ⟨b, 0, none⟩) n1 c) hown3 (own_ne (by decide) hv3 hown3)
    have HT4 : Hid (IsT 75 77 (Value.int .i64) B g room last (l.eraseIdx k) (w3.setCell ⟨g, 2, none⟩ (.slice (some ⟨b, 0, none⟩) n1 c))) := by
      refine ⟨_, by simpa using hv4, ?_, hBg⟩
      rw [show (l.eraseIdx k).length = n1 by rw [List.length_eraseIdx, if_pos hk, HN1.out]; rfl]
      exact hown4
    have HB4 : Hid (Below B w (w3.setCell ⟨g, 2, none⟩ (.slice (some ⟨b, 0, none⟩) n1 c))) := hb3.setCell (p := ⟨g, 2, none⟩) hBg _
    have HK4 : Hid (Kp 75 77 w (w3.setCell ⟨g, 2, none⟩ (.slice (some ⟨b, 0, none⟩) n1 c))) := hk3.trans (Kp.set hv3 (.inl rfl))
    obtain ⟨k0, k1, k2⟩ := cells3 hv3
    obtain ⟨m0, m1, m2⟩ := thaw3 hv3
    clear hown3 hgrow hv3 hb3 hk3 hv4 hown4 c0 c1 c2
    go_wp2
    go_ret2
    exact ⟨by rw [HG.out]; rfl, by rw [HGN.out]; exact HT4.out, HB4.out, HK4.out⟩
set_option linter.unusedSimpArgs false in
theorem new_any (n : Nat) (h1 : 1 ≤ n) (h2 : n ≤ 64) (w : World) : Calls Try.prog 10 #[.int .i64 (n : Int)] w fun e w' => ∃ g, e = .returned (.tuple #[.pointer (some ⟨g, 0, none⟩), .int .i64 0]) ∧ IsT 75 77 (Value.int .i64) w.heap.size g n 0 [] w' ∧ Below w.heap.size w w' := by
  have q1 : ¬ (n : Int) < 1 := by omega
  have q2 : ¬ (64 : Int) < (n : Int) := by omega
  go_enter Try.func10, Try.ntmps10
  go_wp2
  go_ret2
  exact ⟨_, rfl, ⟨_, heap_alloc_new w _, World.ownsRow_nil _ _ _ _, Nat.le_refl _⟩, (Below.refl _ _).alloc (Nat.le_refl _) _⟩
set_option linter.unusedSimpArgs false in
theorem len_any (B g room last : Nat) (l : List (Nat × Int)) (w : World) (hT : IsT 75 77 (Value.int .i64) B g room last l w) (hl : l.length ≤ 64) :
    Calls Try.prog 12 #[.pointer (some ⟨g, 0, none⟩)] w fun e w' => e = .returned (.int .i64 (l.length : Int)) ∧ w' = w := by
  obtain ⟨v, hv, hown, hBg⟩ := hT
  obtain ⟨A, c, rfl, hnc, hcm, _⟩ := own_cells hown
  obtain ⟨c0, c1, c2⟩ := cells3 hv
  have hlli : (l.length : Int) ≤ 64 := by omega
  clear hv hown
  go_enter Try.func12, Try.ntmps12
  go_wp2
  go_ret
  exact ⟨rfl, rfl⟩
end Go.Proofs.Ytihlojkghemjeaa.TbI
