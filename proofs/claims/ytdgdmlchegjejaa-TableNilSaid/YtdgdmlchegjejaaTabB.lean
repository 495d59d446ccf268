/- Tables: one number is put into an empty one. -/
import Derived.Test.YtdgdmlchegjejaaTabA
import Derived.Test.YtdgdmlchegjejaaRegt
import Derived.Deep.AppendLies
namespace Go.Proofs.Ytdgdmlchegjejaa.TabB
open Go.RowKit Go.Proofs.Ytdgdmlchegjejaa.Base Go.Proofs.Ytdgdmlchegjejaa.Base2 Go.Proofs.Ytdgdmlchegjejaa.Base3 Go.Proofs.Ytdgdmlchegjejaa.TabA Go.Proofs.Ytdgdmlchegjejaa.Regs

theorem info_e : (Try.prog.info? 89).map (fun i => (i.zero, i.size, i.bytes)) = some (some (.agg #[.int .i64 0, .int .i64 0]), 2, 16) := by kernel_rfl
/-- It is a slice of one pair. -/
def one2 (x y : Value) : Keep := ⟨fun u w => ∃ b, u = .slice (some ⟨b, 0, none⟩) 1 1 ∧ b < w.heap.size ∧ w.cell? ⟨b, 0, none⟩ = some x ∧ w.cell? ⟨b, 1, none⟩ = some y, fun _ _ _ hb ⟨b, h1, h2, h3, h4⟩ => ⟨b, h1, Nat.lt_of_lt_of_le h2 hb.size, (hb.cell (p := ⟨b, 0, none⟩) h2).trans h3, (hb.cell (p := ⟨b, 1, none⟩) h2).trans h4⟩⟩
def own2 (B : Nat) : Keep := ⟨fun u w => ∃ b cap cur, u = .slice (some ⟨b, 0, none⟩) 1 cap ∧ B ≤ b ∧ w.heap[b]? = some (.cells cur 89 (0, 0)) ∧ cur.toList.take 2 = [.int .i64 1, .int .i64 5], fun _ _ _ hb ⟨b, cap, cur, h1, h2, h3, h4⟩ => ⟨b, cap, cur, h1, h2, (hb.block b (Array.getElem?_eq_some_iff.1 h3).1).trans h3, h4⟩⟩
set_option linter.unusedSimpArgs false in
set_option maxRecDepth 100000 in
set_option maxHeartbeats 3200000 in
theorem put_one (g : Nat) (w : World) (h : T3 w g (.int .i64 2) (.int .i64 0) (.slice none 0 0)) :
    Calls Try.prog 46 #[.pointer (some ⟨g, 0, none⟩), .int .i64 5] w fun e w' => e = .returned (.tuple #[.int .i64 1, .int .i64 0]) ∧ ∃ b cap, T3 w' g (.int .i64 2) (.int .i64 1) (.slice (some ⟨b, 0, none⟩) 1 cap) ∧
      w'.cell? ⟨b, 0, none⟩ = some (.int .i64 1) ∧ w'.cell? ⟨b, 1, none⟩ = some (.int .i64 5) ∧ b < w'.heap.size ∧ ∀ G, G ≤ g → G ≤ w.heap.size → Below G w w' := by
  obtain ⟨i0, hi0, hz0, hz1, hz2⟩ := info_parts info_e
  obtain ⟨⟨c0, c1, c2⟩, f0, f1, f2⟩ := h.facts
  have hlt := h.lt
  go_enter Try.func46, Try.ntmps46
  go_wp2_with fail
  go_quiet (fail)
  have hT1 : T3 (w.drewN nq) g (.int .i64 2) (.int .i64 0) (.slice none 0 0) := by show (w.drewN nq).heap[g]? = _; rw [World.heap_drewN]; exact h
  have hB1 : ∀ G, G ≤ g → G ≤ w.heap.size → Below G w (w.drewN nq) := fun G _ _ => below_drewN (Below.refl _ _) _
  generalize w.drewN nq = w1 at hT1 hB1 ⊢
  clear c0 c1 c2 f0 f1 f2 hlt
  obtain ⟨⟨c0, c1, c2⟩, f0, f1, f2⟩ := hT1.facts
  go_wp2_with fail
  have hT2 := hT1.set1 (.int .i64 1)
  generalize hw2 : w1.setCell _ _ = w2 at hT2 ⊢
  clear c0 c1 c2 f0 f1 f2
  obtain ⟨⟨c0, c1, c2⟩, f0, f1, f2⟩ := hT2.facts
  have hlt := hT2.lt
  refine wp_region_rel_tail (by kernel_rfl) 13 [is (.pointer (some ⟨g, 0, none⟩)), is (.pointer (some ⟨g, 0, none⟩)), is (.pointer (some ⟨g, 0, none⟩)), is (.pointer (some ⟨g, 2, none⟩)), is (.slice none 0 0), is (.pointer (some ⟨g, 0, none⟩)), is (.pointer (some ⟨g, 0, none⟩)), is (.pointer (some ⟨g, 1, none⟩)), is (.int .i64 1), is (.int .i64 5), is (.agg #[.int .i64 1, .int .i64 5]), one2 (.int .i64 1) (.int .i64 5), own2 w2.heap.size] [[], [], [1], [1, 2], [1, 2, 3], [], [5], [5, 6], [5, 6, 7], [], [5, 6, 7, 8, 9], [5, 6, 7, 8, 9, 10], [1, 2, 3, 4, 5, 6, 7, 8, 9, 10, 11], [0, 1, 2, 3, 4, 5, 6, 7, 8, 9, 10, 11, 12]] (by kernel_rfl) ?_ ?_
  · refine ⟨?_, ?_, ?_, ?_, ?_, ?_, ?_, ?_, ?_, ?_, ?_, ?_, ?_, trivial⟩
    · intro t wq hbq hh K hK
      clear hh
      simp only [filled, filledN, upd, Have, is, any, row, pick, Act.put, List.setIfInBounds_toArray, List.set_cons_zero, List.set_cons_succ, Nat.reduceAdd, Nat.reduceEqDiff, reduceIte] at hK ⊢
      go_simp
      exact hK _ _ (Below.refl _ _) rfl
    · intro t wq hbq hh K hK
      clear hh
      simp only [filled, filledN, upd, Have, is, any, row, pick, Act.put, List.setIfInBounds_toArray, List.set_cons_zero, List.set_cons_succ, Nat.reduceAdd, Nat.reduceEqDiff, reduceIte] at hK ⊢
      go_simp
      exact hK _ _ (Below.refl _ _) rfl
    · intro t wq hbq hh K hK
      have e1 := hh.1
      simp only [pick] at e1
      replace e1 : t 1 = (.pointer (some ⟨g, 0, none⟩)) := e1
      clear hh
      simp only [filled, filledN, upd, Have, is, any, row, pick, Act.put, List.setIfInBounds_toArray, List.set_cons_zero, List.set_cons_succ, Nat.reduceAdd, Nat.reduceEqDiff, reduceIte] at hK ⊢
      simp only [e1] at hK ⊢
      go_simp
      exact hK _ _ (Below.refl _ _) rfl
    · intro t wq hbq hh K hK
      have e2 := hh.2.1
      simp only [pick] at e2
      replace e2 : t 2 = (.pointer (some ⟨g, 0, none⟩)) := e2
      clear hh
      simp only [filled, filledN, upd, Have, is, any, row, pick, Act.put, List.setIfInBounds_toArray, List.set_cons_zero, List.set_cons_succ, Nat.reduceAdd, Nat.reduceEqDiff, reduceIte] at hK ⊢
      simp only [e2] at hK ⊢
      go_simp
      exact hK _ _ (Below.refl _ _) rfl
    · intro t wq hbq hh K hK
      have e3 := hh.2.2.1
      simp only [pick] at e3
      replace e3 : t 3 = (.pointer (some ⟨g, 2, none⟩)) := e3
      clear hh
      simp only [filled, filledN, upd, Have, is, any, row, pick, Act.put, List.setIfInBounds_toArray, List.set_cons_zero, List.set_cons_succ, Nat.reduceAdd, Nat.reduceEqDiff, reduceIte] at hK ⊢
      simp only [e3] at hK ⊢
      have hq := (hbq.cell (p := ⟨g, 2, none⟩) hlt).trans c2
      go_simp
      first | exact hK _ _ (Below.refl _ _) rfl | (refine hK _ _ (Below.refl _ _) ?_; simp [is, pick])
    · intro t wq hbq hh K hK
      clear hh
      simp only [filled, filledN, upd, Have, is, any, row, pick, Act.put, List.setIfInBounds_toArray, List.set_cons_zero, List.set_cons_succ, Nat.reduceAdd, Nat.reduceEqDiff, reduceIte] at hK ⊢
      go_simp
      exact hK _ _ (Below.refl _ _) rfl
    · intro t wq hbq hh K hK
      have e5 := hh.1
      simp only [pick] at e5
      replace e5 : t 5 = (.pointer (some ⟨g, 0, none⟩)) := e5
      clear hh
      simp only [filled, filledN, upd, Have, is, any, row, pick, Act.put, List.setIfInBounds_toArray, List.set_cons_zero, List.set_cons_succ, Nat.reduceAdd, Nat.reduceEqDiff, reduceIte] at hK ⊢
      simp only [e5] at hK ⊢
      go_simp
      exact hK _ _ (Below.refl _ _) rfl
    · intro t wq hbq hh K hK
      have e6 := hh.2.1
      simp only [pick] at e6
      replace e6 : t 6 = (.pointer (some ⟨g, 0, none⟩)) := e6
      clear hh
      simp only [filled, filledN, upd, Have, is, any, row, pick, Act.put, List.setIfInBounds_toArray, List.set_cons_zero, List.set_cons_succ, Nat.reduceAdd, Nat.reduceEqDiff, reduceIte] at hK ⊢
      simp only [e6] at hK ⊢
      go_simp
      exact hK _ _ (Below.refl _ _) rfl
    · intro t wq hbq hh K hK
      have e7 := hh.2.2.1
      simp only [pick] at e7
      replace e7 : t 7 = (.pointer (some ⟨g, 1, none⟩)) := e7
      clear hh
      simp only [filled, filledN, upd, Have, is, any, row, pick, Act.put, List.setIfInBounds_toArray, List.set_cons_zero, List.set_cons_succ, Nat.reduceAdd, Nat.reduceEqDiff, reduceIte] at hK ⊢
      simp only [e7] at hK ⊢
      have hq := (hbq.cell (p := ⟨g, 1, none⟩) hlt).trans c1
      go_simp
      first | exact hK _ _ (Below.refl _ _) rfl | (refine hK _ _ (Below.refl _ _) ?_; simp [is, pick])
    · intro t wq hbq hh K hK
      clear hh
      simp only [filled, filledN, upd, Have, is, any, row, pick, Act.put, List.setIfInBounds_toArray, List.set_cons_zero, List.set_cons_succ, Nat.reduceAdd, Nat.reduceEqDiff, reduceIte] at hK ⊢
      go_simp
      exact hK _ _ (Below.refl _ _) rfl
    · intro t wq hbq hh K hK
      have e8 := hh.2.2.2.1
      simp only [pick] at e8
      replace e8 : t 8 = (.int .i64 1) := e8
      have e9 := hh.2.2.2.2.1
      simp only [pick] at e9
      replace e9 : t 9 = (.int .i64 5) := e9
      clear hh
      simp only [filled, filledN, upd, Have, is, any, row, pick, Act.put, List.setIfInBounds_toArray, List.set_cons_zero, List.set_cons_succ, Nat.reduceAdd, Nat.reduceEqDiff, reduceIte] at hK ⊢
      simp only [e8, e9] at hK ⊢
      go_simp
      exact hK _ _ (Below.refl _ _) rfl
    · intro t wq hbq hh K hK
      have e10 := hh.2.2.2.2.2.1
      simp only [pick] at e10
      replace e10 : t 10 = (.agg #[.int .i64 1, .int .i64 5]) := e10
      clear hh
      simp only [filled, filledN, upd, Have, is, any, row, pick, Act.put, List.setIfInBounds_toArray, List.set_cons_zero, List.set_cons_succ, Nat.reduceAdd, Nat.reduceEqDiff, reduceIte] at hK ⊢
      simp only [e10] at hK ⊢
      go_simp
      exact hK _ _ ((Below.refl _ _).alloc (Nat.le_refl _) _) ⟨wq.heap.size, rfl, by simp, (cell_of_row _ wq.heap.size 0 _ _ _ (heap_alloc_new wq _)).trans rfl, (cell_of_row _ wq.heap.size 1 _ _ _ (heap_alloc_new wq _)).trans rfl⟩
    · intro t wq hbq hh K hK
      have e4 := hh.2.2.2.1
      simp only [pick] at e4
      replace e4 : t 4 = (.slice none 0 0) := e4
      have e11 := hh.2.2.2.2.2.2.2.2.2.2.1
      simp only [pick] at e11
      clear hh
      simp only [filled, filledN, upd, Have, is, any, row, pick, Act.put, List.setIfInBounds_toArray, List.set_cons_zero, List.set_cons_succ, Nat.reduceAdd, Nat.reduceEqDiff, reduceIte] at hK ⊢
      simp only [e4] at hK ⊢
      obtain ⟨b, e11, hbl, q0, q1⟩ := e11
      simp only [e11] at hK ⊢
      rw [if_pos (by rfl)]
      refine wp_append_own wq _ _ 85 rfl wq.heap.size 89 i0 _ 2 16 Try.underlying85 hi0 hz0 hz1 hz2 rfl (by omega) (.slice none 0 0) 0 [] rfl (World.ownsRow_nil _ _ _ _) ⟨b, 0, none⟩ 1 1 [.int .i64 1, .int .i64 5] rfl rfl ?c1 (by simp [Value.oneCell']) (by unfold maxLen; omega) (by omega) (Nat.le_refl _) ?c2
      case c1 => intro j u hj; match j, hj with | 0, hj => (simp at hj; subst hj; simpa [Addr.add] using q0) | 1, hj => (simp at hj; subst hj; simpa [Addr.add] using q1)
      case c2 =>
        intro v' w3 hown hgrow _
        have hbel3 : Below wq.heap.size wq w3 := (Below.refl _ _).grown hgrow (Nat.le_refl _) (fun k h => by cases h)
        refine hK _ _ hbel3 ?_
        rcases hown.2 with ⟨_, h⟩ | ⟨g', cap, cur, h1, h2, h3, h4, h5, h6, h7⟩
        · omega
        · exact ⟨g', cap, cur, h1, Nat.le_trans hbq.size h2, h3, h7⟩
  · intro t wq hbq hh
    have f0 := have_get hh 0 (by decide)
    simp only [pick] at f0
    replace f0 : t 0 = (.pointer (some ⟨g, 0, none⟩)) := f0
    have f12 := have_get hh 12 (by decide)
    simp only [pick] at f12
    clear hh
    simp only [filled, filledN, upd, Have, is, any, row, pick, Act.put, List.setIfInBounds_toArray, List.set_cons_zero, List.set_cons_succ, Nat.reduceAdd, Nat.reduceEqDiff, reduceIte]
    simp only [f0]
    obtain ⟨b', cap', cur, e12, hb', hheap, htk⟩ := f12
    simp only [e12]
    have hT3 := hT2.below hbq
    obtain ⟨⟨k0, k1, k2⟩, m0, m1, m2⟩ := hT3.facts
    clear c0 c1 c2 f0 f1 f2
    have hne : b' ≠ g := by omega
    have hT4 := hT3.set2 (.slice (some ⟨b', 0, none⟩) 1 cap')
    obtain ⟨⟨d0, d1, d2⟩, n0, n1, n2⟩ := hT4.facts
    clear n0 n1 n2 d0 d2
    go_wp2
    go_ret2
    have hh4 : (wq.setCell ⟨g, 2, none⟩ (.slice (some ⟨b', 0, none⟩) 1 cap')).heap[b']? = _ := (heap_setCell_other wq _ _ _ hne).trans hheap
    obtain ⟨l⟩ := cur
    match l, htk with
    | [], htk => simp at htk
    | [_], htk => simp at htk
    | a :: c :: l, htk =>
      simp only [List.take_succ_cons, List.take_zero, List.cons.injEq, and_true] at htk
      obtain ⟨rfl, rfl⟩ := htk
      exact ⟨rfl, b', cap', hT4, (cell_of_row _ b' 0 _ _ _ hh4).trans rfl, (cell_of_row _ b' 1 _ _ _ hh4).trans rfl, (Array.getElem?_eq_some_iff.1 hh4).1, fun G hG hGw => by
        have s1 := (hB1 G hG hGw).setCell (p := ⟨g, 1, none⟩) (by exact hG) (.int .i64 1)
        rw [hw2] at s1
        exact (s1.trans (hbq.mono (Nat.le_trans hGw s1.size))).setCell (by exact hG) _⟩
end Go.Proofs.Ytdgdmlchegjejaa.TabB
