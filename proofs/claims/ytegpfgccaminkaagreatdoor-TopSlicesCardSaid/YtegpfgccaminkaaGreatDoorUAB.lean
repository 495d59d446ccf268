/- Texts that belong together: TbK, TbB. -/
import Derived.Test.YtegpfgccaminkaaGreatDoorUAA
import Derived.Laws.OwnMore
import Derived.Laws.CopyRow
import Derived.BigQuiet
import Derived.Deep.QuietTactic
import Derived.Deep.WholeRow
set_option linter.unusedSimpArgs false
set_option linter.unusedVariables false
namespace Go.Proofs.YtegpfgccaminkaaGreatDoor.TbK
open Go.RowKit Base Base2 Base3 Regs
def encP (g : Nat) : Value := .pointer (some ⟨g, 0, none⟩)
section
variable {α : Type} (enc : α → Value)
def flat (l : List (Nat × α)) : List Value := l.flatMap fun p => [.int .i64 (p.1 : Int), enc p.2]
theorem flat_nil : flat enc [] = [] := rfl
theorem flat_cons (p : Nat × α) (l : List (Nat × α)) : flat enc (p :: l) = .int .i64 (p.1 : Int) :: enc p.2 :: flat enc l := rfl
theorem flat_append (a b : List (Nat × α)) : flat enc (a ++ b) = flat enc a ++ flat enc b := by simp [flat]
theorem flat_length (l : List (Nat × α)) : (flat enc l).length = l.length * 2 := by
 induction l with
 | nil => rfl
 | cons p l ih => rw [flat_cons]; simp [ih]; omega
theorem flat_take (l : List (Nat × α)) (k : Nat) : (flat enc l).take (k * 2) = flat enc (l.take k) := by
 induction l generalizing k with
 | nil => simp [flat_nil]
 | cons p l ih =>
  cases k with
  | zero => simp [flat_nil]
  | succ k => rw [Nat.succ_mul, flat_cons, List.take_succ_cons, List.take_succ_cons, ih, List.take_succ_cons, flat_cons]
theorem flat_drop (l : List (Nat × α)) (k : Nat) : (flat enc l).drop (k * 2) = flat enc (l.drop k) := by
 induction l generalizing k with
 | nil => simp [flat_nil]
 | cons p l ih =>
  cases k with
  | zero => simp
  | succ k => rw [Nat.succ_mul, flat_cons, List.drop_succ_cons, List.drop_succ_cons, ih, List.drop_succ_cons]
theorem flat_at (l : List (Nat × α)) (k : Nat) (h : k < l.length) : (flat enc l)[k * 2]? = some (.int .i64 (l[k].1 : Int)) ∧ (flat enc l)[k * 2 + 1]? = some (enc l[k].2) := by
 have e : flat enc (l.drop k) = .int .i64 (l[k].1 : Int) :: enc l[k].2 :: flat enc (l.drop (k + 1)) := by rw [List.drop_eq_getElem_cons h, flat_cons]
 rw [← flat_drop] at e
 constructor
 ·have := congrArg (fun x => x[0]?) e
  simpa using this
 ·have := congrArg (fun x => x[1]?) e
  simpa using this
theorem flat_one (h1 : ∀ x, (enc x).oneCell' = true) (l : List (Nat × α)) : ∀ u ∈ flat enc l, u.oneCell' = true := by
 intro u hu
 simp only [flat, List.mem_flatMap, List.mem_cons, List.not_mem_nil, or_false] at hu
 obtain ⟨p, _, rfl | rfl⟩ := hu
 ·rfl
 ·exact h1 _
end
def idx {α : Type} (l : List (Nat × α)) (h : Int) : Option Nat := l.findIdx? fun p => decide ((p.1 : Int) = h)
theorem idx_some {α : Type} {l : List (Nat × α)} {h : Int} {k : Nat} (e : idx l h = some k) : ∃ hk : k < l.length, (l[k].1 : Int) = h ∧ ∀ j (hj : j < k), ¬ ((l[j]'(Nat.lt_trans hj hk)).1 : Int) = h := by
 unfold idx at e
 rw [List.findIdx?_eq_some_iff_getElem] at e
 obtain ⟨hk, h1, h2⟩ := e
 exact ⟨hk, by simpa using h1, fun j hj => by simpa using h2 j hj⟩
theorem idx_none {α : Type} {l : List (Nat × α)} {h : Int} (e : idx l h = none) : ∀ k (hk : k < l.length), ¬ (l[k].1 : Int) = h := by
 unfold idx at e
 rw [List.findIdx?_eq_none_iff] at e
 intro k hk
 have := e l[k] (List.getElem_mem _)
 simpa using this
def Kp (T E : TypeId) (w w' : World) : Prop := ∀ (k : Nat) (o : Obj), w.heap[k]? = some o → (∀ cs m, o ≠ .cells cs T m ∧ o ≠ .cells cs E m) → w'.heap[k]? = some o
theorem Kp.trans {T E : TypeId} {a b c : World} (h : Kp T E a b) (k : Kp T E b c) : Kp T E a c := fun i o e h1 => k i o (h i o e h1) h1
theorem Kp.below {T E : TypeId} {w w' : World} (hb : Below w.heap.size w w') : Kp T E w w' := fun k o h _ => (hb.block k (Array.getElem?_eq_some_iff.1 h).1).trans h
theorem Kp.cells {T E : TypeId} {w w' : World} (h : Kp T E w w') {k : Nat} {cs : Array Value} {t : TypeId} {m : Nat × Nat} (e : w.heap[k]? = some (.cells cs t m)) (h1 : t ≠ T) (h2 : t ≠ E) : w'.heap[k]? = some (.cells cs t m) := h k _ e fun cs' m' => ⟨fun x => by injection x with _ x; exact h1 x, fun x => by injection x with _ x; exact h2 x⟩
theorem Kp.set {T E : TypeId} {w : World} {g i : Nat} {x : Value} {C : Array Value} {mk : Nat × Nat} {t : TypeId} (h : w.heap[g]? = some (.cells C t mk)) (ht : t = T ∨ t = E) : Kp T E w (w.setCell ⟨g, i, none⟩ x) := fun k o e h1 => by
 have hne : k ≠ g := by
  rintro rfl
  rw [h] at e
  injection e with e
  subst e
  rcases ht with rfl | rfl
  ·exact (h1 C mk).1 rfl
  ·exact (h1 C mk).2 rfl
 exact (heap_setCell_other w ⟨g, i, none⟩ k x hne).trans e
theorem Kp.grown {T E : TypeId} {w w' : World} {B n m : Nat} {v : Value} {xs : List Value} (ho : w.ownsRow B E n v m xs) (hg : w.grownBy w' v.ownBlock) : Kp T E w w' := fun k o e h1 => by
 have hlt := (Array.getElem?_eq_some_iff.1 e).1
 refine (hg.block k hlt fun hk => ?_).trans e
 rcases ho.2 with ⟨rfl, _⟩ | ⟨b, cap, cur, rfl, _, hb, _⟩
 ·cases hk
 ·have e2 : k = b := by injection hk
  subst e2
  rw [hb] at e
  injection e with e
  exact (h1 cur (0, 0)).2 e.symm
theorem Kp.owns {T E : TypeId} {w w' : World} (h : Kp T E w w') {B n m : Nat} {E' : TypeId} {v : Value} {xs : List Value} (ho : w.ownsRow B E' n v m xs) (h1 : E' ≠ T) (h2 : E' ≠ E) : w'.ownsRow B E' n v m xs := by
 refine ⟨ho.1, ?_⟩
 rcases ho.2 with h' | ⟨b, cap, cur, rfl, hB, hb, r⟩
 ·exact .inl h'
 ·exact .inr ⟨b, cap, cur, rfl, hB, h.cells hb h1 h2, r⟩
def IsT (T E : TypeId) {α : Type} (enc : α → Value) (B g room last : Nat) (l : List (Nat × α)) (w : World) : Prop := ∃ v, w.heap[g]? = some (.cells #[.int .i64 (room : Int), .int .i64 (last : Int), v] T (0, 0)) ∧ w.ownsRow B E 2 v l.length (flat enc l) ∧ B ≤ g
section
variable {T E : TypeId} {α : Type} {enc : α → Value} {B g room last : Nat} {l : List (Nat × α)} {w w' : World}
theorem own_ne (hTE : T ≠ E) {v : Value} {n m : Nat} {xs : List Value} {C : Array Value} {mk : Nat × Nat} (h : w.heap[g]? = some (.cells C T mk)) (ho : w.ownsRow B E n v m xs) : v.ownBlock ≠ some g := by
 rcases ho.2 with ⟨rfl, _⟩ | ⟨b, cap, cur, rfl, _, hb, _⟩
 ·intro h; cases h
 ·intro e
  injection e with e
  have e : b = g := e
  subst e
  rw [h] at hb
  injection hb with hb
  injection hb with _ hb
  exact hTE hb
theorem IsT.lt (h : IsT T E enc B g room last l w) : g < w.heap.size := by obtain ⟨v, h, _⟩ := h; exact (Array.getElem?_eq_some_iff.1 h).1
theorem IsT.below (h : IsT T E enc B g room last l w) (hb : Below w.heap.size w w') : IsT T E enc B g room last l w' := by
 have hl := h.lt
 obtain ⟨v, h1, h2, h3⟩ := h
 exact ⟨v, (hb.block g hl).trans h1, owns_below h2 hb, h3⟩
theorem IsT.kp {T' E' : TypeId} (h : IsT T E enc B g room last l w) (hk : Kp T' E' w w') (h1 : T ≠ T') (h2 : T ≠ E') (h3 : E ≠ T') (h4 : E ≠ E') : IsT T E enc B g room last l w' := by
 obtain ⟨v, a, b, c⟩ := h
 exact ⟨v, hk.cells a h1 h2, hk.owns b h3 h4, c⟩
theorem own_set {v x : Value} {n m i : Nat} {xs : List Value} (ho : w.ownsRow B E n v m xs) (hne : v.ownBlock ≠ some g) : (w.setCell ⟨g, i, none⟩ x).ownsRow B E n v m xs := by
 refine ⟨ho.1, ?_⟩
 rcases ho.2 with h | ⟨b, cap, cur, rfl, hB, hb, r⟩
 ·exact .inl h
 ·exact .inr ⟨b, cap, cur, rfl, hB, (heap_setCell_other w _ _ _ (fun e => hne (congrArg some e))).trans hb, r⟩
end
theorem cells3 {w : World} {g : Nat} {a b c : Value} {T : TypeId} {mk : Nat × Nat} (h : w.heap[g]? = some (.cells #[a, b, c] T mk)) : w.cell? ⟨g, 0, none⟩ = some a ∧ w.cell? ⟨g, 1, none⟩ = some b ∧ w.cell? ⟨g, 2, none⟩ = some c :=
 ⟨(cell_of_row w g 0 _ _ _ h).trans rfl, (cell_of_row w g 1 _ _ _ h).trans rfl, (cell_of_row w g 2 _ _ _ h).trans rfl⟩
theorem thaw3 {w : World} {g : Nat} {a b c : Value} {T : TypeId} (h : w.heap[g]? = some (.cells #[a, b, c] T (0, 0))) : w.frozen? ⟨g, 0, none⟩ = false ∧ w.frozen? ⟨g, 1, none⟩ = false ∧ w.frozen? ⟨g, 2, none⟩ = false :=
 ⟨frozen_of_row w g 0 _ _ h, frozen_of_row w g 1 _ _ h, frozen_of_row w g 2 _ _ h⟩
theorem own_form {E : TypeId} {B n m : Nat} {w : World} {v : Value} {xs : List Value} (h : w.ownsRow B E n v m xs) : ∃ A c, v = .slice A m c ∧ m ≤ c := by
 rcases h.2 with ⟨rfl, h0⟩ | ⟨b, cap, cur, rfl, hB, hb, h1, _⟩
 ·exact ⟨none, 0, by rw [h0], by omega⟩
 ·exact ⟨_, cap, rfl, h1⟩
theorem own_block {E : TypeId} {B n m b c : Nat} {w : World} {xs : List Value} (h : w.ownsRow B E n (.slice (some ⟨b, 0, none⟩) m c) m xs) : ∃ cur, w.heap[b]? = some (.cells cur E (0, 0)) ∧ cur.size = c * n ∧ cur.toList.take (m * n) = xs := by
 rcases h.2 with ⟨h0, _⟩ | ⟨b', cap, cur, e, hB, hb, h1, h2, h3, h4⟩
 ·cases h0
 ·injection e with e1 _ e3
  injection e1 with e1
  injection e1 with e1
  subst e1 e3
  exact ⟨cur, hb, h3, h4⟩
theorem run_clear_two {P : Program} (w : World) (t e ty : TypeId) (z0 z1 : Value) (ht : P.underlying t = some (.slice e)) (hv : ∀ w, (zeroValue e).run P w = .ok (.agg #[z0, z1]) w) (hc : (Value.agg #[z0, z1]).cells = #[z0, z1]) (h0 : z0.oneCell' = true) (h1 : z1.oneCell' = true)
  (b o c : Nat) (cur : Array Value) (E : TypeId) (hb : w.heap[b]? = some (.cells cur E (0, 0))) (hs : o + 2 ≤ cur.size) :
  (Builtin.clear_ #[t] ty #[.slice (some ⟨b, o, none⟩) 1 c]).run P w = .ok (.tuple #[]) (w.setRow b (cur.toList.take o ++ [z0, z1] ++ cur.toList.drop (o + 2)).toArray) := by
 have hst := run_storeCells_at P b o E [z0, z1] 0 cur w hb (by simpa using hs) (by intro v hv'; simp at hv'; rcases hv' with rfl | rfl <;> assumption)
 have hz : (Builtin.zeroCells #[z0, z1] 1).toList = [z0, z1] := by simp [Builtin.zeroCells, Array.range, Array.ofFn]; rfl
 simp only [Nat.add_zero, List.length_cons, List.length_nil, Nat.zero_add, Nat.reduceAdd] at hst
 simp [Builtin.clear_, run_underlying ht, hv, hc, hz, hst]
def one2 (x y : Value) : Keep := ⟨fun u w => ∃ b, u = .slice (some ⟨b, 0, none⟩) 1 1 ∧ b < w.heap.size ∧ w.cell? ⟨b, 0, none⟩ = some x ∧ w.cell? ⟨b, 1, none⟩ = some y, fun _ _ _ hb ⟨b, h1, h2, h3, h4⟩ => ⟨b, h1, Nat.lt_of_lt_of_le h2 hb.size, (hb.cell (p := ⟨b, 0, none⟩) h2).trans h3, (hb.cell (p := ⟨b, 1, none⟩) h2).trans h4⟩⟩
theorem own_cells {E : TypeId} {α : Type} {enc : α → Value} {B : Nat} {w : World} {v : Value} {l : List (Nat × α)} (h : w.ownsRow B E 2 v l.length (flat enc l)) : ∃ A c, v = .slice A l.length c ∧ l.length ≤ c ∧ c ≤ maxLen ∧ ∀ k (hk : k < l.length), ∃ b, A = some ⟨b, 0, none⟩ ∧ b < w.heap.size ∧ w.cell? ⟨b, k * 2, none⟩ = some (.int .i64 (l[k].1 : Int)) ∧ w.cell? ⟨b, k * 2 + 1, none⟩ = some (enc l[k].2) := by
 rcases h.2 with ⟨rfl, h0⟩ | ⟨b, cap, cur, rfl, hB, hb, h1, h2, h3, h4⟩
 ·exact ⟨none, 0, by rw [h0], by omega, Nat.zero_le _, fun k hk => absurd hk (by omega)⟩
 ·refine ⟨_, cap, rfl, h1, h2, fun k hk => ⟨b, rfl, (Array.getElem?_eq_some_iff.1 hb).1, ?_, ?_⟩⟩
  ·rw [cell_of_row w b _ cur E (0, 0) hb, ← (flat_at enc l k hk).1, ← h4, List.getElem?_take, if_pos (by omega), Array.getElem?_toList]
  ·rw [cell_of_row w b _ cur E (0, 0) hb, ← (flat_at enc l k hk).2, ← h4, List.getElem?_take, if_pos (by omega), Array.getElem?_toList]
end Go.Proofs.YtegpfgccaminkaaGreatDoor.TbK
namespace Go.Proofs.YtegpfgccaminkaaGreatDoor.TbB
open Go.RowKit Base Base2 Base3 Regs TbK
theorem info_e3 : (Tryz.prog.info? 134).map (fun i => (i.zero, i.size, i.bytes)) = some (some (.agg #[.int .i64 0, .pointer none]), 2, 16) := by kernel_rfl
theorem info_e : (Tryz.prog.info? 134).map (fun i => (i.zero, i.size)) = some (some (.agg #[.int .i64 0, .pointer none]), 2) := by kernel_rfl
set_option maxRecDepth 100000 in
set_option maxHeartbeats 4000000 in
theorem put_any (B g room last : Nat) (l : List (Nat × Nat)) (x : Nat) (w : World) (h : IsT 126 134 (TbK.encP) B g room last l w) (hr : l.length < room) (hm : room ≤ 64) (hlast : last ≤ 100000) :
  Calls Tryz.prog 37 #[.pointer (some ⟨g, 0, none⟩), .pointer (some ⟨x, 0, none⟩)] w fun e w' => e = .returned (.tuple #[.int .i64 ((last : Int) + 1), .int .i64 0]) ∧ IsT 126 134 (TbK.encP) B g room (last + 1) (l ++ [(last + 1, x)]) w' ∧ Below B w w' ∧ Kp 126 134 w w' := by
 obtain ⟨i0, hi0, hz0, hz1, hz2⟩ := info_parts info_e3
 have hlt := h.lt
 obtain ⟨v, hv, hown, hBg⟩ := h
 obtain ⟨A, c, rfl, hnc, hcm, _⟩ := own_cells hown
 obtain ⟨c0, c1, c2⟩ := cells3 hv
 obtain ⟨f0, f1, f2⟩ := thaw3 hv
 have hroom : ¬ (room : Int) ≤ (l.length : Int) := by omega
 have hll : (l.length : Int) ≤ 64 := by omega
 have hlasti : (last : Int) ≤ 100000 := by omega
 go_enter Tryz.func37, Tryz.ntmps37
 go_wp2_with fail
 go_quiet (fail)
 have hv1 : (w.drewN nq).heap[g]? = some (.cells #[.int .i64 (room : Int), .int .i64 (last : Int), .slice A l.length c] 126 (0, 0)) := by rw [World.heap_drewN]; exact hv
 have hb1 : Below w.heap.size w (w.drewN nq) := Base.below_drewN (Below.refl _ _) _
 have hown1 := owns_below hown hb1
 generalize w.drewN nq = w1 at hv1 hown1 hb1 ⊢
 clear c0 c1 c2 f0 f1 f2
 obtain ⟨c0, c1, c2⟩ := cells3 hv1
 obtain ⟨f0, f1, f2⟩ := thaw3 hv1
 go_wp2_with fail
 have hv2 := heap_setCell_same w1 g 1 _ _ (.int .i64 ((last : Int) + 1)) hv1
 have hown2 := own_set (g := g) (i := 1) (x := .int .i64 ((last : Int) + 1)) hown1 (own_ne (by decide) hv1 hown1)
 have HBW : Hid (Below B w (w1.setCell ⟨g, 1, none⟩ (.int .i64 ((last : Int) + 1)))) := (hb1.mono (by omega)).setCell (p := ⟨g, 1, none⟩) hBg _
 have HKW : Hid (Kp 126 134 w (w1.setCell ⟨g, 1, none⟩ (.int .i64 ((last : Int) + 1)))) := (Kp.below hb1).trans (Kp.set hv1 (.inl rfl))
 generalize hw2 : w1.setCell _ _ = w2 at hv2 hown2 HBW HKW ⊢
 clear c0 c1 c2 f0 f1 f2 hw2 hv hown hv1 hown1 hb1
 have HV : Hid (w2.heap[g]? = some (.cells #[.int .i64 (room : Int), .int .i64 ((last : Int) + 1), .slice A l.length c] 126 (0, 0))) := by show _ = _; simpa using hv2
 obtain ⟨c0, c1, c2⟩ := cells3 HV.out
 have HO := hid hown2
 have HLT : Hid (g < w2.heap.size) := (Array.getElem?_eq_some_iff.1 HV.out).1
 have HBL : Hid (B ≤ w.heap.size) := by show _ ≤ _; omega
 clear hv2 hown2
 generalize decide (room ≤ l.length) = dd
 refine wp_region_any (by kernel_rfl) ?_
 change wpAny _ _ _ _ _ _ _ (World.drew _)
 refine wpAny_take (i := 0) (v := (.pointer (some ⟨g, 0, none⟩))) rfl (by kernel_rfl) (by kernel_rfl) (by kernel_rfl) (fun _ _ _ h => h) (Or.inl ⟨by rfl, ?yy0⟩) ?_
 case yy0 => (intro w; go_simp; try with_reducible rfl)
 simp only [List.getElem_toArray, List.getElem_cons_zero, List.getElem_cons_succ, Act.put, List.setIfInBounds_toArray, List.set_cons_zero, List.set_cons_succ]
 refine wpAny_go 12 [is (.pointer (some ⟨g, 0, none⟩)), is (.pointer (some ⟨g, 0, none⟩)), is (.pointer (some ⟨g, 0, none⟩)), is (.pointer (some ⟨g, 2, none⟩)), is (.slice A l.length c), is (.pointer (some ⟨g, 0, none⟩)), is (.pointer (some ⟨g, 0, none⟩)), is (.pointer (some ⟨g, 1, none⟩)), is (.int .i64 ((last : Int) + 1)), is (.pointer (some ⟨x, 0, none⟩)), is (.agg #[.int .i64 ((last : Int) + 1), .pointer (some ⟨x, 0, none⟩)]), one2 (.int .i64 ((last : Int) + 1)) (.pointer (some ⟨x, 0, none⟩))] [[], [], [1], [1, 2], [1, 2, 3], [], [5], [5, 6], [5, 6, 7], [], [5, 6, 7, 8, 9], [5, 6, 7, 8, 9, 10], [1, 2, 3, 4, 5, 6, 7, 8, 9, 10, 11]] [0] (by kernel_rfl) (by kernel_rfl) (by kernel_rfl) ?_ ?_ ?_
 ·intro k hk; simp only [List.mem_cons, List.not_mem_nil, or_false] at hk; subst hk; rfl
 ·refine ⟨?_, ?_, ?_, ?_, ?_, ?_, ?_, ?_, ?_, ?_, ?_, ?_, trivial⟩
  ·intro t wq hbq hh K hK
   clear hh
   simp only [filled, filledN, upd, Have, is, any, row, pick, Act.put, List.setIfInBounds_toArray, List.set_cons_zero, List.set_cons_succ, Nat.reduceAdd, Nat.reduceEqDiff, reduceIte] at hK ⊢
   go_simp
   exact hK _ _ (Below.refl _ _) rfl
  ·intro t wq hbq hh K hK
   clear hh
   simp only [filled, filledN, upd, Have, is, any, row, pick, Act.put, List.setIfInBounds_toArray, List.set_cons_zero, List.set_cons_succ, Nat.reduceAdd, Nat.reduceEqDiff, reduceIte] at hK ⊢
   go_simp
   exact hK _ _ (Below.refl _ _) rfl
  ·intro t wq hbq hh K hK
   have e1 := hh.1
   simp only [pick] at e1
   replace e1 : t 1 = (.pointer (some ⟨g, 0, none⟩)) := e1
   clear hh
   simp only [filled, filledN, upd, Have, is, any, row, pick, Act.put, List.setIfInBounds_toArray, List.set_cons_zero, List.set_cons_succ, Nat.reduceAdd, Nat.reduceEqDiff, reduceIte] at hK ⊢
   simp only [e1] at hK ⊢
   go_simp
   exact hK _ _ (Below.refl _ _) rfl
  ·intro t wq hbq hh K hK
   have e2 := hh.2.1
   simp only [pick] at e2
   replace e2 : t 2 = (.pointer (some ⟨g, 0, none⟩)) := e2
   clear hh
   simp only [filled, filledN, upd, Have, is, any, row, pick, Act.put, List.setIfInBounds_toArray, List.set_cons_zero, List.set_cons_succ, Nat.reduceAdd, Nat.reduceEqDiff, reduceIte] at hK ⊢
   simp only [e2] at hK ⊢
   go_simp
   exact hK _ _ (Below.refl _ _) rfl
  ·intro t wq hbq hh K hK
   have e3 := hh.2.2.1
   simp only [pick] at e3
   replace e3 : t 3 = (.pointer (some ⟨g, 2, none⟩)) := e3
   clear hh
   simp only [filled, filledN, upd, Have, is, any, row, pick, Act.put, List.setIfInBounds_toArray, List.set_cons_zero, List.set_cons_succ, Nat.reduceAdd, Nat.reduceEqDiff, reduceIte] at hK ⊢
   simp only [e3] at hK ⊢
   have hq := (hbq.cell (p := ⟨g, 2, none⟩) HLT.out).trans c2
   go_simp
   exact hK _ _ (Below.refl _ _) rfl
  ·intro t wq hbq hh K hK
   clear hh
   simp only [filled, filledN, upd, Have, is, any, row, pick, Act.put, List.setIfInBounds_toArray, List.set_cons_zero, List.set_cons_succ, Nat.reduceAdd, Nat.reduceEqDiff, reduceIte] at hK ⊢
   go_simp
   exact hK _ _ (Below.refl _ _) rfl
  ·intro t wq hbq hh K hK
   have e5 := hh.1
   simp only [pick] at e5
   replace e5 : t 5 = (.pointer (some ⟨g, 0, none⟩)) := e5
   clear hh
   simp only [filled, filledN, upd, Have, is, any, row, pick, Act.put, List.setIfInBounds_toArray, List.set_cons_zero, List.set_cons_succ, Nat.reduceAdd, Nat.reduceEqDiff, reduceIte] at hK ⊢
   simp only [e5] at hK ⊢
   go_simp
   exact hK _ _ (Below.refl _ _) rfl
  ·intro t wq hbq hh K hK
   have e6 := hh.2.1
   simp only [pick] at e6
   replace e6 : t 6 = (.pointer (some ⟨g, 0, none⟩)) := e6
   clear hh
   simp only [filled, filledN, upd, Have, is, any, row, pick, Act.put, List.setIfInBounds_toArray, List.set_cons_zero, List.set_cons_succ, Nat.reduceAdd, Nat.reduceEqDiff, reduceIte] at hK ⊢
   simp only [e6] at hK ⊢
   go_simp
   exact hK _ _ (Below.refl _ _) rfl
  ·intro t wq hbq hh K hK
   have e7 := hh.2.2.1
   simp only [pick] at e7
   replace e7 : t 7 = (.pointer (some ⟨g, 1, none⟩)) := e7
   clear hh
   simp only [filled, filledN, upd, Have, is, any, row, pick, Act.put, List.setIfInBounds_toArray, List.set_cons_zero, List.set_cons_succ, Nat.reduceAdd, Nat.reduceEqDiff, reduceIte] at hK ⊢
   simp only [e7] at hK ⊢
   have hq := (hbq.cell (p := ⟨g, 1, none⟩) HLT.out).trans c1
   go_simp
   exact hK _ _ (Below.refl _ _) rfl
  ·intro t wq hbq hh K hK
   clear hh
   simp only [filled, filledN, upd, Have, is, any, row, pick, Act.put, List.setIfInBounds_toArray, List.set_cons_zero, List.set_cons_succ, Nat.reduceAdd, Nat.reduceEqDiff, reduceIte] at hK ⊢
   go_simp
   exact hK _ _ (Below.refl _ _) rfl
  ·intro t wq hbq hh K hK
   have e8 := hh.2.2.2.1
   simp only [pick] at e8
   replace e8 : t 8 = (.int .i64 ((last : Int) + 1)) := e8
   have e9 := hh.2.2.2.2.1
   simp only [pick] at e9
   replace e9 : t 9 = (.pointer (some ⟨x, 0, none⟩)) := e9
   clear hh
   simp only [filled, filledN, upd, Have, is, any, row, pick, Act.put, List.setIfInBounds_toArray, List.set_cons_zero, List.set_cons_succ, Nat.reduceAdd, Nat.reduceEqDiff, reduceIte] at hK ⊢
   simp only [e8, e9] at hK ⊢
   go_simp
   exact hK _ _ (Below.refl _ _) rfl
  ·intro t wq hbq hh K hK
   have e10 := hh.2.2.2.2.2.1
   simp only [pick] at e10
   replace e10 : t 10 = (.agg #[.int .i64 ((last : Int) + 1), .pointer (some ⟨x, 0, none⟩)]) := e10
   clear hh
   simp only [filled, filledN, upd, Have, is, any, row, pick, Act.put, List.setIfInBounds_toArray, List.set_cons_zero, List.set_cons_succ, Nat.reduceAdd, Nat.reduceEqDiff, reduceIte] at hK ⊢
   simp only [e10] at hK ⊢
   go_simp
   go_simp
   exact hK _ _ ((Below.refl _ _).alloc (Nat.le_refl _) _) ⟨wq.heap.size, rfl, by simp, (cell_of_row _ wq.heap.size 0 _ _ _ (heap_alloc_new wq _)).trans rfl, (cell_of_row _ wq.heap.size 1 _ _ _ (heap_alloc_new wq _)).trans rfl⟩
 ·intro t wq hbq hh
  have f0 := have_get hh 0 (by decide)
  simp only [pick] at f0
  replace f0 : t 0 = (.pointer (some ⟨g, 0, none⟩)) := f0
  have f4 := have_get hh 4 (by decide)
  simp only [pick] at f4
  replace f4 : t 4 = (.slice A l.length c) := f4
  have f11 := have_get hh 11 (by decide)
  simp only [pick] at f11
  clear hh
  simp only [filled, filledN, upd, Have, is, any, row, pick, Act.put, List.setIfInBounds_toArray, List.set_cons_zero, List.set_cons_succ, Nat.reduceAdd, Nat.reduceEqDiff, reduceIte]
  simp only [f0, f4]
  obtain ⟨b, f11, hbl, q0, q1⟩ := f11
  simp only [f11]
  have hvq : wq.heap[g]? = some (.cells #[.int .i64 (room : Int), .int .i64 ((last : Int) + 1), .slice A l.length c] 126 (0, 0)) := (hbq.block g HLT.out).trans HV.out
  have hoq : wq.ownsRow B 134 2 (.slice A l.length c) l.length (flat (TbK.encP) l) := owns_below (w := w2.drew) HO.out hbq
  have hlq : g < wq.heap.size := Nat.lt_of_lt_of_le HLT.out hbq.size
  have HVQ := hid hvq
  have HLQ := hid hlq
  have Q0 := hid q0
  have Q1 := hid q1
  clear hvq hlq q0 q1
  show wpList _ _ _ [_, _, _, _] _ _
  refine wpList_append_own _ rfl _ _ 124 rfl B 134 i0 _ 2 16 Tryz.underlying124 hi0 hz0 hz1 hz2 rfl (by decide) (.slice A l.length c) l.length (flat (TbK.encP) l) rfl hoq ⟨b, 0, none⟩ 1 1 [.int .i64 ((last : Int) + 1), .pointer (some ⟨x, 0, none⟩)] rfl rfl ?d1 (by intro u hu; simp at hu; rcases hu with rfl | rfl <;> rfl) ?d2 ?d3 ?d4 ?_
  case d1 => intro j u hj; match j, hj with | 0, hj => (simp at hj; subst hj; simpa [Addr.add] using Q0.out) | 1, hj => (simp at hj; subst hj; simpa [Addr.add] using Q1.out)
  case d2 => unfold maxLen; omega
  case d3 => omega
  case d4 => have := HLQ.out; omega
  intro v' w4 hown' hgrow _
  have hv4 : w4.heap[g]? = some (.cells #[.int .i64 (room : Int), .int .i64 ((last : Int) + 1), .slice A l.length c] 126 (0, 0)) := (hgrow.block g HLQ.out (fun e => own_ne (by decide) HVQ.out hoq e.symm)).trans HVQ.out
  have hbw4 : Below B w w4 := (HBW.out.drew.trans (hbq.mono (Nat.le_trans HBL.out HBW.out.size))).grown hgrow (by have := HLQ.out; omega) (fun k hk => (hoq.lt k hk).1)
  have hkp4 : Kp 126 134 w w4 := ((show Kp 126 134 w w2.drew from HKW.out).trans (Kp.below hbq)).trans (Kp.grown hoq hgrow)
  have hT5 := heap_setCell_same w4 g 2 _ _ v' hv4
  have hown5 : (w4.setCell ⟨g, 2, none⟩ v').ownsRow B 134 2 v' (l.length + 1) (flat (TbK.encP) l ++ [.int .i64 ((last : Int) + 1), .pointer (some ⟨x, 0, none⟩)]) := own_set hown' (own_ne (by decide) hv4 hown')
  have H5 : Hid (IsT 126 134 (TbK.encP) B g room (last + 1) (l ++ [(last + 1, x)]) (w4.setCell ⟨g, 2, none⟩ v')) := by
   refine ⟨v', by simpa using hT5, ?_, hBg⟩
   rw [List.length_append, flat_append]
   exact hown5
  have HB5 : Hid (Below B w (w4.setCell ⟨g, 2, none⟩ v')) := hbw4.setCell (p := ⟨g, 2, none⟩) hBg _
  have HK5 : Hid (Kp 126 134 w (w4.setCell ⟨g, 2, none⟩ v')) := hkp4.trans (Kp.set hv4 (.inl rfl))
  obtain ⟨k0, k1, k2⟩ := cells3 hv4
  obtain ⟨m0, m1, m2⟩ := thaw3 hv4
  obtain ⟨n0, n1, n2⟩ := cells3 hT5
  obtain ⟨vA, vc, hvf, _⟩ := own_form hown'
  subst hvf
  clear hoq hown' hgrow hv4 hbw4 hkp4 hT5 hown5
  go_wp2
  go_ret2
  exact ⟨rfl, H5.out, HB5.out, HK5.out⟩
theorem put_full (B g room last : Nat) (l : List (Nat × Nat)) (x : Nat) (w : World) (h : IsT 126 134 (TbK.encP) B g room last l w) (hr : room ≤ l.length) (hm : l.length ≤ 64) :
  Calls Tryz.prog 37 #[.pointer (some ⟨g, 0, none⟩), .pointer (some ⟨x, 0, none⟩)] w fun e w' => e = .returned (.tuple #[.int .i64 0, .int .i64 4]) ∧ Below w.heap.size w w' := by
 obtain ⟨v, hv, hown, hBg⟩ := h
 obtain ⟨A, c, rfl, hnc, hcm, _⟩ := own_cells hown
 obtain ⟨c0, c1, c2⟩ := cells3 hv
 have hroom : (room : Int) ≤ (l.length : Int) := by omega
 have hll : (l.length : Int) ≤ 64 := by omega
 go_enter Tryz.func37, Tryz.ntmps37
 go_wp2_with fail
 go_quiet (fail)
 go_wp2
 go_ret2
 exact ⟨rfl, Base.below_drewN (Below.refl _ _) _⟩
theorem find1_any (hb k : Nat) (x : Nat) (h : Int) (w : World) (hc : w.cell? ⟨hb, 0, none⟩ = some (.int .i64 h)) : Calls Tryz.prog 95 #[.agg #[.int .i64 (k : Int), .pointer (some ⟨x, 0, none⟩)], .pointer (some ⟨hb, 0, none⟩)] w fun e w' => e = .returned (.bool (decide ((k : Int) = h))) ∧ Below w.heap.size w w' := by
 have hlt := World.block_lt_of_cell? w _ hc
 go_enter Tryz.func95, Tryz.ntmps95
 go_wp2
 go_ret
 exact ⟨ret_bool (by rw [Bool.eq_iff_iff]; simp), (Below.refl _ _).alloc (Nat.le_refl _) _⟩
def plc : Option Nat → Int
 | none => -1
 | some k => k
set_option maxHeartbeats 1000000 in
theorem index_any (A : Option Addr) (c hb : Nat) (l : List (Nat × Nat)) (h : Int) (w : World) (hl : l.length ≤ 64)
  (hcell : ∀ k (hk : k < l.length), ∃ b, A = some ⟨b, 0, none⟩ ∧ b < w.heap.size ∧ w.cell? ⟨b, k * 2, none⟩ = some (.int .i64 (l[k].1 : Int)) ∧ w.cell? ⟨b, k * 2 + 1, none⟩ = some ((TbK.encP) l[k].2)) (hc : w.cell? ⟨hb, 0, none⟩ = some (.int .i64 h)) :
  Calls Tryz.prog 94 #[.slice A l.length c, .func (.func 95) #[] #[.pointer (some ⟨hb, 0, none⟩)]] w fun e w' => e = .returned (.int .i64 (plc (idx l h))) ∧ Below w.heap.size w w' := by
 have hhb := World.block_lt_of_cell? w _ hc
 have HC := hid hcell
 have HH := hid hc
 have hlli : (l.length : Int) ≤ 64 := by omega
 clear hcell hc
 rcases Nat.eq_zero_or_pos l.length with h0 | h0
 ·have hi : idx l h = none := by
   have : l = [] := List.eq_nil_of_length_eq_zero h0
   subst this
   rfl
  rw [hi]
  go_enter Tryz.func94, Tryz.ntmps94
  go_wp2
  go_loopw [5, 8] (fun _ vk wr => vk = .int .i64 0 ∧ wr = w) (fun _ _ _ => 0)
  case atStart => exact ⟨rfl, rfl⟩
  case round =>
   obtain ⟨rfl, rfl⟩ := hrel
   go_wp2
   go_ret
   exact ⟨rfl, Below.refl _ _⟩
 ·obtain ⟨b, rfl, hbl, _⟩ := HC.out 0 h0
  go_enter Tryz.func94, Tryz.ntmps94
  go_wp2
  go_loopw [5, 8] (fun _ vk wr => ∃ j : Nat, j ≤ l.length ∧ vk = .int .i64 (j : Int) ∧ Hid (Below w.heap.size w wr) ∧ Hid (∀ k (hk : k < l.length), k < j → ¬ (l[k].1 : Int) = h)) (fun _ vk _ => l.length - (intOf vk).toNat)
  case atStart => exact ⟨0, Nat.zero_le _, rfl, Below.refl _ _, fun k _ hk => absurd hk (by omega)⟩
  case round =>
   obtain ⟨j, hj, rfl, HB, HN⟩ := hrel
   by_cases hlt : j < l.length
   ·obtain ⟨b', e, _, hc0, hc1⟩ := HC.out j hlt
    injection e with e
    injection e with e
    subst e
    obtain ⟨⟨hd, x⟩, hp⟩ : ∃ p, p = l[j] := ⟨_, rfl⟩
    rw [← hp] at hc0 hc1
    have k0 := (HB.out.cell (p := ⟨b, j * 2, none⟩) hbl).trans hc0
    have k1 := (HB.out.cell (p := ⟨b, j * 2 + 1, none⟩) hbl).trans hc1
    have HHC := hid ((HB.out.cell (p := ⟨hb, 0, none⟩) hhb).trans HH.out)
    have HP := hid hp
    clear hc0 hc1 hp
    go_wp2_with fail
    refine (find1_any hb hd x h _ HHC.out).mono ?_
    rintro e w1 ⟨rfl, hb1⟩
    have HB1 := hid (HB.out.trans (hb1.mono HB.out.size))
    clear hb1
    by_cases hq : (hd : Int) = h
    ·have HI : Hid (plc (idx l h) = (j : Int)) := by
      show _ = _
      cases hx : idx l h with
      | none => exact absurd (by rw [← HP.out]; exact hq) (idx_none hx j hlt)
      | some k =>
       obtain ⟨hk, e1, e2⟩ := idx_some hx
       show (k : Int) = j
       rcases Nat.lt_trichotomy k j with h1 | h1 | h1
       ·exact absurd e1 (HN.out k hk h1)
       ·rw [h1]
       ·exact absurd (by rw [← HP.out]; exact hq) (e2 j h1)
     rw [decide_eq_true hq]
     clear hq
     go_wp2
     go_ret
     exact ⟨ret_int HI.out.symm, HB1.out⟩
    ·rw [decide_eq_false hq]
     have HN2 : Hid (∀ k (hk : k < l.length), k < j + 1 → ¬ (l[k].1 : Int) = h) := fun k hk hkj => by
      by_cases e : k = j
      ·subst e; rw [← HP.out]; exact hq
      ·exact HN.out k hk (by omega)
     clear hq
     go_wp2
     go_roundw
     case rel => exact ⟨j + 1, by omega, by go_num, HB1.out, HN2.out⟩
     case measure => simp [intOf]; omega
   ·obtain rfl : j = l.length := by omega
    have HI : Hid (idx l h = none) := by
     show _ = _
     cases hx : idx l h with
     | none => rfl
     | some k => obtain ⟨hk, e1, _⟩ := idx_some hx; exact absurd e1 (HN.out k hk hk)
    go_wp2
    go_ret
    exact ⟨ret_int (by rw [HI.out]; rfl), HB.out⟩
theorem find_any (B g room last : Nat) (l : List (Nat × Nat)) (h : Int) (w : World) (hT : IsT 126 134 (TbK.encP) B g room last l w) (hl : l.length ≤ 64) :
  Calls Tryz.prog 60 #[.pointer (some ⟨g, 0, none⟩), .int .i64 h] w fun e w' => e = .returned (.tuple #[.int .i64 (plc (idx l h)), .bool (idx l h).isSome]) ∧ Below w.heap.size w w' := by
 have hlt := hT.lt
 obtain ⟨v, hv, hown, hBg⟩ := hT
 obtain ⟨A, c, rfl, hnc, hcm, hcell⟩ := own_cells hown
 obtain ⟨c0, c1, c2⟩ := cells3 hv
 have HC := hid hcell
 have hb0 : Below w.heap.size w (w.alloc (.cells #[.int .i64 h] 2)) := (Below.refl _ _).alloc (Nat.le_refl _) _
 clear hcell hv hown
 go_enter Tryz.func60, Tryz.ntmps60
 go_wp2_with fail
 refine (index_any A c w.heap.size l h _ hl (fun k hk => ?_) (by rw [World.cell?_alloc_mark]; rfl)).mono ?_
 ·obtain ⟨b, e, h1, h2, h3⟩ := HC.out k hk
  exact ⟨b, e, Nat.lt_of_lt_of_le h1 hb0.size, (hb0.cell (p := ⟨b, k * 2, none⟩) h1).trans h2, (hb0.cell (p := ⟨b, k * 2 + 1, none⟩) h1).trans h3⟩
 rintro e w1 ⟨rfl, hb1⟩
 have HB := hid (bel hb0 hb1)
 clear hb0 hb1
 cases hi : idx l h with
 | none =>
  have HI := hid hi
  clear hi
  rw [show plc none = -1 from rfl]
  go_wp2
  go_ret2
  exact ⟨by rw [HI.out]; rfl, HB.out⟩
 | some k =>
  rw [show plc (some k) = (k : Int) from rfl]
  have HI := hid hi
  clear hi
  go_wp2
  go_ret2
  exact ⟨by rw [HI.out]; rfl, HB.out⟩
def got (l : List (Nat × Nat)) (h : Int) : Value := match idx l h with
 | none => .tuple #[.pointer none, .bool false]
 | some k => match l[k]? with
  | none => undef
  | some p => .tuple #[(TbK.encP) p.2, .bool true]
theorem get_any (B g room last : Nat) (l : List (Nat × Nat)) (h : Int) (w : World) (hT : IsT 126 134 (TbK.encP) B g room last l w) (hl : l.length ≤ 64) :
  Calls Tryz.prog 35 #[.pointer (some ⟨g, 0, none⟩), .int .i64 h] w fun e w' => e = .returned (got l h) ∧ Below w.heap.size w w' := by
 have HT := hid hT
 have hlli : (l.length : Int) ≤ 64 := by omega
 clear hT
 cases hi : idx l h with
 | none =>
  have HG : Hid (got l h = .tuple #[.pointer none, .bool false]) := by show _ = _; unfold got; rw [hi]
  rw [HG.out]
  have HI := hid hi
  clear hi
  go_enter Tryz.func35, Tryz.ntmps35
  go_wp2_with fail
  refine (find_any B g room last l h _ HT.out hl).mono ?_
  rw [HI.out]
  rintro e w1 ⟨rfl, hb1⟩
  rw [show plc none = -1 from rfl]
  have HB := hid hb1
  clear hb1
  go_wp2
  go_ret2
  exact ⟨rfl, HB.out⟩
 | some k =>
  obtain ⟨hk, e1, _⟩ := idx_some hi
  obtain ⟨⟨hd, x⟩, hp⟩ : ∃ p, p = l[k] := ⟨_, rfl⟩
  have HG : Hid (got l h = .tuple #[.pointer (some ⟨x, 0, none⟩), .bool true]) := by show _ = _; unfold got; rw [hi]; simp only; rw [List.getElem?_eq_getElem hk, ← hp]; try rfl
  rw [HG.out]
  have HI := hid hi
  have HP := hid hp
  clear hi e1 hp
  go_enter Tryz.func35, Tryz.ntmps35
  go_wp2_with fail
  refine (find_any B g room last l h _ HT.out hl).mono ?_
  rw [HI.out]
  rintro e w1 ⟨rfl, hb1⟩
  rw [show plc (some k) = (k : Int) from rfl]
  have HB := hid hb1
  obtain ⟨v, hv, hown, hBg⟩ := HT.out.below hb1
  obtain ⟨A, c, rfl, hnc, hcm, hcell⟩ := own_cells hown
  obtain ⟨c0, c1, c2⟩ := cells3 hv
  obtain ⟨b, rfl, hbl, k0, k1⟩ := hcell k hk
  rw [← HP.out] at k0 k1
  have k1' : w1.cell? ⟨b, k * 2 + 1, none⟩ = some (.pointer (some ⟨x, 0, none⟩)) := k1
  clear hb1 hv hown hcell k1
  go_wp2
  go_ret2
  exact ⟨rfl, HB.out⟩
set_option maxRecDepth 100000 in
set_option maxHeartbeats 4000000 in
theorem delete_any (B b c k n1 : Nat) (l : List (Nat × Nat)) (w : World) (hown : w.ownsRow B 134 2 (.slice (some ⟨b, 0, none⟩) (n1 + 1) c) (n1 + 1) (flat (TbK.encP) l)) (hk : k ≤ n1) (hl : n1 ≤ 64) :
  Calls Tryz.prog 63 #[.slice (some ⟨b, 0, none⟩) (n1 + 1) c, .int .i64 (k : Int), .int .i64 ((k : Int) + 1)] w fun e w' => e = .returned (.slice (some ⟨b, 0, none⟩) n1 c) ∧ w'.ownsRow B 134 2 (.slice (some ⟨b, 0, none⟩) n1 c) n1 (flat (TbK.encP) (l.eraseIdx k)) ∧ w.grownBy w' (some b) := by
 obtain ⟨i0, hi0, hz0, hz1, hz2⟩ := info_parts info_e3
 have hln : l.length = n1 + 1 := by have := hown.1; rw [flat_length] at this; omega
 have HN := hid hln
 have HBB : Hid (B ≤ b) := (hown.lt b rfl).1
 have HBLT : Hid (b < w.heap.size) := (hown.lt b rfl).2
 have hnc : n1 + 1 ≤ c ∧ c ≤ maxLen := by
  rcases hown.2 with ⟨h, _⟩ | ⟨b', cap, cur, e, _, _, h1, h2, _⟩
  ·cases h
  ·injection e with _ _ e3
   subst e3
   exact ⟨h1, h2⟩
 have HCM : Hid (c ≤ maxLen) := hnc.2
 have hc1 : n1 + 1 ≤ c := hnc.1
 obtain ⟨cur, hh, hsz, htk⟩ := own_block hown
 have hcell : ∀ j u, (flat (TbK.encP) l)[j]? = some u → w.cell? ⟨b, j, none⟩ = some u := fun j u hj => by
  rw [cell_of_row w b j cur _ _ hh, ← hj, ← htk, List.getElem?_take, if_pos, Array.getElem?_toList]
  have := (List.getElem?_eq_some_iff.1 hj).1
  rw [flat_length, hln] at this
  omega
 have HPRE : Hid (w.ownsRow B 134 2 (.slice (some ⟨b, 0, none⟩) k c) k (flat (TbK.encP) (l.take k))) := by
  refine ⟨by rw [flat_length, List.length_take]; omega, .inr ⟨b, c, cur, rfl, HBB.out, hh, by omega, HCM.out, hsz, ?_⟩⟩
  rw [← flat_take, ← htk, List.take_take, Nat.min_eq_left (by omega)]
 have h1i : (k : Int) ≤ (n1 : Int) := by omega
 have h2i : (n1 : Int) + 1 ≤ (c : Int) := by omega
 have hkn : ¬ (k : Int) = (k : Int) + 1 := by omega
 by_cases hcc : c = k + 1
 ·have HNEW : Hid (∀ wq, Below w.heap.size w wq → ∀ j u, (flat (TbK.encP) (l.drop (k + 1)))[j]? = some u → wq.cell? (Addr.add ⟨b, 0, none⟩ j) = some u) := fun wq hb j u hj => by
   rw [List.drop_eq_nil_of_le (by omega)] at hj
   simp [flat_nil] at hj
  clear hcell hh hsz htk hown hln hnc
  go_enter Tryz.func63, Tryz.ntmps63
  subst hcc
  obtain rfl : n1 = k := by omega
  have hkk : (n1 : Int) ≤ (n1 : Int) + 1 := by omega
  go_wp2_with fail
  generalize ((n1 : Int) == (n1 : Int) + 1) = dd
  refine wp_region_rel_tail (by kernel_rfl) 6 [is (.slice (some ⟨b, 0, none⟩) (n1 + 1) (n1 + 1)), is (.int .i64 (n1 : Int)), is (.slice (some ⟨b, 0, none⟩) n1 (n1 + 1)), is (.slice (some ⟨b, 0, none⟩) (n1 + 1) (n1 + 1)), is (.int .i64 ((n1 : Int) + 1)), is (.slice (some ⟨b, 0, none⟩) 0 0)] [[], [], [0, 1], [], [], [3, 4], [0, 1, 2, 3, 4, 5]] (by kernel_rfl) ?_ ?_
  ·refine ⟨?_, ?_, ?_, ?_, ?_, ?_, trivial⟩
   ·intro t wq hbq hh K hK
    clear hh
    simp only [filled, filledN, upd, Have, is, any, row, pick, Act.put, List.setIfInBounds_toArray, List.set_cons_zero, List.set_cons_succ, Nat.reduceAdd, Nat.reduceEqDiff, reduceIte] at hK ⊢
    go_simp
    exact hK _ _ (Below.refl _ _) rfl
   ·intro t wq hbq hh K hK
    clear hh
    simp only [filled, filledN, upd, Have, is, any, row, pick, Act.put, List.setIfInBounds_toArray, List.set_cons_zero, List.set_cons_succ, Nat.reduceAdd, Nat.reduceEqDiff, reduceIte] at hK ⊢
    go_simp
    exact hK _ _ (Below.refl _ _) rfl
   ·intro t wq hbq hh K hK
    have e0 := hh.1
    simp only [pick] at e0
    replace e0 : t 0 = (.slice (some ⟨b, 0, none⟩) (n1 + 1) (n1 + 1)) := e0
    have e1 := hh.2.1
    simp only [pick] at e1
    replace e1 : t 1 = (.int .i64 (n1 : Int)) := e1
    clear hh
    simp only [filled, filledN, upd, Have, is, any, row, pick, Act.put, List.setIfInBounds_toArray, List.set_cons_zero, List.set_cons_succ, Nat.reduceAdd, Nat.reduceEqDiff, reduceIte] at hK ⊢
    simp only [e0, e1] at hK ⊢
    go_simp
    exact hK _ _ (Below.refl _ _) rfl
   ·intro t wq hbq hh K hK
    clear hh
    simp only [filled, filledN, upd, Have, is, any, row, pick, Act.put, List.setIfInBounds_toArray, List.set_cons_zero, List.set_cons_succ, Nat.reduceAdd, Nat.reduceEqDiff, reduceIte] at hK ⊢
    go_simp
    exact hK _ _ (Below.refl _ _) rfl
   ·intro t wq hbq hh K hK
    clear hh
    simp only [filled, filledN, upd, Have, is, any, row, pick, Act.put, List.setIfInBounds_toArray, List.set_cons_zero, List.set_cons_succ, Nat.reduceAdd, Nat.reduceEqDiff, reduceIte] at hK ⊢
    go_simp
    exact hK _ _ (Below.refl _ _) rfl
   ·intro t wq hbq hh K hK
    have e3 := hh.1
    simp only [pick] at e3
    replace e3 : t 3 = (.slice (some ⟨b, 0, none⟩) (n1 + 1) (n1 + 1)) := e3
    have e4 := hh.2.1
    simp only [pick] at e4
    replace e4 : t 4 = (.int .i64 ((n1 : Int) + 1)) := e4
    clear hh
    simp only [filled, filledN, upd, Have, is, any, row, pick, Act.put, List.setIfInBounds_toArray, List.set_cons_zero, List.set_cons_succ, Nat.reduceAdd, Nat.reduceEqDiff, reduceIte] at hK ⊢
    simp only [e3, e4] at hK ⊢
    go_simp
    exact hK _ _ (Below.refl _ _) rfl
  ·intro t wq hbq hh
   have f2 := have_get hh 2 (by decide)
   simp only [pick] at f2
   replace f2 : t 2 = (.slice (some ⟨b, 0, none⟩) n1 (n1 + 1)) := f2
   have f5 := have_get hh 5 (by decide)
   simp only [pick] at f5
   replace f5 : t 5 = (.slice (some ⟨b, 0, none⟩) 0 0) := f5
   clear hh
   simp only [filled, filledN, upd, Have, is, any, row, pick, Act.put, List.setIfInBounds_toArray, List.set_cons_zero, List.set_cons_succ, Nat.reduceAdd, Nat.reduceEqDiff, reduceIte]
   simp only [f2, f5]
   show wpList _ _ _ [_, _] _ _
   have hpre : wq.ownsRow B 134 2 (.slice (some ⟨b, 0, none⟩) n1 (n1 + 1)) n1 (flat (TbK.encP) (l.take n1)) := owns_below HPRE.out hbq
   have hnew : ∀ j u, (flat (TbK.encP) (l.drop (n1 + 1)))[j]? = some u → wq.cell? (Addr.add ⟨b, 0, none⟩ j) = some u := fun j u hj => HNEW.out wq hbq j u hj
   obtain ⟨w4, hrun, hown4, hgrow⟩ := run_append_fits (P := Tryz.prog) wq B 124 124 134 i0 2 Tryz.underlying124 hi0 hz1 b n1 (n1 + 1) (flat (TbK.encP) (l.take n1)) hpre ⟨b, 0, none⟩ 0 0 (flat (TbK.encP) (l.drop (n1 + 1))) (by rw [flat_length, List.length_drop, HN.out]; omega) hnew (flat_one _ (fun _ => rfl) _) (by omega)
   have hBq : b < wq.heap.size := Nat.lt_of_lt_of_le HBLT.out hbq.size
   rw [show n1 + (0) = n1 by omega] at hrun hown4
   have hfl : flat (TbK.encP) (l.take n1) ++ flat (TbK.encP) (l.drop (n1 + 1)) = flat (TbK.encP) (l.eraseIdx n1) := by rw [← flat_append, List.eraseIdx_eq_take_drop_succ]
   rw [hfl] at hown4
   obtain ⟨cur4, hh4, hsz4, htk4⟩ := own_block hown4
   have hcl : ∀ ty, (Builtin.clear_ #[124] ty #[.slice (some ⟨b, n1 * 2, none⟩) 1 1]).run Tryz.prog w4 = .ok (.tuple #[]) (w4.setRow b (cur4.toList.take (n1 * 2) ++ [Value.int .i64 0, (.pointer none : Value)] ++ cur4.toList.drop (n1 * 2 + 2)).toArray) :=
    fun ty => run_clear_two w4 124 134 ty (.int .i64 0) (.pointer none) Tryz.underlying124 (zero_of_info info_e).1 rfl rfl rfl b (n1 * 2) _ cur4 134 hh4 (by rw [hsz4]; omega)
   have HX : Hid (w.grownBy (w4.setRow b (cur4.toList.take (n1 * 2) ++ [Value.int .i64 0, (.pointer none : Value)] ++ cur4.toList.drop (n1 * 2 + 2)).toArray) (some b) ∧ (w4.setRow b (cur4.toList.take (n1 * 2) ++ [Value.int .i64 0, (.pointer none : Value)] ++ cur4.toList.drop (n1 * 2 + 2)).toArray).ownsRow B 134 2 (.slice (some ⟨b, 0, none⟩) n1 (n1 + 1)) n1 (flat (TbK.encP) (l.eraseIdx n1))) := by
    have hgw : w.grownBy wq (some b) := ⟨hbq.os, hbq.tape, hbq.output, hbq.size, fun j hj _ => hbq.block j hj⟩
    refine ⟨⟨hgrow.os.trans hgw.os, hgrow.tape.trans hgw.tape, hgrow.output.trans hgw.output, by have := Nat.le_trans hgw.size hgrow.size; simpa using this, fun j hj hne => (setRow_other w4 b j _ (fun e => hne (by rw [e]))).trans ((hgrow.block j (Nat.lt_of_lt_of_le hj hgw.size) hne).trans (hgw.block j hj hne))⟩, ?_⟩
    refine ⟨hown4.1, .inr ⟨b, n1 + 1, _, rfl, HBB.out, setRow_heap w4 b cur4 _ _ _ hh4, by omega, HCM.out, ?_, ?_⟩⟩
    ·simp only [List.size_toArray, List.length_append, List.length_take, List.length_drop, Array.length_toList, List.length_cons, List.length_nil]; omega
    ·rw [List.append_assoc, List.take_append_of_le_length (by rw [List.length_take, Array.length_toList, hsz4]; omega), List.take_take, Nat.min_self, htk4]
   obtain ⟨C5, hC5⟩ : ∃ C5 : Array Value, C5 = (cur4.toList.take (n1 * 2) ++ [(Value.int .i64 0), (.pointer none : Value)] ++ cur4.toList.drop (n1 * 2 + 2)).toArray := ⟨_, rfl⟩
   rw [← hC5] at hcl HX
   clear hC5 hpre hnew hown4 hgrow hh4 hsz4 htk4 hfl
   refine wpList_plain rfl fun K' hK' => ?_
   unfold Oper.wp
   simp [execOp, resolve, invoke, builtin, Act.eval, hrun, Result.andThen]
   refine hK' _ _ ?_
   go_wp2
   go_ret
   exact ⟨rfl, HX.out.2, HX.out.1⟩
 ·have HNEW : Hid (∀ wq, Below w.heap.size w wq → ∀ j u, (flat (TbK.encP) (l.drop (k + 1)))[j]? = some u → wq.cell? (Addr.add ⟨b, (k + 1) * 2, none⟩ j) = some u) := fun wq hb j u hj => by
   have ha : Addr.add ⟨b, (k + 1) * 2, none⟩ j = ⟨b, (k + 1) * 2 + j, none⟩ := by unfold Addr.add; split <;> simp_all
   rw [ha, hb.cell (p := ⟨b, (k + 1) * 2 + j, none⟩) HBLT.out]
   refine hcell _ _ ?_
   rw [← flat_drop, List.getElem?_drop] at hj
   exact hj
  have hcc2 : ¬ k + 1 = c := fun e => hcc e.symm
  have hcc3 : k + 1 < c := by omega
  have hkc : k ≤ c := by omega
  clear hcell hh hsz htk hown hln hnc
  go_enter Tryz.func63, Tryz.ntmps63
  go_wp2_with fail
  generalize ((k : Int) == (k : Int) + 1) = dd
  refine wp_region_rel_tail (by kernel_rfl) 6 [is (.slice (some ⟨b, 0, none⟩) (n1 + 1) c), is (.int .i64 (k : Int)), is (.slice (some ⟨b, 0, none⟩) k c), is (.slice (some ⟨b, 0, none⟩) (n1 + 1) c), is (.int .i64 ((k : Int) + 1)), is (.slice (some ⟨b, (k + 1) * 2, none⟩) (n1 - k) (c - (k + 1)))] [[], [], [0, 1], [], [], [3, 4], [0, 1, 2, 3, 4, 5]] (by kernel_rfl) ?_ ?_
  ·refine ⟨?_, ?_, ?_, ?_, ?_, ?_, trivial⟩
   ·intro t wq hbq hh K hK
    clear hh
    simp only [filled, filledN, upd, Have, is, any, row, pick, Act.put, List.setIfInBounds_toArray, List.set_cons_zero, List.set_cons_succ, Nat.reduceAdd, Nat.reduceEqDiff, reduceIte] at hK ⊢
    go_simp
    exact hK _ _ (Below.refl _ _) rfl
   ·intro t wq hbq hh K hK
    clear hh
    simp only [filled, filledN, upd, Have, is, any, row, pick, Act.put, List.setIfInBounds_toArray, List.set_cons_zero, List.set_cons_succ, Nat.reduceAdd, Nat.reduceEqDiff, reduceIte] at hK ⊢
    go_simp
    exact hK _ _ (Below.refl _ _) rfl
   ·intro t wq hbq hh K hK
    have e0 := hh.1
    simp only [pick] at e0
    replace e0 : t 0 = (.slice (some ⟨b, 0, none⟩) (n1 + 1) c) := e0
    have e1 := hh.2.1
    simp only [pick] at e1
    replace e1 : t 1 = (.int .i64 (k : Int)) := e1
    clear hh
    simp only [filled, filledN, upd, Have, is, any, row, pick, Act.put, List.setIfInBounds_toArray, List.set_cons_zero, List.set_cons_succ, Nat.reduceAdd, Nat.reduceEqDiff, reduceIte] at hK ⊢
    simp only [e0, e1] at hK ⊢
    go_simp
    exact hK _ _ (Below.refl _ _) rfl
   ·intro t wq hbq hh K hK
    clear hh
    simp only [filled, filledN, upd, Have, is, any, row, pick, Act.put, List.setIfInBounds_toArray, List.set_cons_zero, List.set_cons_succ, Nat.reduceAdd, Nat.reduceEqDiff, reduceIte] at hK ⊢
    go_simp
    exact hK _ _ (Below.refl _ _) rfl
   ·intro t wq hbq hh K hK
    clear hh
    simp only [filled, filledN, upd, Have, is, any, row, pick, Act.put, List.setIfInBounds_toArray, List.set_cons_zero, List.set_cons_succ, Nat.reduceAdd, Nat.reduceEqDiff, reduceIte] at hK ⊢
    go_simp
    exact hK _ _ (Below.refl _ _) rfl
   ·intro t wq hbq hh K hK
    have e3 := hh.1
    simp only [pick] at e3
    replace e3 : t 3 = (.slice (some ⟨b, 0, none⟩) (n1 + 1) c) := e3
    have e4 := hh.2.1
    simp only [pick] at e4
    replace e4 : t 4 = (.int .i64 ((k : Int) + 1)) := e4
    clear hh
    simp only [filled, filledN, upd, Have, is, any, row, pick, Act.put, List.setIfInBounds_toArray, List.set_cons_zero, List.set_cons_succ, Nat.reduceAdd, Nat.reduceEqDiff, reduceIte] at hK ⊢
    simp only [e3, e4] at hK ⊢
    go_simp
    exact hK _ _ (Below.refl _ _) rfl
  ·intro t wq hbq hh
   have f2 := have_get hh 2 (by decide)
   simp only [pick] at f2
   replace f2 : t 2 = (.slice (some ⟨b, 0, none⟩) k c) := f2
   have f5 := have_get hh 5 (by decide)
   simp only [pick] at f5
   replace f5 : t 5 = (.slice (some ⟨b, (k + 1) * 2, none⟩) (n1 - k) (c - (k + 1))) := f5
   clear hh
   simp only [filled, filledN, upd, Have, is, any, row, pick, Act.put, List.setIfInBounds_toArray, List.set_cons_zero, List.set_cons_succ, Nat.reduceAdd, Nat.reduceEqDiff, reduceIte]
   simp only [f2, f5]
   show wpList _ _ _ [_, _] _ _
   have hpre : wq.ownsRow B 134 2 (.slice (some ⟨b, 0, none⟩) k c) k (flat (TbK.encP) (l.take k)) := owns_below HPRE.out hbq
   have hnew : ∀ j u, (flat (TbK.encP) (l.drop (k + 1)))[j]? = some u → wq.cell? (Addr.add ⟨b, (k + 1) * 2, none⟩ j) = some u := fun j u hj => HNEW.out wq hbq j u hj
   obtain ⟨w4, hrun, hown4, hgrow⟩ := run_append_fits (P := Tryz.prog) wq B 124 124 134 i0 2 Tryz.underlying124 hi0 hz1 b k c (flat (TbK.encP) (l.take k)) hpre ⟨b, (k + 1) * 2, none⟩ (n1 - k) (c - (k + 1)) (flat (TbK.encP) (l.drop (k + 1))) (by rw [flat_length, List.length_drop, HN.out]; omega) hnew (flat_one _ (fun _ => rfl) _) (by omega)
   have hBq : b < wq.heap.size := Nat.lt_of_lt_of_le HBLT.out hbq.size
   rw [show k + (n1 - k) = n1 by omega] at hrun hown4
   have hfl : flat (TbK.encP) (l.take k) ++ flat (TbK.encP) (l.drop (k + 1)) = flat (TbK.encP) (l.eraseIdx k) := by rw [← flat_append, List.eraseIdx_eq_take_drop_succ]
   rw [hfl] at hown4
   obtain ⟨cur4, hh4, hsz4, htk4⟩ := own_block hown4
   have hcl : ∀ ty, (Builtin.clear_ #[124] ty #[.slice (some ⟨b, n1 * 2, none⟩) 1 (c - n1)]).run Tryz.prog w4 = .ok (.tuple #[]) (w4.setRow b (cur4.toList.take (n1 * 2) ++ [Value.int .i64 0, (.pointer none : Value)] ++ cur4.toList.drop (n1 * 2 + 2)).toArray) :=
    fun ty => run_clear_two w4 124 134 ty (.int .i64 0) (.pointer none) Tryz.underlying124 (zero_of_info info_e).1 rfl rfl rfl b (n1 * 2) _ cur4 134 hh4 (by rw [hsz4]; omega)
   have HX : Hid (w.grownBy (w4.setRow b (cur4.toList.take (n1 * 2) ++ [Value.int .i64 0, (.pointer none : Value)] ++ cur4.toList.drop (n1 * 2 + 2)).toArray) (some b) ∧ (w4.setRow b (cur4.toList.take (n1 * 2) ++ [Value.int .i64 0, (.pointer none : Value)] ++ cur4.toList.drop (n1 * 2 + 2)).toArray).ownsRow B 134 2 (.slice (some ⟨b, 0, none⟩) n1 c) n1 (flat (TbK.encP) (l.eraseIdx k))) := by
    have hgw : w.grownBy wq (some b) := ⟨hbq.os, hbq.tape, hbq.output, hbq.size, fun j hj _ => hbq.block j hj⟩
    refine ⟨⟨hgrow.os.trans hgw.os, hgrow.tape.trans hgw.tape, hgrow.output.trans hgw.output, by have := Nat.le_trans hgw.size hgrow.size; simpa using this, fun j hj hne => (setRow_other w4 b j _ (fun e => hne (by rw [e]))).trans ((hgrow.block j (Nat.lt_of_lt_of_le hj hgw.size) hne).trans (hgw.block j hj hne))⟩, ?_⟩
    refine ⟨hown4.1, .inr ⟨b, c, _, rfl, HBB.out, setRow_heap w4 b cur4 _ _ _ hh4, by omega, HCM.out, ?_, ?_⟩⟩
    ·simp only [List.size_toArray, List.length_append, List.length_take, List.length_drop, Array.length_toList, List.length_cons, List.length_nil]; omega
    ·rw [List.append_assoc, List.take_append_of_le_length (by rw [List.length_take, Array.length_toList, hsz4]; omega), List.take_take, Nat.min_self, htk4]
   obtain ⟨C5, hC5⟩ : ∃ C5 : Array Value, C5 = (cur4.toList.take (n1 * 2) ++ [(Value.int .i64 0), (.pointer none : Value)] ++ cur4.toList.drop (n1 * 2 + 2)).toArray := ⟨_, rfl⟩
   rw [← hC5] at hcl HX
   clear hC5 hpre hnew hown4 hgrow hh4 hsz4 htk4 hfl
   refine wpList_plain rfl fun K' hK' => ?_
   unfold Oper.wp
   simp [execOp, resolve, invoke, builtin, Act.eval, hrun, Result.andThen]
   refine hK' _ _ ?_
   go_wp2
   go_ret
   exact ⟨rfl, HX.out.2, HX.out.1⟩
def gone (l : List (Nat × Nat)) (h : Int) : List (Nat × Nat) := match idx l h with
 | none => l
 | some k => l.eraseIdx k
set_option maxHeartbeats 1000000 in
theorem del_any (B g room last : Nat) (l : List (Nat × Nat)) (h : Int) (w : World) (hT : IsT 126 134 (TbK.encP) B g room last l w) (hl : l.length ≤ 64) :
  Calls Tryz.prog 39 #[.pointer (some ⟨g, 0, none⟩), .int .i64 h] w fun e w' => e = .returned (got l h) ∧ IsT 126 134 (TbK.encP) B g room last (gone l h) w' ∧ Below B w w' ∧ Kp 126 134 w w' := by
 have HT := hid hT
 have hBw : B ≤ w.heap.size := by obtain ⟨_, _, _, h3⟩ := hT; exact Nat.le_trans h3 (Nat.le_of_lt HT.out.lt)
 have hlli : (l.length : Int) ≤ 64 := by omega
 clear hT
 cases hi : idx l h with
 | none =>
  have HG : Hid (got l h = .tuple #[.pointer none, .bool false]) := by show _ = _; unfold got; rw [hi]
  have HGN : Hid (gone l h = l) := by show _ = _; unfold gone; rw [hi]
  have HI := hid hi
  clear hi
  go_enter Tryz.func39, Tryz.ntmps39
  go_wp2_with fail
  refine (get_any B g room last l h _ HT.out hl).mono ?_
  rw [HG.out]
  rintro e w1 ⟨rfl, hb1⟩
  have HT1 := hid (HT.out.below hb1)
  have HB1 := hid hb1
  clear hb1
  go_wp2_with fail
  refine (find_any B g room last l h _ HT1.out hl).mono ?_
  rw [HI.out]
  rintro e w2 ⟨rfl, hb2⟩
  have HT2 := hid (HT1.out.below hb2)
  have HB2 := hid (bel HB1.out hb2)
  clear hb2
  go_wp2
  go_ret2
  exact ⟨by rw [HG.out]; rfl, by rw [HGN.out]; exact HT2.out, HB2.out.mono hBw, Kp.below HB2.out⟩
 | some k =>
  obtain ⟨hk, e1, _⟩ := idx_some hi
  obtain ⟨⟨hd, x⟩, hp⟩ : ∃ p, p = l[k] := ⟨_, rfl⟩
  have HG : Hid (got l h = .tuple #[.pointer (some ⟨x, 0, none⟩), .bool true]) := by show _ = _; unfold got; rw [hi]; simp only; rw [List.getElem?_eq_getElem hk, ← hp]; try rfl
  have HGN : Hid (gone l h = l.eraseIdx k) := by show _ = _; unfold gone; rw [hi]
  have HI := hid hi
  obtain ⟨n1, hn1⟩ : ∃ n1, l.length = n1 + 1 := ⟨l.length - 1, by omega⟩
  have HN1 := hid hn1
  have hkn : k ≤ n1 := by omega
  have hn64 : n1 ≤ 64 := by omega
  clear hi e1 hp hn1
  go_enter Tryz.func39, Tryz.ntmps39
  go_wp2_with fail
  refine (get_any B g room last l h _ HT.out hl).mono ?_
  rw [HG.out]
  rintro e w1 ⟨rfl, hb1⟩
  have HT1 := hid (HT.out.below hb1)
  have HB1 := hid hb1
  clear hb1
  go_wp2_with fail
  refine (find_any B g room last l h _ HT1.out hl).mono ?_
  rw [HI.out]
  rintro e w2 ⟨rfl, hb2⟩
  rw [show plc (some k) = (k : Int) from rfl]
  have HT2 := hid (HT1.out.below hb2)
  have HB2 := hid (bel HB1.out hb2)
  clear hb2
  obtain ⟨v, hv, hown, hBg⟩ := HT2.out
  have hglt := HT2.out.lt
  obtain ⟨A, c, rfl, hnc, hcm, hcell⟩ := own_cells hown
  obtain ⟨b, rfl, hbl, _, _⟩ := hcell k hk
  rw [HN1.out] at hv hown
  obtain ⟨c0, c1, c2⟩ := cells3 hv
  have HV := hid hv
  have HO := hid hown
  clear hcell hv hown
  have hki : (k : Int) ≤ 64 := by omega
  go_wp2_with fail
  refine (delete_any B b c k n1 l _ HO.out hkn hn64).mono ?_
  rintro e w3 ⟨rfl, hown3, hgrow⟩
  have hv3 : w3.heap[g]? = some (.cells #[.int .i64 (room : Int), .int .i64 (last : Int), .slice (some ⟨b, 0, none⟩) (n1 + 1) c] 126 (0, 0)) := (hgrow.block g hglt (fun e => own_ne (by decide) HV.out HO.out (by rw [e]; rfl))).trans HV.out
  have hb3 : Below B w w3 := (HB2.out.mono hBw).grown hgrow (Nat.le_trans hBw HB2.out.size) (fun j hj => (HO.out.lt j (by rw [← hj]; rfl)).1)
  have hk3 : Kp 126 134 w w3 := (Kp.below HB2.out).trans (Kp.grown HO.out hgrow)
  have hv4 := heap_setCell_same w3 g 2 _ _ (.slice (some ⟨b, 0, none⟩) n1 c) hv3
  have hown4 := own_set (g := g) (i := 2) (x := .slice (some ⟨b, 0, none⟩) n1 c) hown3 (own_ne (by decide) hv3 hown3)
  have HT4 : Hid (IsT 126 134 (TbK.encP) B g room last (l.eraseIdx k) (w3.setCell ⟨g, 2, none⟩ (.slice (some ⟨b, 0, none⟩) n1 c))) := by
   refine ⟨_, by simpa using hv4, ?_, hBg⟩
   rw [show (l.eraseIdx k).length = n1 by rw [List.length_eraseIdx, if_pos hk, HN1.out]; rfl]
   exact hown4
  have HB4 : Hid (Below B w (w3.setCell ⟨g, 2, none⟩ (.slice (some ⟨b, 0, none⟩) n1 c))) := hb3.setCell (p := ⟨g, 2, none⟩) hBg _
  have HK4 : Hid (Kp 126 134 w (w3.setCell ⟨g, 2, none⟩ (.slice (some ⟨b, 0, none⟩) n1 c))) := hk3.trans (Kp.set hv3 (.inl rfl))
  obtain ⟨k0, k1, k2⟩ := cells3 hv3
  obtain ⟨m0, m1, m2⟩ := thaw3 hv3
  clear hown3 hgrow hv3 hb3 hk3 hv4 hown4 c0 c1 c2
  go_wp2
  go_ret2
  exact ⟨by rw [HG.out]; rfl, by rw [HGN.out]; exact HT4.out, HB4.out, HK4.out⟩
theorem new_any (n : Nat) (h1 : 1 ≤ n) (h2 : n ≤ 64) (w : World) : Calls Tryz.prog 31 #[.int .i64 (n : Int)] w fun e w' => ∃ g, e = .returned (.tuple #[.pointer (some ⟨g, 0, none⟩), .int .i64 0]) ∧ IsT 126 134 (TbK.encP) w.heap.size g n 0 [] w' ∧ Below w.heap.size w w' := by
 have q1 : ¬ (n : Int) < 1 := by omega
 have q2 : ¬ (64 : Int) < (n : Int) := by omega
 go_enter Tryz.func31, Tryz.ntmps31
 go_wp2
 go_ret2
 exact ⟨_, rfl, ⟨_, heap_alloc_new w _, World.ownsRow_nil _ _ _ _, Nat.le_refl _⟩, (Below.refl _ _).alloc (Nat.le_refl _) _⟩
end Go.Proofs.YtegpfgccaminkaaGreatDoor.TbB
