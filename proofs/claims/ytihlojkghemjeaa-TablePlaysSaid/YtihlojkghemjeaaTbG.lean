/- Tables: entries as cells of two; what a table's block says. -/
import Derived.Test.YtihlojkghemjeaaBase3
import Derived.Test.YtihlojkghemjeaaRegp
import Derived.Laws.OwnMore
import Derived.Laws.CopyRow
namespace Go.Proofs.Ytihlojkghemjeaa.TbG
open Go.RowKit Go.Proofs.Ytihlojkghemjeaa.Base Go.Proofs.Ytihlojkghemjeaa.Base2 Go.Proofs.Ytihlojkghemjeaa.Base3 Go.Proofs.Ytihlojkghemjeaa.Regs

section
variable {α : Type} (enc : α → Value)
/-- Entries as cells. -/
def flat (l : List (Nat × α)) : List Value := l.flatMap fun p => [.int .i64 (p.1 : Int), enc p.2]
theorem flat_nil : flat enc [] = [] := rfl
theorem flat_cons (p : Nat × α) (l : List (Nat × α)) : flat enc (p :: l) = .int .i64 (p.1 : Int) :: enc p.2 :: flat enc l := rfl
theorem flat_append (a b : List (Nat × α)) : flat enc (a ++ b) = flat enc a ++ flat enc b := by simp [flat]
theorem flat_length (l : List (Nat × α)) : (flat enc l).length = l.length * 2 := by
  induction l with
  | nil => rfl
  | cons p l ih => rw [flat_cons]; simp [ih]; omega
theorem flat_take (l : List (Nat × α)) (k : Nat) : (flat enc l).take (k * 2) = flat enc (l.take k) := by
  induction l generalizing k with
  | nil => simp [flat_nil]
  | cons p l ih =>
    cases k with
    | zero => simp [flat_nil]
    | succ k => rw [Nat.succ_mul, flat_cons, List.take_succ_cons, List.take_succ_cons, ih, List.take_succ_cons, flat_cons]
theorem flat_drop (l : List (Nat × α)) (k : Nat) : (flat enc l).drop (k * 2) = flat enc (l.drop k) := by
  induction l generalizing k with
  | nil => simp [flat_nil]
  | cons p l ih =>
    cases k with
    | zero => simp
    | succ k => rw [Nat.succ_mul, flat_cons, List.drop_succ_cons, List.drop_succ_cons, ih, List.drop_succ_cons]
theorem flat_at (l : List (Nat × α)) (k : Nat) (h : k < l.length) : (flat enc l)[k * 2]? = some (.int .i64 (l[k].1 : Int)) ∧ (flat enc l)[k * 2 + 1]? = some (enc l[k].2) := by
  have e : flat enc (l.drop k) = .int .i64 (l[k].1 : Int) :: enc l[k].2 :: flat enc (l.drop (k + 1)) := by rw [List.drop_eq_getElem_cons h, flat_cons]
  rw [← flat_drop] at e
  constructor
  · have := congrArg (fun x => x[0]?) e
    simpa using this
  · have := congrArg (fun x => x[1]?) e
    simpa using this
theorem flat_one (h1 : ∀ x, (enc x).oneCell' = true) (l : List (Nat × α)) : ∀ u ∈ flat enc l, u.oneCell' = true := by
  intro u hu
  simp only [flat, List.mem_flatMap, List.mem_cons, List.not_mem_nil, or_false] at hu
  obtain ⟨p, _, rfl | rfl⟩ := hu
  · rfl
  · exact h1 _
end
/-- The place of a handle. -/
def idx {α : Type} (l : List (Nat × α)) (h : Int) : Option Nat := l.findIdx? fun p => decide ((p.1 : Int) = h)
theorem idx_some {α : Type} {l : List (Nat × α)} {h : Int} {k : Nat} (e : idx l h = some k) : ∃ hk : k < l.length, (l[k].1 : Int) = h ∧ ∀ j (hj : j < k), ¬ ((l[j]'(Nat.lt_trans hj hk)).1 : Int) = h := by
  unfold idx at e
  rw [List.findIdx?_eq_some_iff_getElem] at e
  obtain ⟨hk, h1, h2⟩ := e
  exact ⟨hk, by simpa using h1, fun j hj => by simpa using h2 j hj⟩
theorem idx_none {α : Type} {l : List (Nat × α)} {h : Int} (e : idx l h = none) : ∀ k (hk : k < l.length), ¬ (l[k].1 : Int) = h := by
  unfold idx at e
  rw [List.findIdx?_eq_none_iff] at e
  intro k hk
  have := e l[k] (List.getElem_mem _)
  simpa using this
/-- All that is of other types stays. -/
def Kp (T E : TypeId) (w w' : World) : Prop := ∀ (k : Nat) (cs : Array Value) (t : TypeId) (m : Nat × Nat), w.heap[k]? = some (Obj.cells cs t m) → t ≠ T → t ≠ E → w'.heap[k]? = some (Obj.cells cs t m)
theorem Kp.refl (T E : TypeId) (w : World) : Kp T E w w := fun _ _ _ _ h _ _ => h
theorem Kp.trans {T E : TypeId} {a b c : World} (h : Kp T E a b) (k : Kp T E b c) : Kp T E a c := fun i cs t m e h1 h2 => k i cs t m (h i cs t m e h1 h2) h1 h2
theorem Kp.below {T E : TypeId} {w w' : World} (hb : Below w.heap.size w w') : Kp T E w w' := fun k cs t m h _ _ => (hb.block k (Array.getElem?_eq_some_iff.1 h).1).trans h
theorem Kp.set {T E : TypeId} {w : World} {g i : Nat} {x : Value} {C : Array Value} {mk : Nat × Nat} {t : TypeId} (h : w.heap[g]? = some (.cells C t mk)) (ht : t = T ∨ t = E) : Kp T E w (w.setCell ⟨g, i, none⟩ x) := fun k cs t' m e h1 h2 => by
  have hne : k ≠ g := by
    rintro rfl
    rw [h] at e
    injection e with e
    injection e with _ e _
    subst e
    exact ht.elim h1 h2
  exact (heap_setCell_other w ⟨g, i, none⟩ k x hne).trans e
theorem Kp.grown {T E : TypeId} {w w' : World} {B n m : Nat} {v : Value} {xs : List Value} (ho : w.ownsRow B E n v m xs) (hg : w.grownBy w' v.ownBlock) : Kp T E w w' := fun k cs t mk e h1 h2 => by
  have hlt := (Array.getElem?_eq_some_iff.1 e).1
  refine (hg.block k hlt fun hk => ?_).trans e
  rcases ho.2 with ⟨rfl, _⟩ | ⟨b, cap, cur, rfl, _, hb, _⟩
  · cases hk
  · have e2 : k = b := by injection hk
    subst e2
    rw [hb] at e
    injection e with e
    injection e with _ e _
    exact h2 e.symm
/-- The block g is a table with this much room, the last handle told, and these entries, whose row is the call's own. -/
def IsT (T E : TypeId) {α : Type} (enc : α → Value) (B g room last : Nat) (l : List (Nat × α)) (w : World) : Prop := ∃ v, w.heap[g]? = some (.cells #[.int .i64 (room : Int), .int .i64 (last : Int), v] T (0, 0)) ∧ w.ownsRow B E 2 v l.length (flat enc l) ∧ B ≤ g
section
variable {T E : TypeId} {α : Type} {enc : α → Value} {B g room last : Nat} {l : List (Nat × α)} {w w' : World}
theorem own_ne (hTE : T ≠ E) {v : Value} {n m : Nat} {xs : List Value} {C : Array Value} {mk : Nat × Nat} (h : w.heap[g]? = some (.cells C T mk)) (ho : w.ownsRow B E n v m xs) : v.ownBlock ≠ some g := by
  rcases ho.2 with ⟨rfl, _⟩ | ⟨b, cap, cur, rfl, _, hb, _⟩
  · intro h; cases h
  · intro e
    injection e with e
    have e : b = g := e
    subst e
    rw [h] at hb
    injection hb with hb
    injection hb with _ hb
    exact hTE hb
theorem IsT.lt (h : IsT T E enc B g room last l w) : g < w.heap.size := by obtain ⟨v, h, _⟩ := h; exact (Array.getElem?_eq_some_iff.1 h).1
theorem IsT.below (h : IsT T E enc B g room last l w) (hb : Below w.heap.size w w') : IsT T E enc B g room last l w' := by
  have hl := h.lt
  obtain ⟨v, h1, h2, h3⟩ := h
  exact ⟨v, (hb.block g hl).trans h1, owns_below h2 hb, h3⟩
/-- What another type's row does leaves it. -/
theorem IsT.grown {E' : TypeId} (hE : E ≠ E') (hT : T ≠ E') {B' n m : Nat} {v : Value} {xs : List Value} (h : IsT T E enc B g room last l w) (ho : w.ownsRow B' E' n v m xs) (hg : w.grownBy w' v.ownBlock) : IsT T E enc B g room last l w' := by
  obtain ⟨u, h1, h2, h3⟩ := h
  have key : ∀ k C t mk, w.heap[k]? = some (Obj.cells C t mk) → t ≠ E' → w'.heap[k]? = some (Obj.cells C t mk) := fun k C t mk e ht => by
    refine (hg.block k (Array.getElem?_eq_some_iff.1 e).1 fun hk => ?_).trans e
    rcases ho.2 with ⟨rfl, _⟩ | ⟨b, cap, cur, rfl, _, hb, _⟩
    · cases hk
    · have e2 : k = b := by injection hk
      subst e2
      rw [hb] at e
      injection e with e
      injection e with _ e _
      exact ht e.symm
  refine ⟨u, key g _ _ _ h1 hT, ⟨h2.1, ?_⟩, h3⟩
  rcases h2.2 with hn | ⟨b, cap, cur, rfl, hB, hb, r⟩
  · exact .inl hn
  · exact .inr ⟨b, cap, cur, rfl, hB, key b _ _ _ hb hE, r⟩
theorem own_set {v x : Value} {n m i : Nat} {xs : List Value} (ho : w.ownsRow B E n v m xs) (hne : v.ownBlock ≠ some g) : (w.setCell ⟨g, i, none⟩ x).ownsRow B E n v m xs := by
  refine ⟨ho.1, ?_⟩
  rcases ho.2 with h | ⟨b, cap, cur, rfl, hB, hb, r⟩
  · exact .inl h
  · exact .inr ⟨b, cap, cur, rfl, hB, (heap_setCell_other w _ _ _ (fun e => hne (congrArg some e))).trans hb, r⟩
end
theorem cells3 {w : World} {g : Nat} {a b c : Value} {T : TypeId} {mk : Nat × Nat} (h : w.heap[g]? = some (.cells #[a, b, c] T mk)) : w.cell? ⟨g, 0, none⟩ = some a ∧ w.cell? ⟨g, 1, none⟩ = some b ∧ w.cell? ⟨g, 2, none⟩ = some c :=
  ⟨(cell_of_row w g 0 _ _ _ h).trans rfl, (cell_of_row w g 1 _ _ _ h).trans rfl, (cell_of_row w g 2 _ _ _ h).trans rfl⟩
theorem thaw3 {w : World} {g : Nat} {a b c : Value} {T : TypeId} (h : w.heap[g]? = some (.cells #[a, b, c] T (0, 0))) : w.frozen? ⟨g, 0, none⟩ = false ∧ w.frozen? ⟨g, 1, none⟩ = false ∧ w.frozen? ⟨g, 2, none⟩ = false :=
  ⟨frozen_of_row w g 0 _ _ h, frozen_of_row w g 1 _ _ h, frozen_of_row w g 2 _ _ h⟩
theorem own_form {E : TypeId} {B n m : Nat} {w : World} {v : Value} {xs : List Value} (h : w.ownsRow B E n v m xs) : ∃ A c, v = .slice A m c ∧ m ≤ c := by
  rcases h.2 with ⟨rfl, h0⟩ | ⟨b, cap, cur, rfl, hB, hb, h1, _⟩
  · exact ⟨none, 0, by rw [h0], by omega⟩
  · exact ⟨_, cap, rfl, h1⟩
theorem own_block {E : TypeId} {B n m b c : Nat} {w : World} {xs : List Value} (h : w.ownsRow B E n (.slice (some ⟨b, 0, none⟩) m c) m xs) : ∃ cur, w.heap[b]? = some (.cells cur E (0, 0)) ∧ cur.size = c * n ∧ cur.toList.take (m * n) = xs := by
  rcases h.2 with ⟨h0, _⟩ | ⟨b', cap, cur, e, hB, hb, h1, h2, h3, h4⟩
  · cases h0
  · injection e with e1 _ e3
    injection e1 with e1
    injection e1 with e1
    subst e1 e3
    exact ⟨cur, hb, h3, h4⟩
theorem run_clear_two {P : Program} (w : World) (t e ty : TypeId) (z0 z1 : Value) (ht : P.underlying t = some (.slice e)) (hv : ∀ w, (zeroValue e).run P w = .ok (.agg #[z0, z1]) w) (hc : (Value.agg #[z0, z1]).cells = #[z0, z1]) (h0 : z0.oneCell' = true) (h1 : z1.oneCell' = true)
    (b o c : Nat) (cur : Array Value) (E : TypeId) (hb : w.heap[b]? = some (.cells cur E (0, 0))) (hs : o + 2 ≤ cur.size) :
    (Builtin.clear_ #[t] ty #[.slice (some ⟨b, o, none⟩) 1 c]).run P w = .ok (.tuple #[]) (w.setRow b (cur.toList.take o ++ [z0, z1] ++ cur.toList.drop (o + 2)).toArray) := by
  have hst := run_storeCells_at P b o E [z0, z1] 0 cur w hb (by simpa using hs) (by intro v hv'; simp at hv'; rcases hv' with rfl | rfl <;> assumption)
  have hz : (Builtin.zeroCells #[z0, z1] 1).toList = [z0, z1] := by simp [Builtin.zeroCells, Array.range, Array.ofFn]; rfl
  simp only [Nat.add_zero, List.length_cons, List.length_nil, Nat.zero_add, Nat.reduceAdd] at hst
  simp [Builtin.clear_, run_underlying ht, hv, hc, hz, hst]
/-- It is a slice of one pair. -/
def one2 (x y : Value) : Keep := ⟨fun u w => ∃ b, u = .slice (some ⟨b, 0, none⟩) 1 1 ∧ b < w.heap.size ∧ w.cell? ⟨b, 0, none⟩ = some x ∧ w.cell? ⟨b, 1, none⟩ = some y, fun _ _ _ hb ⟨b, h1, h2, h3, h4⟩ => ⟨b, h1, Nat.lt_of_lt_of_le h2 hb.size, (hb.cell (p := ⟨b, 0, none⟩) h2).trans h3, (hb.cell (p := ⟨b, 1, none⟩) h2).trans h4⟩⟩
/-- A row of pairs: where it lies. -/
theorem own_cells {E : TypeId} {α : Type} {enc : α → Value} {B : Nat} {w : World} {v : Value} {l : List (Nat × α)} (h : w.ownsRow B E 2 v l.length (flat enc l)) : ∃ A c, v = .slice A l.length c ∧ l.length ≤ c ∧ c ≤ maxLen ∧ ∀ k (hk : k < l.length), ∃ b, A = some ⟨b, 0, none⟩ ∧ b < w.heap.size ∧ w.cell? ⟨b, k * 2, none⟩ = some (.int .i64 (l[k].1 : Int)) ∧ w.cell? ⟨b, k * 2 + 1, none⟩ = some (enc l[k].2) := by
  rcases h.2 with ⟨rfl, h0⟩ | ⟨b, cap, cur, rfl, hB, hb, h1, h2, h3, h4⟩
  · exact ⟨none, 0, by rw [h0], by omega, Nat.zero_le _, fun k hk => absurd hk (by omega)⟩
  · refine ⟨_, cap, rfl, h1, h2, fun k hk => ⟨b, rfl, (Array.getElem?_eq_some_iff.1 hb).1, ?_, ?_⟩⟩
    · rw [cell_of_row w b _ cur E (0, 0) hb, ← (flat_at enc l k hk).1, ← h4, List.getElem?_take, if_pos (by omega), Array.getElem?_toList]
    · rw [cell_of_row w b _ cur E (0, 0) hb, ← (flat_at enc l k hk).2, ← h4, List.getElem?_take, if_pos (by omega), Array.getElem?_toList]
end Go.Proofs.Ytihlojkghemjeaa.TbG
