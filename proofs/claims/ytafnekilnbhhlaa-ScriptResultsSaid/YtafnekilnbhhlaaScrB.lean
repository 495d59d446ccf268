/- Scripts: operations as cells: 27 of them; boxes, slices. -/
import Derived.Test.YtafnekilnbhhlaaScrP
import Derived.Test.YtafnekilnbhhlaaAnsI
import Derived.Test.YtafnekilnbhhlaaBase4
import Derived.Great.BuildSlice
import Derived.Deep.Cut
namespace Go.Proofs.Ytafnekilnbhhlaa.ScrB
open Go.RowKit Go.Proofs.Ytafnekilnbhhlaa.Base Go.Proofs.Ytafnekilnbhhlaa.Base2 Go.Proofs.Ytafnekilnbhhlaa.AnsP Go.Proofs.Ytafnekilnbhhlaa.ScrP

def cells (o : O) : List Value := .int .u8 (o.k : Int) :: .int .u8 (o.f : Int) :: .int .i64 (AnsW.sg o.h) :: .int .i64 (AnsW.sg o.a) :: .int .i64 (AnsW.sg o.b) :: .string (strOf o.s) :: .string (strOf o.t) :: .string (strOf o.c) :: .string (strOf o.d) :: .int .i64 (AnsW.sg o.p) :: .int .i64 (AnsW.sg o.n) :: bcells o.r
def val (o : O) : Value := .agg (cells o).toArray
theorem length_cells {o : O} (h : o.r.length = 16) : (cells o).length = 27 := by simp [cells, length_bcells, h]
theorem cells_one (o : O) : ∀ u ∈ cells o, u.oneCell' = true := by
  intro u hu
  simp only [cells, List.mem_cons] at hu
  rcases hu with rfl | rfl | rfl | rfl | rfl | rfl | rfl | rfl | rfl | rfl | rfl | hu
  all_goals first | rfl | exact bcells_one _ u hu
/-- Block g is an operation. -/
def OB (T : TypeId) (w : World) (g : Nat) (o : O) : Prop := w.heap[g]? = some (.cells (cells o).toArray T (0, 0))
variable {T : TypeId} {w w' : World} {g : Nat} {o o' : O}
theorem OB.lt (h : OB T w g o) : g < w.heap.size := (Array.getElem?_eq_some_iff.1 h).1
theorem OB.below (h : OB T w g o) (hb : Below w.heap.size w w') : OB T w' g o := (hb.block g h.lt).trans h
theorem OB.under {B : Nat} (h : OB T w g o) (hb : Below B w w') (hg : g < B) : OB T w' g o := (hb.block g hg).trans h
theorem OB.cell (h : OB T w g o) (i : Nat) {v : Value} (e : (cells o)[i]? = some v) : w.cell? ⟨g, i, none⟩ = some v := (cell_of_row w g i _ _ _ h).trans (by rw [List.getElem?_toArray]; exact e)
theorem OB.thaw (h : OB T w g o) (i : Nat) : w.frozen? ⟨g, i, none⟩ = false := frozen_of_row w g i _ _ h
theorem OB.put (h : OB T w g o) (i : Nat) (x : Value) (e : (cells o).set i x = cells o') : OB T (w.setCell ⟨g, i, none⟩ x) g o' := by
  have := heap_setCell_same w g i _ _ x h
  rw [List.setIfInBounds_toArray, e] at this
  exact this
theorem OB.other (h : OB T w g o) {k : Nat} (hk : g ≠ k) (i : Nat) (x : Value) : OB T (w.setCell ⟨k, i, none⟩ x) g o := (heap_setCell_other w ⟨k, i, none⟩ g x hk).trans h
theorem OB.new (T : TypeId) (w : World) (o : O) : OB T (w.alloc (.cells (cells o).toArray T)) w.heap.size o := heap_alloc_new w _
theorem size_cells (h : o.r.length = 16) : (cells o).toArray.size = 27 := by rw [List.size_toArray]; exact length_cells h
theorem OB.load {fs : Array Field} (h : OB T w g o) (hr : o.r.length = 16) (hu : Try.prog.underlying T = some (.struct fs)) (hi : (Try.prog.info? T).map (·.size) = some 27) : (loadVar T ⟨g, 0, none⟩).run Try.prog w = .ok (val o) w :=
  run_loadVar_row w g T T _ (0, 0) _ h hu rfl (by rw [size_cells hr]; exact hi)
theorem OB.row (h : OB T w g o') (o : O) : OB T (w.setRow g (cells o).toArray) g o := setRow_heap w g _ _ _ (0, 0) h
theorem OB.rowo (h : OB T w g o) {k : Nat} (hk : g ≠ k) (c : Array Value) : OB T (w.setRow k c) g o := (setRow_other w k g c hk).trans h
theorem below_row {w0 : World} {B : Nat} (h : Below B w0 w) (hg : B ≤ g) (c : Array Value) : Below B w0 (w.setRow g c) :=
  ⟨h.os, h.tape, h.output, by simpa using h.size, fun b hb => (setRow_other w g b c (by omega)).trans (h.block b hb)⟩
theorem agg_struct {S : TypeId} {fs : Array Field} (hu : Try.prog.underlying S = some (.struct fs)) (w : World) : (isAgg S).run Try.prog w = .ok true w := by
  unfold isAgg
  rw [Sem.run_bind, run_underlying hu w]
  rfl
theorem agg_array {S e : TypeId} {n : Nat} (hu : Try.prog.underlying S = some (.array n e)) (w : World) : (isAgg S).run Try.prog w = .ok true w := by
  unfold isAgg
  rw [Sem.run_bind, run_underlying hu w]
  rfl
theorem loadVar_list {S : TypeId} {ad : Addr} {cs : List Value} (h : ∀ (j : Nat) (v : Value), cs[j]? = some v → w.cell? (ad.add j) = some v) (hagg : (isAgg S).run Try.prog w = .ok true w) (hi : (Try.prog.info? S).map (·.size) = some cs.length) : (loadVar S ad).run Try.prog w = .ok (.agg cs.toArray) w := by
  have hl := run_loadCells_list (P := Try.prog) w ad cs h
  cases hq : Try.prog.info? S with
  | none => simp [hq] at hi
  | some i =>
    have hs : i.size = cs.length := by simpa [hq] using hi
    simp [loadVar, Sem.run_bind, hagg, sizeOf, typeInfo, hq, hs, hl]
/-- The bytes of an operation that lies in block g, as an array. -/
theorem OB.bytes {S e : TypeId} {n : Nat} (h : OB T w g o) (hr : o.r.length = 16) (hu : Try.prog.underlying S = some (.array n e)) (hi : (Try.prog.info? S).map (·.size) = some 16) : (loadVar S ⟨g, 11, none⟩).run Try.prog w = .ok (.agg (bcells o.r).toArray) w :=
  loadVar_list (fun j v hv => by
    rw [AnsW.add_at', cell_of_row w g (11 + j) _ _ _ h, List.getElem?_toArray, Nat.add_comm 11 j]
    exact hv) (agg_array hu w) (by rw [length_bcells, hr]; exact hi)
/-- What is read of an array of bytes. -/
theorem at_bytes {L : List UInt8} {S e : TypeId} {n : Nat} (k : Nat) (hk : k < L.length) (hn : n = L.length) (hu : Try.prog.underlying S = some (.array n e)) (he : Try.prog.underlying e = some (.int .u8)) (hi : (Try.prog.info? e).map (·.size) = some 1) (w : World) : (Instr.index S (.agg (bcells L).toArray) (.int .i64 (k : Int))).run Try.prog w = .ok (.int .u8 (L[k].toNat : Int)) w := by
  have h1 : (sizeOf e).run Try.prog w = .ok 1 w := by
    cases hq : Try.prog.info? e with
    | none => simp [hq] at hi
    | some i =>
      have hs : i.size = 1 := by simpa [hq] using hi
      simp [sizeOf, typeInfo, hq, hs]
  have h2 : (isAgg e).run Try.prog w = .ok false w := by
    unfold isAgg
    rw [Sem.run_bind, run_underlying he w]
    rfl
  have h3 : (bcells L)[k]? = some (.int .u8 (L[k].toNat : Int)) := by simp [bcells, hk]
  have h4 : 0 ≤ (k : Int) ∧ (k : Int) < (n : Int) := by omega
  have h5 : (k : Int).toNat = k := by simp
  have h6 : k < n := by omega
  simp [Instr.index, run_underlying hu, asIntOf, h6, h1, part, h2, h3, Sem.run_bind]
/-- A slice of n operations at A. -/
def Ops (w : World) (A : Option Addr) (n : Nat) (l : List O) : Prop := l.length = n ∧ Rds w A (n * 27) (l.flatMap cells) ∧ ∀ o ∈ l, o.r.length = 16
theorem Ops.below {A : Option Addr} {n : Nat} {l : List O} (h : Ops w A n l) (hb : Below w.heap.size w w') : Ops w' A n l := ⟨h.1, h.2.1.below hb, h.2.2⟩
theorem flat_len (l : List O) (h : ∀ o ∈ l, o.r.length = 16) : (l.flatMap cells).length = l.length * 27 := by
  induction l with
  | nil => rfl
  | cons o l ih => rw [List.flatMap_cons, List.length_append, length_cells (h o (by simp)), ih fun x hx => h x (by simp [hx]), List.length_cons]; omega
theorem flat_at (l : List O) (h : ∀ o ∈ l, o.r.length = 16) (j : Nat) (hj : j < l.length) (i : Nat) (hi : i < 27) : (l.flatMap cells)[j * 27 + i]? = (cells l[j])[i]? := by
  induction l generalizing j with
  | nil => simp at hj
  | cons o l ih =>
    have hc := length_cells (h o (by simp))
    rw [List.flatMap_cons]
    cases j with
    | zero =>
      rw [List.getElem?_append_left (by omega)]
      simp
    | succ j =>
      rw [List.getElem?_append_right (by omega), hc, show (j + 1) * 27 + i - 27 = j * 27 + i by omega, ih (fun x hx => h x (by simp [hx])) j (by simpa using hj)]
      simp
theorem Ops.load {S : TypeId} {fs : Array Field} {b off n : Nat} {l : List O} (h : Ops w (some ⟨b, off, none⟩) n l) (j : Nat) (hj : j < l.length) (hu : Try.prog.underlying S = some (.struct fs)) (hi : (Try.prog.info? S).map (·.size) = some 27) : (loadVar S ⟨b, off + j * 27, none⟩).run Try.prog w = .ok (val l[j]) w :=
  have hc := length_cells (h.2.2 l[j] (List.getElem_mem hj))
  loadVar_list (cs := cells l[j]) (fun i v hv => by
    have hi : i < 27 := by rw [← hc]; exact (List.getElem?_eq_some_iff.1 hv).1
    have hf := flat_at l h.2.2 j hj i hi
    rw [hv] at hf
    obtain ⟨h5, h6⟩ := List.getElem?_eq_some_iff.1 hf
    obtain ⟨b', off', e, _, hcell⟩ := h.2.1.2 (j * 27 + i) h5
    injection e with e
    injection e with e1 e2
    subst e1 e2
    rw [AnsW.add_at', Nat.add_assoc, hcell, h6]) (agg_struct hu w) (by rw [hc]; exact hi)
theorem Ops.spot {A : Option Addr} {n : Nat} {l : List O} (h : Ops w A n l) (hn : 0 < n) : ∃ b off, A = some ⟨b, off, none⟩ ∧ b < w.heap.size := by
  obtain ⟨b, off, e, hb, _⟩ := h.2.1.spot (by omega)
  exact ⟨b, off, e, hb⟩
/-- An operation is stored into a box. -/
theorem store_op {ops : Array Oper} {rest : List Oper} {p : Oper} {a : Act} {Q : Exit → Act → World → Prop} {C : Array Value} (hU : w.heap[g]? = some (.cells C T (0, 0))) (hC : C.size = 27) (o : O) (hr : o.r.length = 16) (x y : Operand) (ho : p.op = .store T x y) (hgd : p.guard = none)
    (hx : a.eval x = .pointer (some ⟨g, 0, none⟩)) (hy : a.eval y = val o) (hi : (Try.prog.info? T).map (·.size) = some 27)
    (h : wpList Try.prog ops Q rest (a.put p.dst undef) (w.setRow g (cells o).toArray)) : wpList Try.prog ops Q (p :: rest) a w :=
  wpList_store_row hgd T x y ho g (cells o).toArray hx hy T C hU (by rw [size_cells hr]; exact hi) (by rw [size_cells hr, hC]) (by rw [List.all_toArray]; exact List.all_eq_true.2 (cells_one o)) h
/-- A new block that an operation is stored into. -/
theorem fresh (T : TypeId) (w : World) (C : Array Value) (o : O) : OB T ((w.alloc (.cells C T)).setRow w.heap.size (cells o).toArray) w.heap.size o ∧ Below w.heap.size w ((w.alloc (.cells C T)).setRow w.heap.size (cells o).toArray) :=
  ⟨setRow_heap _ _ _ _ _ (0, 0) (heap_alloc_new w _), below_row ((Below.refl _ _).alloc (Nat.le_refl _) _) (Nat.le_refl _) _⟩
/-- A load whose value is known. -/
theorem load_as {ops : Array Oper} {rest : List Oper} {p : Oper} {a : Act} {Q : Exit → Act → World → Prop} {ty : TypeId} {ad : Addr} {v : Value} (hl : (loadVar ty ad).run Try.prog w = .ok v w) (x : Operand) (ho : p.op = .load ty x) (hgd : p.guard = none) (hx : a.eval x = .pointer (some ad))
    (h : wpList Try.prog ops Q rest (a.put p.dst v) w) : wpList Try.prog ops Q (p :: rest) a w :=
  wpList_plain hgd fun _ hK => by
    unfold Oper.wp execOp
    simp only [ho, hx, Instr.loadAt, Instr.sureAddr, Sem.run_bind, Sem.run_pure, Result.andThen_ok, hl]
    exact hK _ _ h
theorem fold_at : ∀ (l : List Value) (k : Nat) (D : Array Value) (i : Nat), i < D.size → ((l.zipIdx k).foldl (fun (cs : Array Value) (x : Value × Nat) => cs.setIfInBounds (0 + x.2) x.1) D)[i]? = if k ≤ i ∧ i < k + l.length then l[i - k]? else D[i]?
  | [], k, D, i, h => by
    rw [if_neg (by simp)]
    rfl
  | v :: l, k, D, i, h => by
    rw [List.zipIdx_cons, List.foldl_cons, fold_at l (k + 1) _ i (by simpa using h)]
    by_cases h1 : k + 1 ≤ i ∧ i < k + 1 + l.length
    · rw [if_pos h1, if_pos (by simp; omega), show i - k = (i - (k + 1)) + 1 by omega, List.getElem?_cons_succ]
    · rw [if_neg h1]
      by_cases h2 : i = k
      · subst h2
        rw [if_pos (by simp), Nat.sub_self, List.getElem?_cons_zero, Nat.zero_add, Array.getElem?_setIfInBounds_self_of_lt h]
      · rw [if_neg (by simp; omega), Nat.zero_add, Array.getElem?_setIfInBounds_ne (by omega)]
theorem fold_all (C D : Array Value) (h : D.size = C.size) : C.zipIdx.foldl (fun (cs : Array Value) (x : Value × Nat) => cs.setIfInBounds (0 + x.2) x.1) D = C := by
  rw [← Array.foldl_toList, Array.toList_zipIdx]
  apply Array.ext_getElem?
  intro i
  by_cases hi : i < D.size
  · rw [fold_at _ _ _ _ hi, if_pos (by simp; omega), Nat.sub_zero, Array.getElem?_toList]
  · have hs : ∀ (l : List (Value × Nat)) (E : Array Value), (l.foldl (fun (cs : Array Value) (x : Value × Nat) => cs.setIfInBounds (0 + x.2) x.1) E).size = E.size := by
      intro l
      induction l with
      | nil => intro E; rfl
      | cons x l ih => intro E; rw [List.foldl_cons, ih]; simp
    rw [Array.getElem?_eq_none (by rw [hs]; omega), Array.getElem?_eq_none (by omega)]
/-- A slice of one struct is built. -/
theorem build_one {ops : Array Oper} {rest : List Oper} {p : Oper} {a : Act} {Q : Exit → Act → World → Prop} {t T : TypeId} {C : Array Value} (hgd : p.guard = none) (y : Operand) (ho : p.op = .buildSlice t 1 #[(0, y)]) (hu : Try.prog.underlying t = some (.slice T)) (k : Nat) (hi : (Try.prog.info? T).map (fun i => (i.zero.map (·.cells.size), i.size)) = some (some k, k)) (hk : 0 < k ∧ k ≤ 1000) (hC : C.size = k)
    (hy : a.eval y = .agg C) (h : wpList Try.prog ops Q rest (a.put p.dst (.slice (some ⟨w.heap.size, 0, none⟩) 1 1)) (w.alloc (.cells C T))) : wpList Try.prog ops Q (p :: rest) a w := by
  cases hq : Try.prog.info? T with
  | none => simp [hq] at hi
  | some ie =>
    cases hz : ie.zero with
    | none => simp [hq, hz] at hi
    | some z =>
      simp only [hq, hz, Option.map_some, Option.some.injEq, Prod.mk.injEq] at hi
      refine wpList_buildSlice hgd t T 1 #[(0, y)] ho C ie z hu hq hz (by rw [hi.2]; omega) (by rw [hi.2]; omega) ?_ h
      have e : (Array.map (fun (x : Nat × Operand) => (x.1, a.eval x.2)) #[(0, y)]).toList = [(0, .agg C)] := by simp [hy]
      rw [e]
      have hcs : (Value.agg C).cells = C := rfl
      have hlen : ((Array.range (1 * ie.size)).map (z.cells[· % z.cells.size]!)).size = C.size := by simp [hi.2, hC]
      have := fold_all C _ hlen
      simp only [Instr.fill, hcs, Nat.zero_mul]
      rw [if_neg (by simp [hlen, hi.2, hC]), this]
end Go.Proofs.Ytafnekilnbhhlaa.ScrB
