/- Scripts: the document's reading of one operation. -/
import Derived.Test.YtafnekilnbhhlaaScrF
import Derived.Test.YtafnekilnbhhlaaScrD
import Derived.Test.YtafnekilnbhhlaaRegg
namespace Go.Proofs.Ytafnekilnbhhlaa.ScrG
open Go.RowKit Go.Proofs.Ytafnekilnbhhlaa.Base Go.Proofs.Ytafnekilnbhhlaa.Base2 Go.Proofs.Ytafnekilnbhhlaa.Base3 Go.Proofs.Ytafnekilnbhhlaa.Regs Go.Proofs.Ytafnekilnbhhlaa.AnsP Go.Proofs.Ytafnekilnbhhlaa.ScrP Go.Proofs.Ytafnekilnbhhlaa.ScrB Go.Proofs.Ytafnekilnbhhlaa.ScrD

/-- What the document's 'one' has laid: its result and its operation (nothing yet), the numbers and texts read so far, how long they are. -/
structure St (w wr : World) (o : O) : Prop where
  res : OB 40 wr w.heap.size zro
  own : OB 40 wr (w.heap.size + 1) zro
  num : wr.heap[w.heap.size + 2]? = some (.cells #[.int .u64 (o.k : Int), .int .u64 (o.f : Int), .int .u64 (o.h : Int), .int .u64 (o.a : Int), .int .u64 (o.b : Int), .int .u64 (o.p : Int), .int .u64 (o.n : Int)] 84 (0, 0))
  txt : wr.heap[w.heap.size + 3]? = some (.cells #[.string (strOf o.s), .string (strOf o.t), .string (strOf o.c), .string (strOf o.d)] 85 (0, 0))
  long : wr.heap[w.heap.size + 4]? = some (.cells #[.int .i64 1, .int .i64 1, .int .i64 8, .int .i64 8, .int .i64 8, .int .i64 8, .int .i64 8] 3 (0, 0))
  below : Below w.heap.size w wr
theorem blk {w w' : World} {k : Nat} {b : Obj} (h : w.heap[k]? = some b) (hb : Below w.heap.size w w') : w'.heap[k]? = some b := (hb.block k (Array.getElem?_eq_some_iff.1 h).1).trans h
theorem St.go {w wr w1 : World} {o : O} (h : St w wr o) (hb : Below wr.heap.size wr w1) : St w w1 o :=
  ⟨h.res.below hb, h.own.below hb, blk h.num hb, blk h.txt hb, blk h.long hb, h.below.trans (hb.mono h.below.size)⟩
theorem St.lens {w wr : World} {o : O} (h : St w wr o) : wr.cell? ⟨w.heap.size + 4, 0, none⟩ = some (.int .i64 1) ∧ wr.cell? ⟨w.heap.size + 4, 1, none⟩ = some (.int .i64 1) ∧ wr.cell? ⟨w.heap.size + 4, 2, none⟩ = some (.int .i64 8) ∧ wr.cell? ⟨w.heap.size + 4, 3, none⟩ = some (.int .i64 8) ∧ wr.cell? ⟨w.heap.size + 4, 4, none⟩ = some (.int .i64 8) ∧ wr.cell? ⟨w.heap.size + 4, 5, none⟩ = some (.int .i64 8) ∧ wr.cell? ⟨w.heap.size + 4, 6, none⟩ = some (.int .i64 8) :=
  ⟨(cell_of_row wr _ 0 _ _ _ h.long).trans rfl, (cell_of_row wr _ 1 _ _ _ h.long).trans rfl, (cell_of_row wr _ 2 _ _ _ h.long).trans rfl, (cell_of_row wr _ 3 _ _ _ h.long).trans rfl, (cell_of_row wr _ 4 _ _ _ h.long).trans rfl, (cell_of_row wr _ 5 _ _ _ h.long).trans rfl, (cell_of_row wr _ 6 _ _ _ h.long).trans rfl⟩
theorem St.nums {w wr : World} {o : O} (h : St w wr o) : wr.cell? ⟨w.heap.size + 2, 0, none⟩ = some (.int .u64 (o.k : Int)) ∧ wr.cell? ⟨w.heap.size + 2, 1, none⟩ = some (.int .u64 (o.f : Int)) ∧ wr.cell? ⟨w.heap.size + 2, 2, none⟩ = some (.int .u64 (o.h : Int)) ∧ wr.cell? ⟨w.heap.size + 2, 3, none⟩ = some (.int .u64 (o.a : Int)) ∧ wr.cell? ⟨w.heap.size + 2, 4, none⟩ = some (.int .u64 (o.b : Int)) ∧ wr.cell? ⟨w.heap.size + 2, 5, none⟩ = some (.int .u64 (o.p : Int)) ∧ wr.cell? ⟨w.heap.size + 2, 6, none⟩ = some (.int .u64 (o.n : Int)) :=
  ⟨(cell_of_row wr _ 0 _ _ _ h.num).trans rfl, (cell_of_row wr _ 1 _ _ _ h.num).trans rfl, (cell_of_row wr _ 2 _ _ _ h.num).trans rfl, (cell_of_row wr _ 3 _ _ _ h.num).trans rfl, (cell_of_row wr _ 4 _ _ _ h.num).trans rfl, (cell_of_row wr _ 5 _ _ _ h.num).trans rfl, (cell_of_row wr _ 6 _ _ _ h.num).trans rfl⟩
theorem St.txts {w wr : World} {o : O} (h : St w wr o) : wr.cell? ⟨w.heap.size + 3, 0, none⟩ = some (.string (strOf o.s)) ∧ wr.cell? ⟨w.heap.size + 3, 1, none⟩ = some (.string (strOf o.t)) ∧ wr.cell? ⟨w.heap.size + 3, 2, none⟩ = some (.string (strOf o.c)) ∧ wr.cell? ⟨w.heap.size + 3, 3, none⟩ = some (.string (strOf o.d)) :=
  ⟨(cell_of_row wr _ 0 _ _ _ h.txt).trans rfl, (cell_of_row wr _ 1 _ _ _ h.txt).trans rfl, (cell_of_row wr _ 2 _ _ _ h.txt).trans rfl, (cell_of_row wr _ 3 _ _ _ h.txt).trans rfl⟩
theorem St.thawn {w wr : World} {o : O} (h : St w wr o) (k : Nat) : wr.frozen? ⟨w.heap.size + 2, k, none⟩ = false := frozen_of_row wr _ k _ _ h.num
theorem St.thawt {w wr : World} {o : O} (h : St w wr o) (k : Nat) : wr.frozen? ⟨w.heap.size + 3, k, none⟩ = false := frozen_of_row wr _ k _ _ h.txt
theorem St.nk {w wr : World} {o : O} (h : St w wr o) (x : Nat) : St w (wr.setCell ⟨w.heap.size + 2, 0, none⟩ (.int .u64 (x : Int))) { o with k := x } :=
  ⟨h.res.other (by omega) _ _, h.own.other (by omega) _ _, heap_setCell_same wr _ 0 _ _ _ h.num, (heap_setCell_other wr _ _ _ (by show w.heap.size + 3 ≠ w.heap.size + 2; omega)).trans h.txt, (heap_setCell_other wr _ _ _ (by show w.heap.size + 4 ≠ w.heap.size + 2; omega)).trans h.long, h.below.setCell (p := ⟨w.heap.size + 2, 0, none⟩) (by show w.heap.size ≤ w.heap.size + 2; omega) _⟩
theorem St.nf {w wr : World} {o : O} (h : St w wr o) (x : Nat) : St w (wr.setCell ⟨w.heap.size + 2, 1, none⟩ (.int .u64 (x : Int))) { o with f := x } :=
  ⟨h.res.other (by omega) _ _, h.own.other (by omega) _ _, heap_setCell_same wr _ 1 _ _ _ h.num, (heap_setCell_other wr _ _ _ (by show w.heap.size + 3 ≠ w.heap.size + 2; omega)).trans h.txt, (heap_setCell_other wr _ _ _ (by show w.heap.size + 4 ≠ w.heap.size + 2; omega)).trans h.long, h.below.setCell (p := ⟨w.heap.size + 2, 1, none⟩) (by show w.heap.size ≤ w.heap.size + 2; omega) _⟩
theorem St.nh {w wr : World} {o : O} (h : St w wr o) (x : Nat) : St w (wr.setCell ⟨w.heap.size + 2, 2, none⟩ (.int .u64 (x : Int))) { o with h := x } :=
  ⟨h.res.other (by omega) _ _, h.own.other (by omega) _ _, heap_setCell_same wr _ 2 _ _ _ h.num, (heap_setCell_other wr _ _ _ (by show w.heap.size + 3 ≠ w.heap.size + 2; omega)).trans h.txt, (heap_setCell_other wr _ _ _ (by show w.heap.size + 4 ≠ w.heap.size + 2; omega)).trans h.long, h.below.setCell (p := ⟨w.heap.size + 2, 2, none⟩) (by show w.heap.size ≤ w.heap.size + 2; omega) _⟩
theorem St.na {w wr : World} {o : O} (h : St w wr o) (x : Nat) : St w (wr.setCell ⟨w.heap.size + 2, 3, none⟩ (.int .u64 (x : Int))) { o with a := x } :=
  ⟨h.res.other (by omega) _ _, h.own.other (by omega) _ _, heap_setCell_same wr _ 3 _ _ _ h.num, (heap_setCell_other wr _ _ _ (by show w.heap.size + 3 ≠ w.heap.size + 2; omega)).trans h.txt, (heap_setCell_other wr _ _ _ (by show w.heap.size + 4 ≠ w.heap.size + 2; omega)).trans h.long, h.below.setCell (p := ⟨w.heap.size + 2, 3, none⟩) (by show w.heap.size ≤ w.heap.size + 2; omega) _⟩
theorem St.nb {w wr : World} {o : O} (h : St w wr o) (x : Nat) : St w (wr.setCell ⟨w.heap.size + 2, 4, none⟩ (.int .u64 (x : Int))) { o with b := x } :=
  ⟨h.res.other (by omega) _ _, h.own.other (by omega) _ _, heap_setCell_same wr _ 4 _ _ _ h.num, (heap_setCell_other wr _ _ _ (by show w.heap.size + 3 ≠ w.heap.size + 2; omega)).trans h.txt, (heap_setCell_other wr _ _ _ (by show w.heap.size + 4 ≠ w.heap.size + 2; omega)).trans h.long, h.below.setCell (p := ⟨w.heap.size + 2, 4, none⟩) (by show w.heap.size ≤ w.heap.size + 2; omega) _⟩
theorem St.np {w wr : World} {o : O} (h : St w wr o) (x : Nat) : St w (wr.setCell ⟨w.heap.size + 2, 5, none⟩ (.int .u64 (x : Int))) { o with p := x } :=
  ⟨h.res.other (by omega) _ _, h.own.other (by omega) _ _, heap_setCell_same wr _ 5 _ _ _ h.num, (heap_setCell_other wr _ _ _ (by show w.heap.size + 3 ≠ w.heap.size + 2; omega)).trans h.txt, (heap_setCell_other wr _ _ _ (by show w.heap.size + 4 ≠ w.heap.size + 2; omega)).trans h.long, h.below.setCell (p := ⟨w.heap.size + 2, 5, none⟩) (by show w.heap.size ≤ w.heap.size + 2; omega) _⟩
theorem St.nn {w wr : World} {o : O} (h : St w wr o) (x : Nat) : St w (wr.setCell ⟨w.heap.size + 2, 6, none⟩ (.int .u64 (x : Int))) { o with n := x } :=
  ⟨h.res.other (by omega) _ _, h.own.other (by omega) _ _, heap_setCell_same wr _ 6 _ _ _ h.num, (heap_setCell_other wr _ _ _ (by show w.heap.size + 3 ≠ w.heap.size + 2; omega)).trans h.txt, (heap_setCell_other wr _ _ _ (by show w.heap.size + 4 ≠ w.heap.size + 2; omega)).trans h.long, h.below.setCell (p := ⟨w.heap.size + 2, 6, none⟩) (by show w.heap.size ≤ w.heap.size + 2; omega) _⟩
theorem St.ts {w wr : World} {o : O} (h : St w wr o) (x : List UInt8) : St w (wr.setCell ⟨w.heap.size + 3, 0, none⟩ (.string (strOf x))) { o with s := x } :=
  ⟨h.res.other (by omega) _ _, h.own.other (by omega) _ _, (heap_setCell_other wr _ _ _ (by show w.heap.size + 2 ≠ w.heap.size + 3; omega)).trans h.num, heap_setCell_same wr _ 0 _ _ _ h.txt, (heap_setCell_other wr _ _ _ (by show w.heap.size + 4 ≠ w.heap.size + 3; omega)).trans h.long, h.below.setCell (p := ⟨w.heap.size + 3, 0, none⟩) (by show w.heap.size ≤ w.heap.size + 3; omega) _⟩
theorem St.tt {w wr : World} {o : O} (h : St w wr o) (x : List UInt8) : St w (wr.setCell ⟨w.heap.size + 3, 1, none⟩ (.string (strOf x))) { o with t := x } :=
  ⟨h.res.other (by omega) _ _, h.own.other (by omega) _ _, (heap_setCell_other wr _ _ _ (by show w.heap.size + 2 ≠ w.heap.size + 3; omega)).trans h.num, heap_setCell_same wr _ 1 _ _ _ h.txt, (heap_setCell_other wr _ _ _ (by show w.heap.size + 4 ≠ w.heap.size + 3; omega)).trans h.long, h.below.setCell (p := ⟨w.heap.size + 3, 1, none⟩) (by show w.heap.size ≤ w.heap.size + 3; omega) _⟩
theorem St.tc {w wr : World} {o : O} (h : St w wr o) (x : List UInt8) : St w (wr.setCell ⟨w.heap.size + 3, 2, none⟩ (.string (strOf x))) { o with c := x } :=
  ⟨h.res.other (by omega) _ _, h.own.other (by omega) _ _, (heap_setCell_other wr _ _ _ (by show w.heap.size + 2 ≠ w.heap.size + 3; omega)).trans h.num, heap_setCell_same wr _ 2 _ _ _ h.txt, (heap_setCell_other wr _ _ _ (by show w.heap.size + 4 ≠ w.heap.size + 3; omega)).trans h.long, h.below.setCell (p := ⟨w.heap.size + 3, 2, none⟩) (by show w.heap.size ≤ w.heap.size + 3; omega) _⟩
theorem St.td {w wr : World} {o : O} (h : St w wr o) (x : List UInt8) : St w (wr.setCell ⟨w.heap.size + 3, 3, none⟩ (.string (strOf x))) { o with d := x } :=
  ⟨h.res.other (by omega) _ _, h.own.other (by omega) _ _, (heap_setCell_other wr _ _ _ (by show w.heap.size + 2 ≠ w.heap.size + 3; omega)).trans h.num, heap_setCell_same wr _ 3 _ _ _ h.txt, (heap_setCell_other wr _ _ _ (by show w.heap.size + 4 ≠ w.heap.size + 3; omega)).trans h.long, h.below.setCell (p := ⟨w.heap.size + 3, 3, none⟩) (by show w.heap.size ≤ w.heap.size + 3; omega) _⟩
/-- The numbers fit. -/
structure Bnd (o : O) : Prop where
  k : o.k < 256
  f : o.f < 256
  h : o.h < 18446744073709551616
  a : o.a < 18446744073709551616
  b : o.b < 18446744073709551616
  p : o.p < 18446744073709551616
  n : o.n < 18446744073709551616
theorem bnd_zro : Bnd zro := ⟨by decide, by decide, by decide, by decide, by decide, by decide, by decide⟩
/-- The operation is being put together. -/
structure St2 (w wr : World) (o v : O) : Prop where
  res : OB 40 wr w.heap.size zro
  own : OB 40 wr (w.heap.size + 1) v
  num : wr.heap[w.heap.size + 2]? = some (.cells #[.int .u64 (o.k : Int), .int .u64 (o.f : Int), .int .u64 (o.h : Int), .int .u64 (o.a : Int), .int .u64 (o.b : Int), .int .u64 (o.p : Int), .int .u64 (o.n : Int)] 84 (0, 0))
  txt : wr.heap[w.heap.size + 3]? = some (.cells #[.string (strOf o.s), .string (strOf o.t), .string (strOf o.c), .string (strOf o.d)] 85 (0, 0))
  below : Below w.heap.size w wr
theorem St.put {w wr : World} {o : O} (h : St w wr o) (v : O) : St2 w (wr.setRow (w.heap.size + 1) (cells v).toArray) o v :=
  ⟨h.res.rowo (by omega) _, h.own.row v, (setRow_other wr _ _ _ (by omega)).trans h.num, (setRow_other wr _ _ _ (by omega)).trans h.txt, below_row h.below (by omega) _⟩
theorem St2.set {w wr : World} {o v v' : O} (h : St2 w wr o v) (i : Nat) (x : Value) (e : (cells v).set i x = cells v') : St2 w (wr.setCell ⟨w.heap.size + 1, i, none⟩ x) o v' :=
  ⟨h.res.other (by omega) _ _, h.own.put i x e, (heap_setCell_other wr _ _ _ (by show w.heap.size + 2 ≠ w.heap.size + 1; omega)).trans h.num, (heap_setCell_other wr _ _ _ (by show w.heap.size + 3 ≠ w.heap.size + 1; omega)).trans h.txt, h.below.setCell (p := ⟨w.heap.size + 1, i, none⟩) (by show w.heap.size ≤ w.heap.size + 1; omega) _⟩
theorem St2.below' {w wr wq : World} {o v : O} (h : St2 w wr o v) (hb : Below wr.heap.size wr wq) : St2 w wq o v :=
  ⟨h.res.below hb, h.own.below hb, blk h.num hb, blk h.txt hb, h.below.trans (hb.mono h.below.size)⟩
theorem St2.nums {w wr : World} {o v : O} (h : St2 w wr o v) : wr.cell? ⟨w.heap.size + 2, 5, none⟩ = some (.int .u64 (o.p : Int)) ∧ wr.cell? ⟨w.heap.size + 2, 6, none⟩ = some (.int .u64 (o.n : Int)) ∧ wr.cell? ⟨w.heap.size + 3, 2, none⟩ = some (.string (strOf o.c)) ∧ wr.cell? ⟨w.heap.size + 3, 3, none⟩ = some (.string (strOf o.d)) :=
  ⟨(cell_of_row wr _ 5 _ _ _ h.num).trans rfl, (cell_of_row wr _ 6 _ _ _ h.num).trans rfl, (cell_of_row wr _ 2 _ _ _ h.txt).trans rfl, (cell_of_row wr _ 3 _ _ _ h.txt).trans rfl⟩
/-- A load in a region that draws its order. -/
theorem step_load {ops : Array Oper} {p : Oper} {a : Act} {w : World} {Q : Exit → Act → World → Prop} {K : Act → World → Prop} {E : Prop} {ys : Array Value} {ty : TypeId} {ad : Addr} {v : Value} (hl : (loadVar ty ad).run Try.prog w = .ok v w) (x : Operand) (ho : p.op = .load ty x) (hgd : p.guard = none) (hx : a.eval x = .pointer (some ad))
    (h : K (a.put p.dst v) w) : if Region.wanted p (yielded ops ys) = true then Oper.wp Try.prog p a w K Q else E := by
  rw [if_pos (by simp [Region.wanted, hgd])]
  unfold Oper.wp execOp
  simp only [ho, hx, Instr.loadAt, Instr.sureAddr, Sem.run_bind, Sem.run_pure, Result.andThen_ok, hl]
  exact h
theorem step_store {ops : Array Oper} {p : Oper} {a : Act} {w : World} {Q : Exit → Act → World → Prop} {K : Act → World → Prop} {E : Prop} {ys : Array Value} {T : TypeId} {C : Array Value} {g : Nat} (hU : w.heap[g]? = some (.cells C T (0, 0))) (hC : C.size = 27) (o : O) (hr : o.r.length = 16) (x y : Operand) (ho : p.op = .store T x y) (hgd : p.guard = none)
    (hx : a.eval x = .pointer (some ⟨g, 0, none⟩)) (hy : a.eval y = ScrB.val o) (hi : (Try.prog.info? T).map (·.size) = some 27)
    (h : K (a.put p.dst undef) (w.setRow g (cells o).toArray)) : if Region.wanted p (yielded ops ys) = true then Oper.wp Try.prog p a w K Q else E := by
  rw [if_pos (by simp [Region.wanted, hgd])]
  exact wp_store_row T x y ho g (cells o).toArray hx hy T C hU (by rw [size_cells hr]; exact hi) (by rw [size_cells hr, hC]) (by rw [List.all_toArray]; exact List.all_eq_true.2 (cells_one o)) h
/-- What holds while the operation goes into the result. -/
def Gq (w : World) (o v : O) (L : Nat → Bool) (_ : Nat → Value) (wr : World) : Prop := (L 3 = false → St2 w wr o v) ∧ (L 3 = true → OB 40 wr w.heap.size v ∧ Below w.heap.size w wr)
theorem gq_stab {w : World} {o v : O} {L : Nat → Bool} {t : Nat → Value} {u : Value} {wr wq : World} (i : Nat) (hi : (i == 3) = false) (hb : Below wr.heap.size wr wq) (h : Gq w o v L t wr) : Gq w o v (did L i) (upd t i u) wq := by
  have e : did L i 3 = L 3 := did_ne L (by rintro rfl; cases hi)
  exact ⟨fun e3 => (h.1 (e ▸ e3)).below' hb, fun e3 => by
    obtain ⟨h1, h2⟩ := h.2 (e ▸ e3)
    exact ⟨h1.below hb, h2.trans (hb.mono h2.size)⟩⟩
theorem gq_store {w : World} {o v : O} {L : Nat → Bool} {t : Nat → Value} {u : Value} {wr : World} (hL : L 3 = false) (h : Gq w o v L t wr) : Gq w o v (did L 3) (upd t 3 u) (wr.setRow w.heap.size (cells v).toArray) :=
  ⟨fun e => absurd e (by rw [did_self]; simp), fun _ => ⟨(h.1 hL).res.row v, below_row (h.1 hL).below (Nat.le_refl _) _⟩⟩
theorem begin_any (w : World) : St w (((((w.alloc (.cells (cells zro).toArray 40)).alloc (.cells (cells zro).toArray 40)).alloc (.cells #[.int .u64 0, .int .u64 0, .int .u64 0, .int .u64 0, .int .u64 0, .int .u64 0, .int .u64 0] 84)).alloc (.cells #[.string ⟨#[]⟩, .string ⟨#[]⟩, .string ⟨#[]⟩, .string ⟨#[]⟩] 85)).alloc (.cells #[.int .i64 1, .int .i64 1, .int .i64 8, .int .i64 8, .int .i64 8, .int .i64 8, .int .i64 8] 3)) zro := by
  have key : ∀ (b0 b1 b2 b3 b4 : Obj), (((((w.alloc b0).alloc b1).alloc b2).alloc b3).alloc b4).heap[w.heap.size]? = some b0 ∧ (((((w.alloc b0).alloc b1).alloc b2).alloc b3).alloc b4).heap[w.heap.size + 1]? = some b1 ∧ (((((w.alloc b0).alloc b1).alloc b2).alloc b3).alloc b4).heap[w.heap.size + 2]? = some b2 ∧ (((((w.alloc b0).alloc b1).alloc b2).alloc b3).alloc b4).heap[w.heap.size + 3]? = some b3 ∧ (((((w.alloc b0).alloc b1).alloc b2).alloc b3).alloc b4).heap[w.heap.size + 4]? = some b4 ∧ Below w.heap.size w (((((w.alloc b0).alloc b1).alloc b2).alloc b3).alloc b4) := by
    intro b0 b1 b2 b3 b4
    have s : ∀ (W : World) (b : Obj), (W.alloc b).heap.size = W.heap.size + 1 := fun W b => by simp
    have n : ∀ (W : World) (b : Obj), (W.alloc b).heap[W.heap.size]? = some b := fun W b => heap_alloc_new W b
    have k : ∀ (W : World) (b : Obj) (i : Nat) (c : Obj), W.heap[i]? = some c → (W.alloc b).heap[i]? = some c := fun W b i c h => blk h ((Below.refl _ _).alloc (Nat.le_refl _) _)
    have n1 := n (w.alloc b0) b1
    have n2 := n ((w.alloc b0).alloc b1) b2
    have n3 := n (((w.alloc b0).alloc b1).alloc b2) b3
    have n4 := n ((((w.alloc b0).alloc b1).alloc b2).alloc b3) b4
    simp only [s] at n1 n2 n3 n4
    exact ⟨k _ _ _ _ (k _ _ _ _ (k _ _ _ _ (k _ _ _ _ (n w b0)))), k _ _ _ _ (k _ _ _ _ (k _ _ _ _ n1)), k _ _ _ _ (k _ _ _ _ n2), k _ _ _ _ n3, n4, (((((Below.refl _ _).alloc (Nat.le_refl _) _).alloc (by simp) _).alloc (by simp; omega) _).alloc (by simp; omega) _).alloc (by simp; omega) _⟩
  obtain ⟨h0, h1, h2, h3, h4, h5⟩ := key (.cells (cells zro).toArray 40) (.cells (cells zro).toArray 40) (.cells #[.int .u64 0, .int .u64 0, .int .u64 0, .int .u64 0, .int .u64 0, .int .u64 0, .int .u64 0] 84) (.cells #[.string ⟨#[]⟩, .string ⟨#[]⟩, .string ⟨#[]⟩, .string ⟨#[]⟩] 85) (.cells #[.int .i64 1, .int .i64 1, .int .i64 8, .int .i64 8, .int .i64 8, .int .i64 8, .int .i64 8] 3)
  exact ⟨h0, h1, h2, h3, h4, h5⟩
theorem res_one {w : World} {g : Nat} {o : O} (h : OB 40 w g o) (hr : o.r.length = 16) (s : ByteArray) (z : Bool) (tmps : Array Value) (h2 : tmps.getD 2 undef = .pointer (some ⟨g, 0, none⟩)) (h3 : tmps.getD 3 undef = .string s) (h4 : tmps.getD 4 undef = .bool z) :
    (results Try.f26 tmps).run Try.prog w = .ok (.tuple #[ScrB.val o, .string s, .bool z]) w := by
  have hp' : tmps[2]?.getD undef = .pointer (some ⟨g, 0, none⟩) := by simpa using h2
  have hq' : tmps[3]?.getD undef = .string s := by simpa using h3
  have hr' : tmps[4]?.getD undef = .bool z := by simpa using h4
  have hl := h.load hr Try.underlying40 (by kernel_rfl)
  simp [results, Try.results26, hp', hq', hr', asAddr, hl]
/-- What 'one' answers. -/
def One (w : World) (L : List UInt8) (e : Ending) (w' : World) : Prop := Below w.heap.size w w' ∧ match dec1 L with
  | none => e = .returned (.tuple #[ScrB.val zro, .string ⟨#[]⟩, .bool false])
  | some (o, M) => e = .returned (.tuple #[ScrB.val o, .string (strOf M), .bool true])
def jf (k : Nat) : Nat := if k ≤ 5 then k else k + 4
/-- The end where nothing is there. -/
theorem fail_end {w wr : World} {o : O} {L : List UInt8} (h : St w wr o) (hd : dec1 L = none) : One w L (.returned (.tuple #[ScrB.val zro, .string ⟨#[]⟩, .bool false])) (wr.setRow w.heap.size (cells zro).toArray) := ⟨below_row h.below (Nat.le_refl _) _, by rw [hd]⟩
theorem rdf_len_le {fs : List Fld} {o : O} {M : List UInt8} {L : List UInt8} (_ : dec1 L = rdf fs o M) : True := trivial
set_option linter.unusedSimpArgs false in
set_option maxRecDepth 100000 in
set_option maxHeartbeats 64000000 in
theorem one_any (s : ByteArray) (w : World) (hs : s.size ≤ 1000000) : Calls Try.prog 26 #[.string s] w (One w s.data.toList) := by
  have hsl : s.data.toList.length = s.size := Array.length_toList
  obtain ⟨L, hL⟩ : ∃ L, L = s.data.toList := ⟨_, rfl⟩
  rw [← hL] at hsl ⊢
  have hsL : s = strOf L := by rw [hL, strOf_toList]
  subst hsL
  clear hL
  have HSL : Hid (L.length ≤ 1000000) := by show _ ≤ _; omega
  have HA := hid (begin_any w)
  have hz : (zro : O).r.length = 16 := rfl
  have HZ := hid hz
  clear hsl hs hz
  go_enter Try.func26, Try.ntmps26
  go_upto_region 7 with (fail)
  generalize hw : World.alloc (World.alloc (World.alloc (World.alloc (World.alloc w _) _) _) _) _ = W0
  have h1 : St w W0 zro := by subst hw; exact HA.out
  have HA0 := hid h1
  clear h1 hw HA
  go_loopw [0, 9, 10, 11, 14, 19] (fun v0 _ _ _ vk _ wr => ∃ (k : Nat) (o : O) (M : List UInt8), k ≤ 7 ∧ vk = .int .i64 (k : Int) ∧ v0 = .string (strOf M) ∧ Hid (dec1 L = rdf (flds.drop (jf k)) o M) ∧ Hid (M.length ≤ L.length) ∧ Hid (o.r = List.replicate 16 0) ∧ Hid (Bnd o) ∧ Hid (St w wr o)) (fun _ _ _ _ vk _ _ => 7 - (intOf vk).toNat)
  case atStart => exact ⟨0, zro, L, by omega, rfl, rfl, rfl, Nat.le_refl _, rfl, bnd_zro, HA0.out⟩
  case round =>
    clear HA0
    obtain ⟨k, o, M, hk, hv, rfl, HT, HLE, HRZ, HBD, HS⟩ := hrel
    have HML : Hid ((strOf M).size ≤ 1073741824) := by have := HLE.out; have := HSL.out; show _ ≤ _; rw [size_strOf]; omega
    by_cases hk7 : k < 7
    · obtain ⟨l0, l1, l2, l3, l4, l5, l6⟩ := HS.out.lens
      rcases (show k = 0 ∨ 0 < k by omega) with hk0 | hk0
      · subst hk0
        obtain rfl : u14 = .int .i64 0 := hv
        have HTK : Hid (dec1 L = rdf (flds.drop 0) o M) := HT.out
        clear HT
        go_wp2_with fail
        refine (AnsF.take_any (strOf M) 1 _ HML.out (by omega)).mono ?_
        rw [show (strOf M).data.toList = M from rfl]
        cases hr : rd 1 M with
        | none =>
          rintro e w1 ⟨rfl, hb⟩
          have HD : Hid (dec1 L = none) := by show _ = _; rw [HTK.out]; show rdf (_ :: _) _ _ = _; simp only [rdf, hr]
          have HS1 := hid (HS.out.go hb)
          have HSX := hid (HS1.out.nk 0)
          have hcell := HS1.out.nums.1
          have hz := HS1.out.thawn 0
          clear hb hr
          have HLD := hid (HSX.out.own.load HZ.out Try.underlying40 (by kernel_rfl))
          go_wp2_with (first | refine load_as HLD.out (.tmp 5) rfl rfl rfl ?_ | refine store_op HSX.out.res (size_cells (by rfl)) zro HZ.out (.tmp 2) (.tmp 48) rfl rfl rfl rfl (by kernel_rfl) ?_)
          try simp only [Exit.inBlock, Exit.then]
          exact bodyPost_ret (res_one (HSX.out.res.row zro) HZ.out _ false _ rfl rfl rfl) rfl (fail_end HSX.out HD.out)
        | some p =>
          obtain ⟨x, M1⟩ := p
          rintro e w1 ⟨rfl, hb⟩
          have HT1 : Hid (dec1 L = rdf (flds.drop 1) { o with k := x } M1) := by show _ = _; rw [HTK.out]; show rdf (_ :: _) _ _ = _; simp only [rdf, hr]; rfl
          have HLE1 : Hid (M1.length ≤ L.length) := by have := rd_len hr; have := HLE.out; show _ ≤ _; omega
          have HRZ1 : Hid (({ o with k := x } : O).r = List.replicate 16 0) := HRZ.out
          have HBD1 : Hid (Bnd { o with k := x }) := ⟨by have := (rd_some hr).2; simpa using this, HBD.out.f, HBD.out.h, HBD.out.a, HBD.out.b, HBD.out.p, HBD.out.n⟩
          have HS1 := hid (HS.out.go hb)
          have HSX := hid (HS1.out.nk x)
          have hcell := HS1.out.nums.1
          have hz := HS1.out.thawn 0
          clear hb hr
          go_wp2
          go_roundw
          case rel => exact ⟨1, { o with k := x }, M1, by omega, rfl, rfl, HT1.out, HLE1.out, HRZ1.out, HBD1.out, HSX.out⟩
          case measure => simp [intOf]
      rcases (show k = 1 ∨ 1 < k by omega) with hk1 | hk1
      · subst hk1
        obtain rfl : u14 = .int .i64 1 := hv
        have HTK : Hid (dec1 L = rdf (flds.drop 1) o M) := HT.out
        clear HT
        go_wp2_with fail
        refine (AnsF.take_any (strOf M) 1 _ HML.out (by omega)).mono ?_
        rw [show (strOf M).data.toList = M from rfl]
        cases hr : rd 1 M with
        | none =>
          rintro e w1 ⟨rfl, hb⟩
          have HD : Hid (dec1 L = none) := by show _ = _; rw [HTK.out]; show rdf (_ :: _) _ _ = _; simp only [rdf, hr]
          have HS1 := hid (HS.out.go hb)
          have HSX := hid (HS1.out.nf 0)
          have hcell := HS1.out.nums.2.1
          have hz := HS1.out.thawn 1
          clear hb hr
          have HLD := hid (HSX.out.own.load HZ.out Try.underlying40 (by kernel_rfl))
          go_wp2_with (first | refine load_as HLD.out (.tmp 5) rfl rfl rfl ?_ | refine store_op HSX.out.res (size_cells (by rfl)) zro HZ.out (.tmp 2) (.tmp 48) rfl rfl rfl rfl (by kernel_rfl) ?_)
          try simp only [Exit.inBlock, Exit.then]
          exact bodyPost_ret (res_one (HSX.out.res.row zro) HZ.out _ false _ rfl rfl rfl) rfl (fail_end HSX.out HD.out)
        | some p =>
          obtain ⟨x, M1⟩ := p
          rintro e w1 ⟨rfl, hb⟩
          have HT1 : Hid (dec1 L = rdf (flds.drop 2) { o with f := x } M1) := by show _ = _; rw [HTK.out]; show rdf (_ :: _) _ _ = _; simp only [rdf, hr]; rfl
          have HLE1 : Hid (M1.length ≤ L.length) := by have := rd_len hr; have := HLE.out; show _ ≤ _; omega
          have HRZ1 : Hid (({ o with f := x } : O).r = List.replicate 16 0) := HRZ.out
          have HBD1 : Hid (Bnd { o with f := x }) := ⟨HBD.out.k, by have := (rd_some hr).2; simpa using this, HBD.out.h, HBD.out.a, HBD.out.b, HBD.out.p, HBD.out.n⟩
          have HS1 := hid (HS.out.go hb)
          have HSX := hid (HS1.out.nf x)
          have hcell := HS1.out.nums.2.1
          have hz := HS1.out.thawn 1
          clear hb hr
          go_wp2
          go_roundw
          case rel => exact ⟨2, { o with f := x }, M1, by omega, rfl, rfl, HT1.out, HLE1.out, HRZ1.out, HBD1.out, HSX.out⟩
          case measure => simp [intOf]
      rcases (show k = 2 ∨ 2 < k by omega) with hk2 | hk2
      · subst hk2
        obtain rfl : u14 = .int .i64 2 := hv
        have HTK : Hid (dec1 L = rdf (flds.drop 2) o M) := HT.out
        clear HT
        go_wp2_with fail
        refine (AnsF.take_any (strOf M) 8 _ HML.out (by omega)).mono ?_
        rw [show (strOf M).data.toList = M from rfl]
        cases hr : rd 8 M with
        | none =>
          rintro e w1 ⟨rfl, hb⟩
          have HD : Hid (dec1 L = none) := by show _ = _; rw [HTK.out]; show rdf (_ :: _) _ _ = _; simp only [rdf, hr]
          have HS1 := hid (HS.out.go hb)
          have HSX := hid (HS1.out.nh 0)
          have hcell := HS1.out.nums.2.2.1
          have hz := HS1.out.thawn 2
          clear hb hr
          have HLD := hid (HSX.out.own.load HZ.out Try.underlying40 (by kernel_rfl))
          go_wp2_with (first | refine load_as HLD.out (.tmp 5) rfl rfl rfl ?_ | refine store_op HSX.out.res (size_cells (by rfl)) zro HZ.out (.tmp 2) (.tmp 48) rfl rfl rfl rfl (by kernel_rfl) ?_)
          try simp only [Exit.inBlock, Exit.then]
          exact bodyPost_ret (res_one (HSX.out.res.row zro) HZ.out _ false _ rfl rfl rfl) rfl (fail_end HSX.out HD.out)
        | some p =>
          obtain ⟨x, M1⟩ := p
          rintro e w1 ⟨rfl, hb⟩
          have HT1 : Hid (dec1 L = rdf (flds.drop 3) { o with h := x } M1) := by show _ = _; rw [HTK.out]; show rdf (_ :: _) _ _ = _; simp only [rdf, hr]; rfl
          have HLE1 : Hid (M1.length ≤ L.length) := by have := rd_len hr; have := HLE.out; show _ ≤ _; omega
          have HRZ1 : Hid (({ o with h := x } : O).r = List.replicate 16 0) := HRZ.out
          have HBD1 : Hid (Bnd { o with h := x }) := ⟨HBD.out.k, HBD.out.f, by have := (rd_some hr).2; simpa using this, HBD.out.a, HBD.out.b, HBD.out.p, HBD.out.n⟩
          have HS1 := hid (HS.out.go hb)
          have HSX := hid (HS1.out.nh x)
          have hcell := HS1.out.nums.2.2.1
          have hz := HS1.out.thawn 2
          clear hb hr
          go_wp2
          go_roundw
          case rel => exact ⟨3, { o with h := x }, M1, by omega, rfl, rfl, HT1.out, HLE1.out, HRZ1.out, HBD1.out, HSX.out⟩
          case measure => simp [intOf]
      rcases (show k = 3 ∨ 3 < k by omega) with hk3 | hk3
      · subst hk3
        obtain rfl : u14 = .int .i64 3 := hv
        have HTK : Hid (dec1 L = rdf (flds.drop 3) o M) := HT.out
        clear HT
        go_wp2_with fail
        refine (AnsF.take_any (strOf M) 8 _ HML.out (by omega)).mono ?_
        rw [show (strOf M).data.toList = M from rfl]
        cases hr : rd 8 M with
        | none =>
          rintro e w1 ⟨rfl, hb⟩
          have HD : Hid (dec1 L = none) := by show _ = _; rw [HTK.out]; show rdf (_ :: _) _ _ = _; simp only [rdf, hr]
          have HS1 := hid (HS.out.go hb)
          have HSX := hid (HS1.out.na 0)
          have hcell := HS1.out.nums.2.2.2.1
          have hz := HS1.out.thawn 3
          clear hb hr
          have HLD := hid (HSX.out.own.load HZ.out Try.underlying40 (by kernel_rfl))
          go_wp2_with (first | refine load_as HLD.out (.tmp 5) rfl rfl rfl ?_ | refine store_op HSX.out.res (size_cells (by rfl)) zro HZ.out (.tmp 2) (.tmp 48) rfl rfl rfl rfl (by kernel_rfl) ?_)
          try simp only [Exit.inBlock, Exit.then]
          exact bodyPost_ret (res_one (HSX.out.res.row zro) HZ.out _ false _ rfl rfl rfl) rfl (fail_end HSX.out HD.out)
        | some p =>
          obtain ⟨x, M1⟩ := p
          rintro e w1 ⟨rfl, hb⟩
          have HT1 : Hid (dec1 L = rdf (flds.drop 4) { o with a := x } M1) := by show _ = _; rw [HTK.out]; show rdf (_ :: _) _ _ = _; simp only [rdf, hr]; rfl
          have HLE1 : Hid (M1.length ≤ L.length) := by have := rd_len hr; have := HLE.out; show _ ≤ _; omega
          have HRZ1 : Hid (({ o with a := x } : O).r = List.replicate 16 0) := HRZ.out
          have HBD1 : Hid (Bnd { o with a := x }) := ⟨HBD.out.k, HBD.out.f, HBD.out.h, by have := (rd_some hr).2; simpa using this, HBD.out.b, HBD.out.p, HBD.out.n⟩
          have HS1 := hid (HS.out.go hb)
          have HSX := hid (HS1.out.na x)
          have hcell := HS1.out.nums.2.2.2.1
          have hz := HS1.out.thawn 3
          clear hb hr
          go_wp2
          go_roundw
          case rel => exact ⟨4, { o with a := x }, M1, by omega, rfl, rfl, HT1.out, HLE1.out, HRZ1.out, HBD1.out, HSX.out⟩
          case measure => simp [intOf]
      rcases (show k = 4 ∨ 4 < k by omega) with hk4 | hk4
      · subst hk4
        obtain rfl : u14 = .int .i64 4 := hv
        have HTK : Hid (dec1 L = rdf (flds.drop 4) o M) := HT.out
        clear HT
        go_wp2_with fail
        refine (AnsF.take_any (strOf M) 8 _ HML.out (by omega)).mono ?_
        rw [show (strOf M).data.toList = M from rfl]
        cases hr : rd 8 M with
        | none =>
          rintro e w1 ⟨rfl, hb⟩
          have HD : Hid (dec1 L = none) := by show _ = _; rw [HTK.out]; show rdf (_ :: _) _ _ = _; simp only [rdf, hr]
          have HS1 := hid (HS.out.go hb)
          have HSX := hid (HS1.out.nb 0)
          have hcell := HS1.out.nums.2.2.2.2.1
          have hz := HS1.out.thawn 4
          clear hb hr
          have HLD := hid (HSX.out.own.load HZ.out Try.underlying40 (by kernel_rfl))
          go_wp2_with (first | refine load_as HLD.out (.tmp 5) rfl rfl rfl ?_ | refine store_op HSX.out.res (size_cells (by rfl)) zro HZ.out (.tmp 2) (.tmp 48) rfl rfl rfl rfl (by kernel_rfl) ?_)
          try simp only [Exit.inBlock, Exit.then]
          exact bodyPost_ret (res_one (HSX.out.res.row zro) HZ.out _ false _ rfl rfl rfl) rfl (fail_end HSX.out HD.out)
        | some p =>
          obtain ⟨x, M1⟩ := p
          rintro e w1 ⟨rfl, hb⟩
          have HT1 : Hid (dec1 L = rdf (flds.drop 5) { o with b := x } M1) := by show _ = _; rw [HTK.out]; show rdf (_ :: _) _ _ = _; simp only [rdf, hr]; rfl
          have HLE1 : Hid (M1.length ≤ L.length) := by have := rd_len hr; have := HLE.out; show _ ≤ _; omega
          have HRZ1 : Hid (({ o with b := x } : O).r = List.replicate 16 0) := HRZ.out
          have HBD1 : Hid (Bnd { o with b := x }) := ⟨HBD.out.k, HBD.out.f, HBD.out.h, HBD.out.a, by have := (rd_some hr).2; simpa using this, HBD.out.p, HBD.out.n⟩
          have HS1 := hid (HS.out.go hb)
          have HSX := hid (HS1.out.nb x)
          have hcell := HS1.out.nums.2.2.2.2.1
          have hz := HS1.out.thawn 4
          clear hb hr
          go_wp2
          go_roundw
          case rel => exact ⟨5, { o with b := x }, M1, by omega, rfl, rfl, HT1.out, HLE1.out, HRZ1.out, HBD1.out, HSX.out⟩
          case measure => simp [intOf]
      rcases (show k = 5 ∨ 5 < k by omega) with hk5 | hk5
      · subst hk5
        obtain rfl : u14 = .int .i64 5 := hv
        have HTK : Hid (dec1 L = rdf (flds.drop 5) o M) := HT.out
        clear HT
        clear l0 l1 l2 l3 l4 l5 l6
        go_wp2
        go_loopw [0, 9, 11, 19] (fun v0 _ _ vi wr => ∃ (i : Nat) (o : O) (M : List UInt8), i ≤ 4 ∧ vi = .int .i64 (i : Int) ∧ v0 = .string (strOf M) ∧ Hid (dec1 L = rdf (flds.drop (5 + i)) o M) ∧ Hid (M.length ≤ L.length) ∧ Hid (o.r = List.replicate 16 0) ∧ Hid (Bnd o) ∧ Hid (St w wr o)) (fun _ _ _ vi _ => 4 - (intOf vi).toNat)
        case atStart => exact ⟨0, o, M, by omega, rfl, rfl, HTK.out, HLE.out, HRZ.out, HBD.out, HS.out⟩
        case round =>
          clear HTK HLE HRZ HS HML HBD
          obtain ⟨i, o, M, hi, hv, rfl, HT, HLE, HRZ, HBD, HS⟩ := hrel
          have HML : Hid ((strOf M).size ≤ 1073741824) := by have := HLE.out; have := HSL.out; show _ ≤ _; rw [size_strOf]; omega
          by_cases hi4 : i < 4
          · have hi4' : (i : Int) < 4 := by omega
            rcases (show i = 0 ∨ 0 < i by omega) with hi0 | hi0
            · subst hi0
              obtain rfl : u19 = .int .i64 0 := hv
              have HTK : Hid (dec1 L = rdf (flds.drop 5) o M) := HT.out
              clear HT
              go_wp2_with fail
              refine (AnsF.text_any (strOf M) _ HML.out).mono ?_
              rw [show (strOf M).data.toList = M from rfl]
              cases hr : AnsP.txt M with
              | none =>
                rintro e w1 ⟨rfl, hb⟩
                have HD : Hid (dec1 L = none) := by show _ = _; rw [HTK.out]; show rdf (_ :: _) _ _ = _; simp only [rdf, hr]
                have HS1 := hid (HS.out.go hb)
                have HSX := hid (HS1.out.ts [])
                have hcell := HS1.out.txts.1
                have hz := HS1.out.thawt 0
                clear hb hr
                have HLD := hid (HSX.out.own.load HZ.out Try.underlying40 (by kernel_rfl))
                go_wp2_with (first | refine load_as HLD.out (.tmp 5) rfl rfl rfl ?_ | refine store_op HSX.out.res (size_cells (by rfl)) zro HZ.out (.tmp 2) (.tmp 32) rfl rfl rfl rfl (by kernel_rfl) ?_)
                try simp only [Exit.inBlock, Exit.then]
                exact bodyPost_ret (res_one (HSX.out.res.row zro) HZ.out _ false _ rfl rfl rfl) rfl (fail_end HSX.out HD.out)
              | some p =>
                obtain ⟨x, M1⟩ := p
                rintro e w1 ⟨rfl, hb⟩
                have HT1 : Hid (dec1 L = rdf (flds.drop (5 + 1)) { o with s := x } M1) := by show _ = _; rw [HTK.out]; show rdf (_ :: _) _ _ = _; simp only [rdf, hr]; rfl
                have HLE1 : Hid (M1.length ≤ L.length) := by have := txt_len hr; have := HLE.out; show _ ≤ _; omega
                have HRZ1 : Hid (({ o with s := x } : O).r = List.replicate 16 0) := HRZ.out
                have HBD1 : Hid (Bnd { o with s := x }) := ⟨HBD.out.k, HBD.out.f, HBD.out.h, HBD.out.a, HBD.out.b, HBD.out.p, HBD.out.n⟩
                have HS1 := hid (HS.out.go hb)
                have HSX := hid (HS1.out.ts x)
                have hcell := HS1.out.txts.1
                have hz := HS1.out.thawt 0
                clear hb hr
                go_wp2
                go_roundw
                case rel => exact ⟨1, { o with s := x }, M1, by omega, rfl, rfl, HT1.out, HLE1.out, HRZ1.out, HBD1.out, HSX.out⟩
                case measure => simp [intOf]
            rcases (show i = 1 ∨ 1 < i by omega) with hi1 | hi1
            · subst hi1
              obtain rfl : u19 = .int .i64 1 := hv
              have HTK : Hid (dec1 L = rdf (flds.drop 6) o M) := HT.out
              clear HT
              go_wp2_with fail
              refine (AnsF.text_any (strOf M) _ HML.out).mono ?_
              rw [show (strOf M).data.toList = M from rfl]
              cases hr : AnsP.txt M with
              | none =>
                rintro e w1 ⟨rfl, hb⟩
                have HD : Hid (dec1 L = none) := by show _ = _; rw [HTK.out]; show rdf (_ :: _) _ _ = _; simp only [rdf, hr]
                have HS1 := hid (HS.out.go hb)
                have HSX := hid (HS1.out.tt [])
                have hcell := HS1.out.txts.2.1
                have hz := HS1.out.thawt 1
                clear hb hr
                have HLD := hid (HSX.out.own.load HZ.out Try.underlying40 (by kernel_rfl))
                go_wp2_with (first | refine load_as HLD.out (.tmp 5) rfl rfl rfl ?_ | refine store_op HSX.out.res (size_cells (by rfl)) zro HZ.out (.tmp 2) (.tmp 32) rfl rfl rfl rfl (by kernel_rfl) ?_)
                try simp only [Exit.inBlock, Exit.then]
                exact bodyPost_ret (res_one (HSX.out.res.row zro) HZ.out _ false _ rfl rfl rfl) rfl (fail_end HSX.out HD.out)
              | some p =>
                obtain ⟨x, M1⟩ := p
                rintro e w1 ⟨rfl, hb⟩
                have HT1 : Hid (dec1 L = rdf (flds.drop (5 + 2)) { o with t := x } M1) := by show _ = _; rw [HTK.out]; show rdf (_ :: _) _ _ = _; simp only [rdf, hr]; rfl
                have HLE1 : Hid (M1.length ≤ L.length) := by have := txt_len hr; have := HLE.out; show _ ≤ _; omega
                have HRZ1 : Hid (({ o with t := x } : O).r = List.replicate 16 0) := HRZ.out
                have HBD1 : Hid (Bnd { o with t := x }) := ⟨HBD.out.k, HBD.out.f, HBD.out.h, HBD.out.a, HBD.out.b, HBD.out.p, HBD.out.n⟩
                have HS1 := hid (HS.out.go hb)
                have HSX := hid (HS1.out.tt x)
                have hcell := HS1.out.txts.2.1
                have hz := HS1.out.thawt 1
                clear hb hr
                go_wp2
                go_roundw
                case rel => exact ⟨2, { o with t := x }, M1, by omega, rfl, rfl, HT1.out, HLE1.out, HRZ1.out, HBD1.out, HSX.out⟩
                case measure => simp [intOf]
            rcases (show i = 2 ∨ 2 < i by omega) with hi2 | hi2
            · subst hi2
              obtain rfl : u19 = .int .i64 2 := hv
              have HTK : Hid (dec1 L = rdf (flds.drop 7) o M) := HT.out
              clear HT
              go_wp2_with fail
              refine (AnsF.text_any (strOf M) _ HML.out).mono ?_
              rw [show (strOf M).data.toList = M from rfl]
              cases hr : AnsP.txt M with
              | none =>
                rintro e w1 ⟨rfl, hb⟩
                have HD : Hid (dec1 L = none) := by show _ = _; rw [HTK.out]; show rdf (_ :: _) _ _ = _; simp only [rdf, hr]
                have HS1 := hid (HS.out.go hb)
                have HSX := hid (HS1.out.tc [])
                have hcell := HS1.out.txts.2.2.1
                have hz := HS1.out.thawt 2
                clear hb hr
                have HLD := hid (HSX.out.own.load HZ.out Try.underlying40 (by kernel_rfl))
                go_wp2_with (first | refine load_as HLD.out (.tmp 5) rfl rfl rfl ?_ | refine store_op HSX.out.res (size_cells (by rfl)) zro HZ.out (.tmp 2) (.tmp 32) rfl rfl rfl rfl (by kernel_rfl) ?_)
                try simp only [Exit.inBlock, Exit.then]
                exact bodyPost_ret (res_one (HSX.out.res.row zro) HZ.out _ false _ rfl rfl rfl) rfl (fail_end HSX.out HD.out)
              | some p =>
                obtain ⟨x, M1⟩ := p
                rintro e w1 ⟨rfl, hb⟩
                have HT1 : Hid (dec1 L = rdf (flds.drop (5 + 3)) { o with c := x } M1) := by show _ = _; rw [HTK.out]; show rdf (_ :: _) _ _ = _; simp only [rdf, hr]; rfl
                have HLE1 : Hid (M1.length ≤ L.length) := by have := txt_len hr; have := HLE.out; show _ ≤ _; omega
                have HRZ1 : Hid (({ o with c := x } : O).r = List.replicate 16 0) := HRZ.out
                have HBD1 : Hid (Bnd { o with c := x }) := ⟨HBD.out.k, HBD.out.f, HBD.out.h, HBD.out.a, HBD.out.b, HBD.out.p, HBD.out.n⟩
                have HS1 := hid (HS.out.go hb)
                have HSX := hid (HS1.out.tc x)
                have hcell := HS1.out.txts.2.2.1
                have hz := HS1.out.thawt 2
                clear hb hr
                go_wp2
                go_roundw
                case rel => exact ⟨3, { o with c := x }, M1, by omega, rfl, rfl, HT1.out, HLE1.out, HRZ1.out, HBD1.out, HSX.out⟩
                case measure => simp [intOf]
            rcases (show i = 3 ∨ 3 < i by omega) with hi3 | hi3
            · subst hi3
              obtain rfl : u19 = .int .i64 3 := hv
              have HTK : Hid (dec1 L = rdf (flds.drop 8) o M) := HT.out
              clear HT
              go_wp2_with fail
              refine (AnsF.text_any (strOf M) _ HML.out).mono ?_
              rw [show (strOf M).data.toList = M from rfl]
              cases hr : AnsP.txt M with
              | none =>
                rintro e w1 ⟨rfl, hb⟩
                have HD : Hid (dec1 L = none) := by show _ = _; rw [HTK.out]; show rdf (_ :: _) _ _ = _; simp only [rdf, hr]
                have HS1 := hid (HS.out.go hb)
                have HSX := hid (HS1.out.td [])
                have hcell := HS1.out.txts.2.2.2
                have hz := HS1.out.thawt 3
                clear hb hr
                have HLD := hid (HSX.out.own.load HZ.out Try.underlying40 (by kernel_rfl))
                go_wp2_with (first | refine load_as HLD.out (.tmp 5) rfl rfl rfl ?_ | refine store_op HSX.out.res (size_cells (by rfl)) zro HZ.out (.tmp 2) (.tmp 32) rfl rfl rfl rfl (by kernel_rfl) ?_)
                try simp only [Exit.inBlock, Exit.then]
                exact bodyPost_ret (res_one (HSX.out.res.row zro) HZ.out _ false _ rfl rfl rfl) rfl (fail_end HSX.out HD.out)
              | some p =>
                obtain ⟨x, M1⟩ := p
                rintro e w1 ⟨rfl, hb⟩
                have HT1 : Hid (dec1 L = rdf (flds.drop (5 + 4)) { o with d := x } M1) := by show _ = _; rw [HTK.out]; show rdf (_ :: _) _ _ = _; simp only [rdf, hr]; rfl
                have HLE1 : Hid (M1.length ≤ L.length) := by have := txt_len hr; have := HLE.out; show _ ≤ _; omega
                have HRZ1 : Hid (({ o with d := x } : O).r = List.replicate 16 0) := HRZ.out
                have HBD1 : Hid (Bnd { o with d := x }) := ⟨HBD.out.k, HBD.out.f, HBD.out.h, HBD.out.a, HBD.out.b, HBD.out.p, HBD.out.n⟩
                have HS1 := hid (HS.out.go hb)
                have HSX := hid (HS1.out.td x)
                have hcell := HS1.out.txts.2.2.2
                have hz := HS1.out.thawt 3
                clear hb hr
                go_wp2
                go_roundw
                case rel => exact ⟨4, { o with d := x }, M1, by omega, rfl, rfl, HT1.out, HLE1.out, HRZ1.out, HBD1.out, HSX.out⟩
                case measure => simp [intOf]
            omega
          · obtain rfl : i = 4 := by omega
            obtain rfl : u19 = .int .i64 4 := hv
            have HTK : Hid (dec1 L = rdf (flds.drop 9) o M) := HT.out
            clear HT
            obtain ⟨l0, l1, l2, l3, l4, l5, l6⟩ := HS.out.lens
            go_wp2_with fail
            refine (AnsF.take_any (strOf M) 8 _ HML.out (by omega)).mono ?_
            rw [show (strOf M).data.toList = M from rfl]
            cases hr : rd 8 M with
            | none =>
              rintro e w1 ⟨rfl, hb⟩
              have HD : Hid (dec1 L = none) := by show _ = _; rw [HTK.out]; show rdf (_ :: _) _ _ = _; simp only [rdf, hr]
              have HS1 := hid (HS.out.go hb)
              have HSX := hid (HS1.out.np 0)
              have hcell := HS1.out.nums.2.2.2.2.2.1
              have hz := HS1.out.thawn 5
              clear hb hr
              have HLD := hid (HSX.out.own.load HZ.out Try.underlying40 (by kernel_rfl))
              go_wp2_with (first | refine load_as HLD.out (.tmp 5) rfl rfl rfl ?_ | refine store_op HSX.out.res (size_cells (by rfl)) zro HZ.out (.tmp 2) (.tmp 48) rfl rfl rfl rfl (by kernel_rfl) ?_)
              try simp only [Exit.inBlock, Exit.then]
              exact bodyPost_ret (res_one (HSX.out.res.row zro) HZ.out _ false _ rfl rfl rfl) rfl (fail_end HSX.out HD.out)
            | some p =>
              obtain ⟨x, M1⟩ := p
              rintro e w1 ⟨rfl, hb⟩
              have HT1 : Hid (dec1 L = rdf (flds.drop 10) { o with p := x } M1) := by show _ = _; rw [HTK.out]; show rdf (_ :: _) _ _ = _; simp only [rdf, hr]; rfl
              have HLE1 : Hid (M1.length ≤ L.length) := by have := rd_len hr; have := HLE.out; show _ ≤ _; omega
              have HRZ1 : Hid (({ o with p := x } : O).r = List.replicate 16 0) := HRZ.out
              have HBD1 : Hid (Bnd { o with p := x }) := ⟨HBD.out.k, HBD.out.f, HBD.out.h, HBD.out.a, HBD.out.b, by have := (rd_some hr).2; simpa using this, HBD.out.n⟩
              have HS1 := hid (HS.out.go hb)
              have HSX := hid (HS1.out.np x)
              have hcell := HS1.out.nums.2.2.2.2.2.1
              have hz := HS1.out.thawn 5
              clear hb hr
              go_wp2
              go_roundw
              case rel => exact ⟨6, { o with p := x }, M1, by omega, rfl, rfl, HT1.out, HLE1.out, HRZ1.out, HBD1.out, HSX.out⟩
              case measure => simp [intOf]
      rcases (show k = 6 ∨ 6 < k by omega) with hk6 | hk6
      · subst hk6
        obtain rfl : u14 = .int .i64 6 := hv
        have HTK : Hid (dec1 L = rdf (flds.drop 10) o M) := HT.out
        clear HT
        go_wp2_with fail
        refine (AnsF.take_any (strOf M) 8 _ HML.out (by omega)).mono ?_
        rw [show (strOf M).data.toList = M from rfl]
        cases hr : rd 8 M with
        | none =>
          rintro e w1 ⟨rfl, hb⟩
          have HD : Hid (dec1 L = none) := by show _ = _; rw [HTK.out]; show rdf (_ :: _) _ _ = _; simp only [rdf, hr]
          have HS1 := hid (HS.out.go hb)
          have HSX := hid (HS1.out.nn 0)
          have hcell := HS1.out.nums.2.2.2.2.2.2
          have hz := HS1.out.thawn 6
          clear hb hr
          have HLD := hid (HSX.out.own.load HZ.out Try.underlying40 (by kernel_rfl))
          go_wp2_with (first | refine load_as HLD.out (.tmp 5) rfl rfl rfl ?_ | refine store_op HSX.out.res (size_cells (by rfl)) zro HZ.out (.tmp 2) (.tmp 48) rfl rfl rfl rfl (by kernel_rfl) ?_)
          try simp only [Exit.inBlock, Exit.then]
          exact bodyPost_ret (res_one (HSX.out.res.row zro) HZ.out _ false _ rfl rfl rfl) rfl (fail_end HSX.out HD.out)
        | some p =>
          obtain ⟨x, M1⟩ := p
          rintro e w1 ⟨rfl, hb⟩
          have HT1 : Hid (dec1 L = rdf (flds.drop 11) { o with n := x } M1) := by show _ = _; rw [HTK.out]; show rdf (_ :: _) _ _ = _; simp only [rdf, hr]; rfl
          have HLE1 : Hid (M1.length ≤ L.length) := by have := rd_len hr; have := HLE.out; show _ ≤ _; omega
          have HRZ1 : Hid (({ o with n := x } : O).r = List.replicate 16 0) := HRZ.out
          have HBD1 : Hid (Bnd { o with n := x }) := ⟨HBD.out.k, HBD.out.f, HBD.out.h, HBD.out.a, HBD.out.b, HBD.out.p, by have := (rd_some hr).2; simpa using this⟩
          have HS1 := hid (HS.out.go hb)
          have HSX := hid (HS1.out.nn x)
          have hcell := HS1.out.nums.2.2.2.2.2.2
          have hz := HS1.out.thawn 6
          clear hb hr
          go_wp2
          go_roundw
          case rel => exact ⟨7, { o with n := x }, M1, by omega, rfl, rfl, HT1.out, HLE1.out, HRZ1.out, HBD1.out, HSX.out⟩
          case measure => simp [intOf]
      omega
    · obtain rfl : k = 7 := by omega
      obtain rfl : u14 = .int .i64 7 := hv
      have HT7 : Hid (dec1 L = if 16 ≤ M.length then some ({ o with r := M.take 16 }, M.drop 16) else none) := HT.out
      have hms : (strOf M).size = M.length := size_strOf M
      clear HT
      by_cases h16 : 16 ≤ M.length
      · have HD : Hid (dec1 L = some ({ o with r := M.take 16 }, M.drop 16)) := by show _ = _; rw [HT7.out, if_pos h16]
        have h16i : ¬ (M.length : Int) < 16 := by omega
        obtain ⟨n0, n1, n2, n3, n4, n5, n6⟩ := HS.out.nums
        obtain ⟨t0, t1, t2, t3⟩ := HS.out.txts
        have w1 : IntKind.u8.wrap (o.k : Int) = (o.k : Int) := by have := HBD.out.k; rw [IntKind.wrap_u8']; omega
        have w2 : IntKind.u8.wrap (o.f : Int) = (o.f : Int) := by have := HBD.out.f; rw [IntKind.wrap_u8']; omega
        have w3 : wrap64 (o.h : Int) = AnsW.sg o.h := AnsR.wrap_i64 o.h HBD.out.h
        have w4 : wrap64 (o.a : Int) = AnsW.sg o.a := AnsR.wrap_i64 o.a HBD.out.a
        have w5 : wrap64 (o.b : Int) = AnsW.sg o.b := AnsR.wrap_i64 o.b HBD.out.b
        have b1 : (o.k : Int) ≤ 255 := by have := HBD.out.k; omega
        have b2 : (o.f : Int) ≤ 255 := by have := HBD.out.f; omega
        have b3 : (o.h : Int) ≤ 18446744073709551615 := by have := HBD.out.h; omega
        have b4 : (o.a : Int) ≤ 18446744073709551615 := by have := HBD.out.a; omega
        have b5 : (o.b : Int) ≤ 18446744073709551615 := by have := HBD.out.b; omega
        go_upto_region 24 with (refine store_op HS.out.own (size_cells (by rfl)) ⟨o.k, o.f, o.h, o.a, o.b, o.s, o.t, [], [], 0, 0, List.replicate 16 0⟩ rfl (.tmp 5) (.tmp 73) rfl rfl rfl rfl (by kernel_rfl) ?_)
        clear n0 n1 n2 n3 n4 n5 n6 t0 t1 t2 t3 w1 w2 w3 w4 w5 b1 b2 b3 b4 b5
        have h1 := HS.out.put ⟨o.k, o.f, o.h, o.a, o.b, o.s, o.t, [], [], 0, 0, List.replicate 16 0⟩
        generalize World.setRow wr _ _ = W1 at h1 ⊢
        have HS1 := hid h1
        clear h1
        obtain ⟨m0, m1, m2, m3⟩ := HS1.out.nums
        have w1 : wrap64 (o.p : Int) = AnsW.sg o.p := AnsR.wrap_i64 o.p HBD.out.p
        have w2 : wrap64 (o.n : Int) = AnsW.sg o.n := AnsR.wrap_i64 o.n HBD.out.n
        have b1 : (o.p : Int) ≤ 18446744073709551615 := by have := HBD.out.p; omega
        have b2 : (o.n : Int) ≤ 18446744073709551615 := by have := HBD.out.n; omega
        have c7 := HS1.out.own.cell 7 (v := .string (strOf [])) rfl
        have c8 := HS1.out.own.cell 8 (v := .string (strOf [])) rfl
        have c9 := HS1.out.own.cell 9 (v := .int .i64 (AnsW.sg 0)) rfl
        have c10 := HS1.out.own.cell 10 (v := .int .i64 (AnsW.sg 0)) rfl
        have f7 := HS1.out.own.thaw 7
        have f8 := HS1.out.own.thaw 8
        have f9 := HS1.out.own.thaw 9
        have f10 := HS1.out.own.thaw 10
        have h2 : St2 w ((((W1.setCell ⟨w.heap.size + 1, 7, none⟩ (.string (strOf o.c))).setCell ⟨w.heap.size + 1, 8, none⟩ (.string (strOf o.d))).setCell ⟨w.heap.size + 1, 9, none⟩ (.int .i64 (AnsW.sg o.p))).setCell ⟨w.heap.size + 1, 10, none⟩ (.int .i64 (AnsW.sg o.n))) o ⟨o.k, o.f, o.h, o.a, o.b, o.s, o.t, o.c, o.d, o.p, o.n, List.replicate 16 0⟩ :=
          (((HS1.out.set (v' := ⟨o.k, o.f, o.h, o.a, o.b, o.s, o.t, o.c, [], 0, 0, List.replicate 16 0⟩) 7 _ rfl).set (v' := ⟨o.k, o.f, o.h, o.a, o.b, o.s, o.t, o.c, o.d, 0, 0, List.replicate 16 0⟩) 8 _ rfl).set (v' := ⟨o.k, o.f, o.h, o.a, o.b, o.s, o.t, o.c, o.d, o.p, 0, List.replicate 16 0⟩) 9 _ rfl).set 10 _ rfl
        go_upto_region 25 with (fail)
        clear m0 m1 m2 m3 w1 w2 b1 b2 c7 c8 c9 c10 f7 f8 f9 f10
        generalize World.setCell (World.setCell (World.setCell (World.setCell W1 _ _) _ _) _ _) _ _ = W2 at h2 ⊢
        have HS2 : Hid (St2 w W2 o { o with r := fills M 0 }) := by rw [fills_zero]; exact h2
        clear h2 HS1
        go_wp2
        go_loopw [12, 86] (fun _ vk wr => ∃ (k : Nat), k ≤ 16 ∧ vk = .int .i64 (k : Int) ∧ Hid (St2 w wr o { o with r := fills M k })) (fun _ vk _ => 16 - (intOf vk).toNat)
        case atStart => exact ⟨0, by omega, rfl, HS2.out⟩
        case round =>
          clear HS2
          obtain ⟨k, hk, rfl, HS3⟩ := hrel
          by_cases hlt : k < 16
          · have hkl : k < M.length := by omega
            have hks : k < (strOf M).size := by rw [size_strOf]; exact hkl
            obtain ⟨d, hd⟩ : ∃ d, (strOf M)[k] = d := ⟨_, rfl⟩
            have hdm : M.getD k 0 = d := by rw [← hd, List.getD_eq_getElem?_getD, List.getElem?_eq_getElem hkl]; rfl
            have HDM := hid hdm
            have c0 := HS3.out.own.cell (11 + k) (v := .int .u8 0) (by
              rw [Nat.add_comm]
              unfold cells
              simp only [List.getElem?_cons_succ]
              simp [bcells, fills, hlt])
            have f0 := HS3.out.own.thaw (11 + k)
            have h4 : St2 w (wr.setCell ⟨w.heap.size + 1, 11 + k, none⟩ (.int .u8 (d.toNat : Int))) o { o with r := fills M (k + 1) } := HS3.out.set (11 + k) _ (by rw [cells_set, ← fills_next, HDM.out])
            have HS4 := hid h4
            clear h4 hdm hkl
            go_wp2
            go_roundw
            case rel => exact ⟨k + 1, by omega, by go_num, HS4.out⟩
            case measure => simp [intOf]; omega
          · obtain rfl : k = 16 := by omega
            have HD : Hid (dec1 L = some ({ o with r := fills M 16 }, M.drop 16)) := by show _ = _; rw [HD.out, fills_all M h16]
            go_wp2_with fail
            refine wp_region_inv (by kernel_rfl) (Gq w o { o with r := fills M 16 }) [is (ScrB.val { o with r := fills M 16 }), is (.string (strOf M)), is (.string (strOf (M.drop 16))), any, is (.string (strOf (M.drop 16))), is (.bool true)] [[], [], [1], [0], [2], []] (by kernel_rfl) (by repeat (first | exact free_nil | refine free_is _ ?_ | refine free_any ?_)) ?_ ?_ ?_
            · exact fun t => ⟨fun _ => HS3.out.below' (Base.below_drewN (Below.refl _ _) 1), fun e => by cases e⟩
            · refine ⟨?_, ?_, ?_, ?_, ?_, ?_, trivial⟩
              · intro L t wq hG hL hC hN hh K hK
                clear hh
                simp only [filled, upd, Have, is, any, row, pick, Act.put, List.setIfInBounds_toArray, List.set_cons_zero, List.set_cons_succ, Nat.reduceAdd, Nat.reduceEqDiff, reduceIte] at hK ⊢
                have hs2 : St2 w wq o { o with r := fills M 16 } := by
                  cases h3 : L 3 with
                  | false => exact hG.1 h3
                  | true => exact absurd (hC 3 h3 0 (by decide)) (by rw [hL]; simp)
                have hq := hs2.own.load (fills_len _ _) Try.underlying40 (by kernel_rfl)
                refine step_load hq (.tmp 5) rfl rfl rfl ?_
                exact hK _ _ rfl (gq_stab 0 (by decide) (Below.refl _ _) hG)
              · intro L t wq hG hL hC hN hh K hK
                clear hh
                simp only [filled, upd, Have, is, any, row, pick, Act.put, List.setIfInBounds_toArray, List.set_cons_zero, List.set_cons_succ, Nat.reduceAdd, Nat.reduceEqDiff, reduceIte] at hK ⊢
                go_simp
                exact hK _ _ rfl (gq_stab 1 (by decide) (Below.refl _ _) hG)
              · intro L t wq hG hL hC hN hh K hK
                have e1 := hh.1
                simp only [pick] at e1
                replace e1 : t 1 = (.string (strOf M)) := e1
                clear hh
                simp only [filled, upd, Have, is, any, row, pick, Act.put, List.setIfInBounds_toArray, List.set_cons_zero, List.set_cons_succ, Nat.reduceAdd, Nat.reduceEqDiff, reduceIte] at hK ⊢
                simp only [e1] at hK ⊢
                have h16i2 : (16 : Int) ≤ (M.length : Int) := by omega
                have hext : (strOf M).extract 16 M.length = strOf (M.drop 16) := Regs.ext_drop (strOf M) 16 M.length (size_strOf M).symm
                have hms : (strOf M).size = M.length := size_strOf M
                go_simp
                exact hK _ _ rfl (gq_stab 2 (by decide) (Below.refl _ _) hG)
              · intro L t wq hG hL hC hN hh K hK
                have e0 := hh.1
                simp only [pick] at e0
                replace e0 : t 0 = (ScrB.val { o with r := fills M 16 }) := e0
                clear hh
                simp only [filled, upd, Have, is, any, row, pick, Act.put, List.setIfInBounds_toArray, List.set_cons_zero, List.set_cons_succ, Nat.reduceAdd, Nat.reduceEqDiff, reduceIte] at hK ⊢
                simp only [e0] at hK ⊢
                refine step_store (hG.1 hL).res (size_cells (by rfl)) { o with r := fills M 16 } (fills_len _ _) (.tmp 2) (.tmp 96) rfl rfl rfl rfl (by kernel_rfl) ?_
                exact hK undef _ trivial (gq_store hL hG)
              · intro L t wq hG hL hC hN hh K hK
                have e2 := hh.1
                simp only [pick] at e2
                replace e2 : t 2 = (.string (strOf (M.drop 16))) := e2
                clear hh
                simp only [filled, upd, Have, is, any, row, pick, Act.put, List.setIfInBounds_toArray, List.set_cons_zero, List.set_cons_succ, Nat.reduceAdd, Nat.reduceEqDiff, reduceIte] at hK ⊢
                simp only [e2] at hK ⊢
                go_simp
                exact hK _ _ rfl (gq_stab 4 (by decide) (Below.refl _ _) hG)
              · intro L t wq hG hL hC hN hh K hK
                clear hh
                simp only [filled, upd, Have, is, any, row, pick, Act.put, List.setIfInBounds_toArray, List.set_cons_zero, List.set_cons_succ, Nat.reduceAdd, Nat.reduceEqDiff, reduceIte] at hK ⊢
                go_simp
                exact hK _ _ rfl (gq_stab 5 (by decide) (Below.refl _ _) hG)
            · intro Lz t wq hG hall hh
              have f4 := have_get hh 4 (by decide)
              simp only [pick] at f4
              replace f4 : t 4 = (.string (strOf (M.drop 16))) := f4
              have f5 := have_get hh 5 (by decide)
              simp only [pick] at f5
              replace f5 : t 5 = (.bool true) := f5
              clear hh
              simp only [filled, upd, Have, is, any, row, pick, Act.put, List.setIfInBounds_toArray, List.set_cons_zero, List.set_cons_succ, Nat.reduceAdd, Nat.reduceEqDiff, reduceIte]
              simp only [f4, f5]
              have HE := hid (hG.2 (hall 3 (by decide)))
              go_wp2
              try simp only [Exit.inBlock, Exit.then]
              exact bodyPost_ret (res_one HE.out.1 (fills_len _ _) _ true _ rfl rfl rfl) rfl ⟨HE.out.2, by rw [HD.out]⟩
      · have HD : Hid (dec1 L = none) := by show _ = _; rw [HT7.out, if_neg h16]
        have h16i : (M.length : Int) < 16 := by omega
        have HLD := hid (HS.out.own.load HZ.out Try.underlying40 (by kernel_rfl))
        go_wp2_with (first | refine load_as HLD.out (.tmp 5) rfl rfl rfl ?_ | refine store_op HS.out.res (size_cells (by rfl)) zro HZ.out (.tmp 2) (.tmp 53) rfl rfl rfl rfl (by kernel_rfl) ?_)
        try simp only [Exit.inBlock, Exit.then]
        exact bodyPost_ret (res_one (HS.out.res.row zro) HZ.out _ false _ rfl rfl rfl) rfl (fail_end HS.out HD.out)
end Go.Proofs.Ytafnekilnbhhlaa.ScrG
