/- Texts that belong together: Ubx, OrgA, LdA, StoB, StoC. -/
import Derived.Test.YtegpfgccaminkaaGreatDoorUAE
import Derived.Test.YtegpfgccaminkaaGreatDoorUAA
import Derived.Test.YtegpfgccaminkaaGreatDoorUAC
import Derived.BigQuiet
import Derived.Deep.QuietTactic
import Derived.Deep.WholeRow
set_option linter.unusedSimpArgs false
set_option linter.unusedVariables false
namespace Go.Proofs.YtegpfgccaminkaaGreatDoor.Ubx
open Go.RowKit Base Base2 PrsP
def cells (u : U) (p : Value) : Array Value := #[.string (strOf u.sch), .string (strOf u.usr), .string (strOf u.pwd), .string (strOf u.hst), .bool u.hh, .int .i64 u.port, .bool u.opq, .string (strOf u.txt), p, .bool u.hq, .bool u.hf, .string (strOf u.qry), .string (strOf u.frg)]
def UB (w : World) (g : Nat) (u : U) (p : Value) : Prop := w.heap[g]? = some (.cells (cells u p) 52 (0, 0))
variable {w w' : World} {g : Nat} {u : U} {p : Value}
theorem UB.lt (h : UB w g u p) : g < w.heap.size := (Array.getElem?_eq_some_iff.1 h).1
theorem UB.below (h : UB w g u p) (hb : Below w.heap.size w w') : UB w' g u p := (hb.block g h.lt).trans h
theorem UB.facts (h : UB w g u p) : w.cell? ⟨g, 0, none⟩ = some (.string (strOf u.sch)) ∧ w.cell? ⟨g, 1, none⟩ = some (.string (strOf u.usr)) ∧ w.cell? ⟨g, 2, none⟩ = some (.string (strOf u.pwd)) ∧ w.cell? ⟨g, 3, none⟩ = some (.string (strOf u.hst)) ∧ w.cell? ⟨g, 4, none⟩ = some (.bool u.hh) ∧ w.cell? ⟨g, 5, none⟩ = some (.int .i64 u.port) ∧ w.cell? ⟨g, 6, none⟩ = some (.bool u.opq) ∧ w.cell? ⟨g, 7, none⟩ = some (.string (strOf u.txt)) ∧ w.cell? ⟨g, 8, none⟩ = some p ∧ w.cell? ⟨g, 9, none⟩ = some (.bool u.hq) ∧ w.cell? ⟨g, 10, none⟩ = some (.bool u.hf) ∧ w.cell? ⟨g, 11, none⟩ = some (.string (strOf u.qry)) ∧ w.cell? ⟨g, 12, none⟩ = some (.string (strOf u.frg)) :=
 ⟨cell_of_row w g 0 _ _ _ h, cell_of_row w g 1 _ _ _ h, cell_of_row w g 2 _ _ _ h, cell_of_row w g 3 _ _ _ h, cell_of_row w g 4 _ _ _ h, cell_of_row w g 5 _ _ _ h, cell_of_row w g 6 _ _ _ h, cell_of_row w g 7 _ _ _ h, cell_of_row w g 8 _ _ _ h, cell_of_row w g 9 _ _ _ h, cell_of_row w g 10 _ _ _ h, cell_of_row w g 11 _ _ _ h, cell_of_row w g 12 _ _ _ h⟩
theorem UB.thaw (h : UB w g u p) : w.frozen? ⟨g, 0, none⟩ = false ∧ w.frozen? ⟨g, 1, none⟩ = false ∧ w.frozen? ⟨g, 2, none⟩ = false ∧ w.frozen? ⟨g, 3, none⟩ = false ∧ w.frozen? ⟨g, 4, none⟩ = false ∧ w.frozen? ⟨g, 5, none⟩ = false ∧ w.frozen? ⟨g, 6, none⟩ = false ∧ w.frozen? ⟨g, 7, none⟩ = false ∧ w.frozen? ⟨g, 8, none⟩ = false ∧ w.frozen? ⟨g, 9, none⟩ = false ∧ w.frozen? ⟨g, 10, none⟩ = false ∧ w.frozen? ⟨g, 11, none⟩ = false ∧ w.frozen? ⟨g, 12, none⟩ = false :=
 ⟨frozen_of_row w g 0 _ _ h, frozen_of_row w g 1 _ _ h, frozen_of_row w g 2 _ _ h, frozen_of_row w g 3 _ _ h, frozen_of_row w g 4 _ _ h, frozen_of_row w g 5 _ _ h, frozen_of_row w g 6 _ _ h, frozen_of_row w g 7 _ _ h, frozen_of_row w g 8 _ _ h, frozen_of_row w g 9 _ _ h, frozen_of_row w g 10 _ _ h, frozen_of_row w g 11 _ _ h, frozen_of_row w g 12 _ _ h⟩
theorem UB.opq (h : UB w g u p) (b : Bool) : UB (w.setCell ⟨g, 6, none⟩ (.bool b)) g { u with opq := b } p := heap_setCell_same w g 6 _ _ _ h
theorem UB.txt (h : UB w g u p) (s : List UInt8) : UB (w.setCell ⟨g, 7, none⟩ (.string (strOf s))) g { u with txt := s } p := heap_setCell_same w g 7 _ _ _ h
theorem UB.hq (h : UB w g u p) (b : Bool) : UB (w.setCell ⟨g, 9, none⟩ (.bool b)) g { u with hq := b } p := heap_setCell_same w g 9 _ _ _ h
theorem UB.hf (h : UB w g u p) (b : Bool) : UB (w.setCell ⟨g, 10, none⟩ (.bool b)) g { u with hf := b } p := heap_setCell_same w g 10 _ _ _ h
theorem UB.qry (h : UB w g u p) (s : List UInt8) : UB (w.setCell ⟨g, 11, none⟩ (.string (strOf s))) g { u with qry := s } p := heap_setCell_same w g 11 _ _ _ h
theorem UB.frg (h : UB w g u p) (s : List UInt8) : UB (w.setCell ⟨g, 12, none⟩ (.string (strOf s))) g { u with frg := s } p := heap_setCell_same w g 12 _ _ _ h
theorem PthIs.below {u : U} {A : Option Addr} {n c : Nat} (h : PthIs w u A n c) (hb : Below w.heap.size w w') : PthIs w' u A n c := ⟨h.1.below hb, h.2⟩
theorem UB.load (h : UB w g u p) : (loadVar 52 ⟨g, 0, none⟩).run Tryz.prog w = .ok (.agg (cells u p)) w :=
 run_loadVar_row w g _ _ (cells u p) (0, 0) _ h Tryz.underlying52 rfl (by kernel_rfl)
theorem UB.set (h : UB w g u p) {k i : Nat} (x : Value) (hk : g ≠ k) : UB (w.setCell ⟨k, i, none⟩ x) g u p := by
 unfold UB
 rw [heap_setCell_other _ _ _ _ hk]
 exact h
theorem res2 {fn : Func} {a b : Tmp} (h : fn.results = #[.cell a 52, .tmp b]) (hU : UB w g u p) (ok : Bool) (tmps : Array Value) (h2 : tmps.getD a undef = .pointer (some ⟨g, 0, none⟩)) (h3 : tmps.getD b undef = .bool ok) :
  (results fn tmps).run Tryz.prog w = .ok (.tuple #[.agg (cells u p), .bool ok]) w := by
 have hp' : tmps[a]?.getD undef = .pointer (some ⟨g, 0, none⟩) := by simpa using h2
 have hq' : tmps[b]?.getD undef = .bool ok := by simpa using h3
 simp [results, h, hp', hq', asAddr, hU.load]
theorem res1 {fn : Func} {a : Tmp} (h : fn.results = #[.cell a 52]) (hU : UB w g u p) (tmps : Array Value) (h2 : tmps.getD a undef = .pointer (some ⟨g, 0, none⟩)) :
  (results fn tmps).run Tryz.prog w = .ok (.agg (cells u p)) w :=
 results_cell_row h tmps w g _ _ _ _ h2 hU Tryz.underlying52 rfl (by kernel_rfl)
theorem UB.row {v : U} {q : Value} (h : UB w g v q) (u : U) (p : Value) : UB (w.setRow g (cells u p)) g u p := setRow_heap w g (cells v q) (cells u p) _ (0, 0) h
theorem store_box {ops : Array Oper} {rest : List Oper} {o : Oper} {a : Act} {Q : Exit → Act → World → Prop} {v : U} {q : Value} (hU : UB w g v q) (u : U) (A : Option Addr) (n c : Nat) (x y : Operand) (ho : o.op = .store 52 x y) (hgd : o.guard = none)
  (hx : a.eval x = .pointer (some ⟨g, 0, none⟩)) (hy : a.eval y = .agg (cells u (.slice A n c)))
  (h : wpList Tryz.prog ops Q rest (a.put o.dst undef) (w.setRow g (cells u (.slice A n c)))) : wpList Tryz.prog ops Q (o :: rest) a w :=
 wpList_store_row hgd 52 x y ho g (cells u (.slice A n c)) hx hy 52 (cells v q) hU (by kernel_rfl) rfl (by simp [cells, Value.oneCell']) h
theorem laid1 (w : World) (a : Array Value) (T : TypeId) : (w.alloc (.cells a T)).heap[w.heap.size]? = some (.cells a T (0, 0)) ∧ Below w.heap.size w (w.alloc (.cells a T)) :=
 ⟨heap_alloc_new w _, (Below.refl _ _).alloc (Nat.le_refl _) _⟩
theorem laid2 (w : World) (a b : Array Value) (T S : TypeId) : ((w.alloc (.cells a T)).alloc (.cells b S)).heap[w.heap.size]? = some (.cells a T (0, 0)) ∧ ((w.alloc (.cells a T)).alloc (.cells b S)).heap[w.heap.size + 1]? = some (.cells b S (0, 0)) ∧ Below w.heap.size w ((w.alloc (.cells a T)).alloc (.cells b S)) := by
 obtain ⟨h1, h2⟩ := laid1 w a T
 have h3 := laid1 (w.alloc (.cells a T)) b S
 have hs : (w.alloc (.cells a T)).heap.size = w.heap.size + 1 := by simp
 rw [hs] at h3
 exact ⟨(h3.2.block _ (by omega)).trans h1, h3.1, h2.trans (h3.2.mono (by omega))⟩
theorem laid3 (w : World) (a b c : Array Value) (T S R : TypeId) : (((w.alloc (.cells a T)).alloc (.cells b S)).alloc (.cells c R)).heap[w.heap.size]? = some (.cells a T (0, 0)) ∧ (((w.alloc (.cells a T)).alloc (.cells b S)).alloc (.cells c R)).heap[w.heap.size + 1]? = some (.cells b S (0, 0)) ∧ (((w.alloc (.cells a T)).alloc (.cells b S)).alloc (.cells c R)).heap[w.heap.size + 1 + 1]? = some (.cells c R (0, 0)) ∧ Below w.heap.size w (((w.alloc (.cells a T)).alloc (.cells b S)).alloc (.cells c R)) := by
 obtain ⟨h1, h2, h4⟩ := laid2 w a b T S
 have h3 := laid1 ((w.alloc (.cells a T)).alloc (.cells b S)) c R
 have hs : ((w.alloc (.cells a T)).alloc (.cells b S)).heap.size = w.heap.size + 1 + 1 := by simp
 rw [hs] at h3
 exact ⟨(h3.2.block _ (by omega)).trans h1, (h3.2.block _ (by omega)).trans h2, h3.1, h4.trans (h3.2.mono (by omega))⟩
end Go.Proofs.YtegpfgccaminkaaGreatDoor.Ubx
namespace Go.Proofs.YtegpfgccaminkaaGreatDoor.OrgA
open Go.RowKit Base Base2 UrlP Ubx
set_option linter.unusedSimpArgs false
set_option linter.unusedVariables false
def OB (w : World) (g : Nat) (s h : ByteArray) (p n : Int) : Prop := w.heap[g]? = some (.cells #[.string s, .string h, .int .i64 p, .int .i64 n] 32 (0, 0))
section
variable {w w' : World} {g : Nat} {s h : ByteArray} {p n : Int}
theorem OB.lt (x : OB w g s h p n) : g < w.heap.size := (Array.getElem?_eq_some_iff.1 x).1
theorem OB.below (x : OB w g s h p n) (hb : Below w.heap.size w w') : OB w' g s h p n := (hb.block g x.lt).trans x
theorem OB.facts (x : OB w g s h p n) : w.cell? ⟨g, 0, none⟩ = some (.string s) ∧ w.cell? ⟨g, 1, none⟩ = some (.string h) ∧ w.cell? ⟨g, 2, none⟩ = some (.int .i64 p) ∧ w.cell? ⟨g, 3, none⟩ = some (.int .i64 n) :=
 ⟨cell_of_row w g 0 _ _ _ x, cell_of_row w g 1 _ _ _ x, cell_of_row w g 2 _ _ _ x, cell_of_row w g 3 _ _ _ x⟩
end
def sameO (s1 h1 : List UInt8) (p1 n1 : Int) (s2 h2 : List UInt8) (p2 n2 : Int) : Bool := if s1 = [] ∧ s2 = [] then decide (n1 = n2) else decide (s1 = s2) && (decide (h1 = h2) && decide (p1 = p2))
theorem sameO_refl (s h : List UInt8) (p n : Int) : sameO s h p n s h p n = true := by unfold sameO; split <;> simp
set_option maxRecDepth 100000 in
set_option maxHeartbeats 8000000 in
theorem tuple_any (s1 h1 : ByteArray) (p1 n1 : Int) (w : World) : Calls Tryz.prog 97 #[.agg #[.string s1, .string h1, .int .i64 p1, .int .i64 n1]] w fun e w' => e = .returned (.bool (decide (s1.data.toList ≠ []))) ∧ Below w.heap.size w w' := by
 obtain ⟨b, hb⟩ : ∃ b, b = decide (s1.data.toList ≠ []) := ⟨_, rfl⟩
 rw [← hb]
 by_cases hs : s1.data.toList = []
 ·have q0 : (s1.toList == []) = true := by rw [tl, hs]; rfl
  have q1 : s1.toList = [] := by rw [tl, hs]
  have HB : Hid (b = false) := by show _ = _; rw [hb, hs]; rfl
  clear hs hb
  go_enter Tryz.func97, Tryz.ntmps97
  go_wp2
  go_ret
  exact ⟨by rw [HB.out]; first | done | rfl, (Below.refl _ _).alloc (Nat.le_refl _) _⟩
 ·have q0 : (s1.toList == []) = false := by rw [tl, beq_eq_false_iff_ne]; exact hs
  have q1 : ¬ s1.toList = [] := by rw [tl]; exact hs
  have HB : Hid (b = true) := by show _ = _; rw [hb]; simpa using hs
  clear hs hb
  go_enter Tryz.func97, Tryz.ntmps97
  go_wp2
  go_ret
  exact ⟨by rw [HB.out]; first | done | rfl, (Below.refl _ _).alloc (Nat.le_refl _) _⟩
set_option maxRecDepth 100000 in
set_option maxHeartbeats 8000000 in
theorem same_any (s1 h1 : ByteArray) (p1 n1 : Int) (s2 h2 : ByteArray) (p2 n2 : Int) (w : World) : Calls Tryz.prog 99 #[.agg #[.string s1, .string h1, .int .i64 p1, .int .i64 n1], .agg #[.string s2, .string h2, .int .i64 p2, .int .i64 n2]] w fun e w' => e = .returned (.bool (sameO s1.data.toList h1.data.toList p1 n1 s2.data.toList h2.data.toList p2 n2)) ∧ Below w.heap.size w w' := by
 obtain ⟨b, hb⟩ : ∃ b, b = sameO s1.data.toList h1.data.toList p1 n1 s2.data.toList h2.data.toList p2 n2 := ⟨_, rfl⟩
 rw [← hb]
 by_cases a1 : s1.data.toList = []
 ·
  have qa0 : (s1.toList == []) = true := by rw [tl, a1]; simp
  have qa1 : s1.toList = [] := by rw [tl, a1]
  by_cases a2 : s2.data.toList = []
  ·
   have qb0 : (s2.toList == []) = true := by rw [tl, a2]; simp
   have qb1 : s2.toList = [] := by rw [tl, a2]
   have HT1 : Hid (∀ w : World, Calls Tryz.prog 97 #[.agg #[.string s1, .string h1, .int .i64 p1, .int .i64 n1]] w fun e w' => e = .returned (.bool false) ∧ Below w.heap.size w w') := fun w => by
    have h := tuple_any s1 h1 p1 n1 w
    rw [show decide (s1.data.toList ≠ []) = false from by simp [a1]] at h
    exact h
   have HT2 : Hid (∀ w : World, Calls Tryz.prog 97 #[.agg #[.string s2, .string h2, .int .i64 p2, .int .i64 n2]] w fun e w' => e = .returned (.bool false) ∧ Below w.heap.size w w') := fun w => by
    have h := tuple_any s2 h2 p2 n2 w
    rw [show decide (s2.data.toList ≠ []) = false from by simp [a2]] at h
    exact h
   have HB : Hid (b = (n1 == n2)) := by show _ = _; rw [hb]; unfold sameO; rw [if_pos ⟨a1, a2⟩]; rw [Bool.eq_iff_iff]; simp
   clear hb a1 a2
   go_enter Tryz.func99, Tryz.ntmps99
   go_upto_region 1 with (fail)
   generalize hwa : World.alloc (World.alloc w _) _ = v1
   have h1_ : OB v1 w.heap.size s1 h1 p1 n1 ∧ OB v1 (w.heap.size + 1) s2 h2 p2 n2 ∧ Below w.heap.size w v1 := by
    subst hwa
    exact laid2 w _ _ _ _
   clear hwa
   have X1 := hid h1_.1
   have X2 := hid h1_.2.1
   have hb := h1_.2.2
   clear h1_
   have HB1 := hid hb
   clear hb
   obtain ⟨o0, o1, o2, o3⟩ := X1.out.facts
   go_wp2_with fail
   clear o0 o1 o2 o3
   refine (HT1.out _).mono ?_
   rintro e w2 ⟨rfl, hb⟩
   have HB2 := hid (bel HB1.out hb)
   have X1_2 := hid (X1.out.below hb)
   have X2_2 := hid (X2.out.below hb)
   clear hb
   obtain ⟨o0, o1, o2, o3⟩ := X2_2.out.facts
   go_wp2_with fail
   clear o0 o1 o2 o3
   refine (HT2.out _).mono ?_
   rintro e w3 ⟨rfl, hb⟩
   have HB3 := hid (bel HB2.out hb)
   have X1_3 := hid (X1_2.out.below hb)
   have X2_3 := hid (X2_2.out.below hb)
   clear hb
   obtain ⟨o0, o1, o2, o3⟩ := X1_3.out.facts
   obtain ⟨r0, r1, r2, r3⟩ := X2_3.out.facts
   go_wp2
   go_ret
   exact ⟨by rw [HB.out]; first | done | rfl | simp, HB3.out⟩
  ·
   have qb0 : (s2.toList == []) = false := by rw [tl, beq_eq_false_iff_ne]; exact a2
   have qb1 : ¬ s2.toList = [] := by rw [tl]; exact a2
   have HT1 : Hid (∀ w : World, Calls Tryz.prog 97 #[.agg #[.string s1, .string h1, .int .i64 p1, .int .i64 n1]] w fun e w' => e = .returned (.bool false) ∧ Below w.heap.size w w') := fun w => by
    have h := tuple_any s1 h1 p1 n1 w
    rw [show decide (s1.data.toList ≠ []) = false from by simp [a1]] at h
    exact h
   have HT2 : Hid (∀ w : World, Calls Tryz.prog 97 #[.agg #[.string s2, .string h2, .int .i64 p2, .int .i64 n2]] w fun e w' => e = .returned (.bool true) ∧ Below w.heap.size w w') := fun w => by
    have h := tuple_any s2 h2 p2 n2 w
    rw [show decide (s2.data.toList ≠ []) = true from by simp [a2]] at h
    exact h
   have b1 : ¬ s1.data.toList = s2.data.toList := fun e => a2 (by rw [← e]; exact a1)
   have qc0 : (s1.toList == s2.toList) = false := by rw [tl, tl, beq_eq_false_iff_ne]; exact b1
   have qc1 : ¬ s1.toList = s2.toList := by rw [tl, tl]; exact b1
   have HB : Hid (b = false) := by show _ = _; rw [hb]; unfold sameO; simp [a1, a2, Ne.symm a2]
   clear hb a1 a2 b1
   go_enter Tryz.func99, Tryz.ntmps99
   go_upto_region 1 with (fail)
   generalize hwa : World.alloc (World.alloc w _) _ = v1
   have h1_ : OB v1 w.heap.size s1 h1 p1 n1 ∧ OB v1 (w.heap.size + 1) s2 h2 p2 n2 ∧ Below w.heap.size w v1 := by
    subst hwa
    exact laid2 w _ _ _ _
   clear hwa
   have X1 := hid h1_.1
   have X2 := hid h1_.2.1
   have hb := h1_.2.2
   clear h1_
   have HB1 := hid hb
   clear hb
   obtain ⟨o0, o1, o2, o3⟩ := X1.out.facts
   go_wp2_with fail
   clear o0 o1 o2 o3
   refine (HT1.out _).mono ?_
   rintro e w2 ⟨rfl, hb⟩
   have HB2 := hid (bel HB1.out hb)
   have X1_2 := hid (X1.out.below hb)
   have X2_2 := hid (X2.out.below hb)
   clear hb
   obtain ⟨o0, o1, o2, o3⟩ := X2_2.out.facts
   go_wp2_with fail
   clear o0 o1 o2 o3
   refine (HT2.out _).mono ?_
   rintro e w3 ⟨rfl, hb⟩
   have HB3 := hid (bel HB2.out hb)
   have X1_3 := hid (X1_2.out.below hb)
   have X2_3 := hid (X2_2.out.below hb)
   clear hb
   obtain ⟨o0, o1, o2, o3⟩ := X1_3.out.facts
   obtain ⟨r0, r1, r2, r3⟩ := X2_3.out.facts
   go_wp2
   go_ret
   exact ⟨by rw [HB.out]; first | done | rfl | simp, HB3.out⟩
 ·
  have qa0 : (s1.toList == []) = false := by rw [tl, beq_eq_false_iff_ne]; exact a1
  have qa1 : ¬ s1.toList = [] := by rw [tl]; exact a1
  have a2 : True := trivial
  have HT1 : Hid (∀ w : World, Calls Tryz.prog 97 #[.agg #[.string s1, .string h1, .int .i64 p1, .int .i64 n1]] w fun e w' => e = .returned (.bool true) ∧ Below w.heap.size w w') := fun w => by
   have h := tuple_any s1 h1 p1 n1 w
   rw [show decide (s1.data.toList ≠ []) = true from by simp [a1]] at h
   exact h
  by_cases b1 : s1.data.toList = s2.data.toList
  rotate_left
  ·
   have qc0 : (s1.toList == s2.toList) = false := by rw [tl, tl, beq_eq_false_iff_ne]; exact b1
   have qc1 : ¬ s1.toList = s2.toList := by rw [tl, tl]; exact b1
   have HB : Hid (b = false) := by show _ = _; rw [hb]; unfold sameO; simp [a1, b1]
   clear hb a1 a2 b1
   go_enter Tryz.func99, Tryz.ntmps99
   go_upto_region 1 with (fail)
   generalize hwa : World.alloc (World.alloc w _) _ = v1
   have h1_ : OB v1 w.heap.size s1 h1 p1 n1 ∧ OB v1 (w.heap.size + 1) s2 h2 p2 n2 ∧ Below w.heap.size w v1 := by
    subst hwa
    exact laid2 w _ _ _ _
   clear hwa
   have X1 := hid h1_.1
   have X2 := hid h1_.2.1
   have hb := h1_.2.2
   clear h1_
   have HB1 := hid hb
   clear hb
   obtain ⟨o0, o1, o2, o3⟩ := X1.out.facts
   go_wp2_with fail
   clear o0 o1 o2 o3
   refine (HT1.out _).mono ?_
   rintro e w2 ⟨rfl, hb⟩
   have HB2 := hid (bel HB1.out hb)
   have X1_2 := hid (X1.out.below hb)
   have X2_2 := hid (X2.out.below hb)
   clear hb
   obtain ⟨o0, o1, o2, o3⟩ := X1_2.out.facts
   obtain ⟨r0, r1, r2, r3⟩ := X2_2.out.facts
   go_wp2
   go_ret
   exact ⟨by rw [HB.out]; first | done | rfl | simp, HB2.out⟩
  have a3 : ¬ s2.data.toList = [] := by rw [← b1]; exact a1
  have qb0 : (s2.toList == []) = false := by rw [tl, beq_eq_false_iff_ne]; exact a3
  have qb1 : ¬ s2.toList = [] := by rw [tl]; exact a3
  clear a3
  have qc0 : (s1.toList == s2.toList) = true := by rw [tl, tl, b1]; simp
  have qc1 : s1.toList = s2.toList := by rw [tl, tl, b1]
  by_cases b2 : h1.data.toList = h2.data.toList
  rotate_left
  ·
   have qd0 : (h1.toList == h2.toList) = false := by rw [tl, tl, beq_eq_false_iff_ne]; exact b2
   have qd1 : ¬ h1.toList = h2.toList := by rw [tl, tl]; exact b2
   have HB : Hid (b = false) := by show _ = _; rw [hb]; unfold sameO; simp [a1, b2]
   clear hb a1 a2 b1 b2
   go_enter Tryz.func99, Tryz.ntmps99
   go_upto_region 1 with (fail)
   generalize hwa : World.alloc (World.alloc w _) _ = v1
   have h1_ : OB v1 w.heap.size s1 h1 p1 n1 ∧ OB v1 (w.heap.size + 1) s2 h2 p2 n2 ∧ Below w.heap.size w v1 := by
    subst hwa
    exact laid2 w _ _ _ _
   clear hwa
   have X1 := hid h1_.1
   have X2 := hid h1_.2.1
   have hb := h1_.2.2
   clear h1_
   have HB1 := hid hb
   clear hb
   obtain ⟨o0, o1, o2, o3⟩ := X1.out.facts
   go_wp2_with fail
   clear o0 o1 o2 o3
   refine (HT1.out _).mono ?_
   rintro e w2 ⟨rfl, hb⟩
   have HB2 := hid (bel HB1.out hb)
   have X1_2 := hid (X1.out.below hb)
   have X2_2 := hid (X2.out.below hb)
   clear hb
   obtain ⟨o0, o1, o2, o3⟩ := X1_2.out.facts
   obtain ⟨r0, r1, r2, r3⟩ := X2_2.out.facts
   go_wp2
   go_ret
   exact ⟨by rw [HB.out]; first | done | rfl | simp, HB2.out⟩
  have qd0 : (h1.toList == h2.toList) = true := by rw [tl, tl, b2]; simp
  have qd1 : h1.toList = h2.toList := by rw [tl, tl, b2]
  have HB : Hid (b = (p1 == p2)) := by show _ = _; rw [hb]; unfold sameO; rw [if_neg (by simp [a1]), decide_eq_true b1, decide_eq_true b2, Bool.true_and, Bool.true_and]; rw [Bool.eq_iff_iff]; simp
  clear hb a1 a2 b1 b2
  go_enter Tryz.func99, Tryz.ntmps99
  go_upto_region 1 with (fail)
  generalize hwa : World.alloc (World.alloc w _) _ = v1
  have h1_ : OB v1 w.heap.size s1 h1 p1 n1 ∧ OB v1 (w.heap.size + 1) s2 h2 p2 n2 ∧ Below w.heap.size w v1 := by
   subst hwa
   exact laid2 w _ _ _ _
  clear hwa
  have X1 := hid h1_.1
  have X2 := hid h1_.2.1
  have hb := h1_.2.2
  clear h1_
  have HB1 := hid hb
  clear hb
  obtain ⟨o0, o1, o2, o3⟩ := X1.out.facts
  go_wp2_with fail
  clear o0 o1 o2 o3
  refine (HT1.out _).mono ?_
  rintro e w2 ⟨rfl, hb⟩
  have HB2 := hid (bel HB1.out hb)
  have X1_2 := hid (X1.out.below hb)
  have X2_2 := hid (X2.out.below hb)
  clear hb
  obtain ⟨o0, o1, o2, o3⟩ := X1_2.out.facts
  obtain ⟨r0, r1, r2, r3⟩ := X2_2.out.facts
  go_wp2
  go_ret
  exact ⟨by rw [HB.out]; first | done | rfl | simp, HB2.out⟩
end Go.Proofs.YtegpfgccaminkaaGreatDoor.OrgA
namespace Go.Proofs.YtegpfgccaminkaaGreatDoor.LdA
open Go.RowKit Base
variable {w : World}
theorem load_as {ops : Array Oper} {rest : List Oper} {p : Oper} {a : Act} {Q : Exit → Act → World → Prop} {ty : TypeId} {ad : Addr} {v : Value} (hl : (loadVar ty ad).run Tryz.prog w = .ok v w) (x : Operand) (ho : p.op = .load ty x) (hgd : p.guard = none) (hx : a.eval x = .pointer (some ad))
  (h : wpList Tryz.prog ops Q rest (a.put p.dst v) w) : wpList Tryz.prog ops Q (p :: rest) a w :=
 wpList_plain hgd fun _ hK => by
  unfold Oper.wp execOp
  simp only [ho, hx, Instr.loadAt, Instr.sureAddr, Sem.run_bind, Sem.run_pure, Result.andThen_ok, hl]
  exact hK _ _ h
theorem step_load {ops : Array Oper} {p : Oper} {a : Act} {w : World} {Q : Exit → Act → World → Prop} {K : Act → World → Prop} {E : Prop} {ys : Array Value} {ty : TypeId} {ad : Addr} {v : Value} (hl : (loadVar ty ad).run Tryz.prog w = .ok v w) (x : Operand) (ho : p.op = .load ty x) (hgd : p.guard = none) (hx : a.eval x = .pointer (some ad))
  (h : K (a.put p.dst v) w) : if Region.wanted p (yielded ops ys) = true then Oper.wp Tryz.prog p a w K Q else E := by
 rw [if_pos (by simp [Region.wanted, hgd])]
 unfold Oper.wp execOp
 simp only [ho, hx, Instr.loadAt, Instr.sureAddr, Sem.run_bind, Sem.run_pure, Result.andThen_ok, hl]
 exact h
theorem step_load_g {ops : Array Oper} {p : Oper} {a : Act} {w : World} {Q : Exit → Act → World → Prop} {K : Act → World → Prop} {E : Prop} {ys : Array Value} {ty : TypeId} {ad : Addr} {v : Value} (hl : (loadVar ty ad).run Tryz.prog w = .ok v w) (x : Operand) (ho : p.op = .load ty x) (hgd : Region.wanted p (yielded ops ys) = true) (hx : a.eval x = .pointer (some ad))
  (h : K (a.put p.dst v) w) : if Region.wanted p (yielded ops ys) = true then Oper.wp Tryz.prog p a w K Q else E := by
 rw [if_pos hgd]
 unfold Oper.wp execOp
 simp only [ho, hx, Instr.loadAt, Instr.sureAddr, Sem.run_bind, Sem.run_pure, Result.andThen_ok, hl]
 exact h
theorem load_at {P : Program} {b o : Nat} {ty : TypeId} {l : List Value} {d : TypeDesc} (hc : ∀ j v, l[j]? = some v → w.cell? ⟨b, o + j, none⟩ = some v)
  (hu : P.underlying ty = some d) (hd : (match d with | .struct _ | .array _ _ => true | _ => false) = true) (hi : (P.info? ty).map (·.size) = some l.length) :
  (loadVar ty ⟨b, o, none⟩).run P w = .ok (.agg l.toArray) w := by
 have hl : (loadCells ⟨b, o, none⟩ l.length).run P w = .ok l.toArray w :=
  run_loadCells_list (P := P) w ⟨b, o, none⟩ l (fun j v hv => by
   have hadd : (⟨b, o, none⟩ : Addr).add j = ⟨b, o + j, none⟩ := by unfold Addr.add; split <;> simp_all
   rw [hadd]
   exact hc j v hv)
 cases hq : P.info? ty with
 | none => simp [hq] at hi
 | some i =>
  have hs : i.size = l.length := by simpa [hq] using hi
  have hagg : (isAgg ty).run P w = .ok true w := by
   unfold isAgg
   rw [Sem.run_bind, run_underlying hu w]
   cases d <;> simp_all
  simp [loadVar, Sem.run_bind, hagg, sizeOf, typeInfo, hq, hs, hl]
end Go.Proofs.YtegpfgccaminkaaGreatDoor.LdA
namespace Go.Proofs.YtegpfgccaminkaaGreatDoor.StoB
open Go.RowKit Base Base2 Base3 Regs TbK StoG OrgA Ubx LdA
set_option linter.unusedSimpArgs false
set_option linter.unusedVariables false
theorem info_e3 : (Tryz.prog.info? 147).map (fun i => (i.zero, i.size, i.bytes)) = some (some (.agg #[.string ⟨#[]⟩, .string ⟨#[]⟩, .string ⟨#[]⟩, .int .i64 0, .int .i64 0, .pointer none]), 6, 72) := by kernel_rfl
theorem info_e : (Tryz.prog.info? 147).map (fun i => (i.zero, i.size)) = some (some (.agg #[.string ⟨#[]⟩, .string ⟨#[]⟩, .string ⟨#[]⟩, .int .i64 0, .int .i64 0, .pointer none]), 6) := by kernel_rfl
theorem ob_load {w : World} {g : Nat} {s h : ByteArray} {p n : Int} (x : OB w g s h p n) : (loadVar 32 ⟨g, 0, none⟩).run Tryz.prog w = .ok (.agg #[.string s, .string h, .int .i64 p, .int .i64 n]) w :=
 run_loadVar_row w g _ _ #[.string s, .string h, .int .i64 p, .int .i64 n] (0, 0) _ x Tryz.underlying32 rfl (by kernel_rfl)
theorem arr_load {w : World} {g : Nat} {RV : Array Value} (hs : RV.size = 16) (x : w.heap[g]? = some (.cells RV 33 (0, 0))) : (loadVar 33 ⟨g, 0, none⟩).run Tryz.prog w = .ok (.agg RV) w :=
 run_loadVar_row w g _ _ RV (0, 0) _ x Tryz.underlying33 rfl (by rw [hs]; kernel_rfl)
theorem tl_eq (a b : ByteArray) : a.toList = b.toList ↔ a = b := by
 rw [UrlP.tl, UrlP.tl]
 refine ⟨fun h => ?_, fun h => by rw [h]⟩
 cases a
 cases b
 congr 1
 exact Array.toList_inj.1 h
theorem find1_any (hb : Nat) (e : Ent (Nat)) (t : ByteArray) (w : World) (hc : w.cell? ⟨hb, 0, none⟩ = some (.string t)) : Calls Tryz.prog 102 #[.agg #[.string e.url, .string e.s, .string e.h, .int .i64 e.p, .int .i64 e.n, .pointer (some ⟨e.x, 0, none⟩)], .pointer (some ⟨hb, 0, none⟩)] w fun r w' => r = .returned (.bool (decide (e.url = t))) ∧ Below w.heap.size w w' := by
 have hlt := World.block_lt_of_cell? w _ hc
 go_enter Tryz.func102, Tryz.ntmps102
 go_wp2
 go_ret
 exact ⟨ret_bool (by rw [Bool.eq_iff_iff]; simp [tl_eq]), (Below.refl _ _).alloc (Nat.le_refl _) _⟩
def plc : Option Nat → Int
 | none => -1
 | some k => k
set_option maxHeartbeats 1000000 in
theorem index_any (A : Option Addr) (c hb : Nat) (l : List (Ent (Nat))) (t : ByteArray) (w : World) (hl : l.length ≤ 64)
  (hcell : ∀ k (hk : k < l.length), ∃ b, A = some ⟨b, 0, none⟩ ∧ b < w.heap.size ∧ ∀ j v, j < 6 → (StoG.rw6 (TbK.encP) l[k])[j]? = some v → w.cell? ⟨b, k * 6 + j, none⟩ = some v) (hc : w.cell? ⟨hb, 0, none⟩ = some (.string t)) :
  Calls Tryz.prog 101 #[.slice A l.length c, .func (.func 102) #[] #[.pointer (some ⟨hb, 0, none⟩)]] w fun e w' => e = .returned (.int .i64 (plc (idx l t))) ∧ Below w.heap.size w w' := by
 have hhb := World.block_lt_of_cell? w _ hc
 have HC := hid hcell
 have HH := hid hc
 have hlli : (l.length : Int) ≤ 64 := by omega
 clear hcell hc
 rcases Nat.eq_zero_or_pos l.length with h0 | h0
 ·have hi : idx l t = none := by
   have : l = [] := List.eq_nil_of_length_eq_zero h0
   subst this
   rfl
  rw [hi]
  go_enter Tryz.func101, Tryz.ntmps101
  go_wp2
  go_loopw [5, 8] (fun _ vk wr => vk = .int .i64 0 ∧ wr = w) (fun _ _ _ => 0)
  case atStart => exact ⟨rfl, rfl⟩
  case round =>
   obtain ⟨rfl, rfl⟩ := hrel
   go_wp2
   go_ret
   exact ⟨rfl, Below.refl _ _⟩
 ·obtain ⟨b, rfl, hbl, _⟩ := HC.out 0 h0
  go_enter Tryz.func101, Tryz.ntmps101
  go_wp2
  go_loopw [5, 8] (fun _ vk wr => ∃ j : Nat, j ≤ l.length ∧ vk = .int .i64 (j : Int) ∧ Hid (Below w.heap.size w wr) ∧ Hid (∀ k (hk : k < l.length), k < j → ¬ l[k].url = t)) (fun _ vk _ => l.length - (intOf vk).toNat)
  case atStart => exact ⟨0, Nat.zero_le _, rfl, Below.refl _ _, fun k _ hk => absurd hk (by omega)⟩
  case round =>
   obtain ⟨j, hj, rfl, HB, HN⟩ := hrel
   by_cases hlt : j < l.length
   ·obtain ⟨b', e, _, hcc⟩ := HC.out j hlt
    injection e with e
    injection e with e
    subst e
    obtain ⟨E, hp⟩ : ∃ E, E = l[j] := ⟨_, rfl⟩
    rw [← hp] at hcc
    obtain ⟨k0, k1, k2, k3, k4, k5⟩ := six_cells (w := wr) fun j' v h1 h2 => (HB.out.cell (p := ⟨b, j * 6 + j', none⟩) hbl).trans (hcc j' v h1 h2)
    replace k5 : wr.cell? ⟨b, j * 6 + 5, none⟩ = some (.pointer (some ⟨E.x, 0, none⟩)) := k5
    have HHC := hid ((HB.out.cell (p := ⟨hb, 0, none⟩) hhb).trans HH.out)
    have HP := hid hp
    clear hcc hp
    go_wp2_with fail
    refine (find1_any hb E t _ HHC.out).mono ?_
    rintro e w1 ⟨rfl, hb1⟩
    have HB1 := hid (HB.out.trans (hb1.mono HB.out.size))
    clear hb1
    by_cases hq : E.url = t
    ·have HI : Hid (plc (idx l t) = (j : Int)) := by
      show _ = _
      cases hx : idx l t with
      | none => exact absurd (by rw [← HP.out]; exact hq) (idx_none hx j hlt)
      | some k =>
       obtain ⟨hk, e1, e2⟩ := idx_some hx
       show (k : Int) = j
       rcases Nat.lt_trichotomy k j with h1 | h1 | h1
       ·exact absurd e1 (HN.out k hk h1)
       ·rw [h1]
       ·exact absurd (by rw [← HP.out]; exact hq) (e2 j h1)
     rw [decide_eq_true hq]
     clear hq
     go_wp2
     go_ret
     exact ⟨ret_int HI.out.symm, HB1.out⟩
    ·rw [decide_eq_false hq]
     have HN2 : Hid (∀ k (hk : k < l.length), k < j + 1 → ¬ l[k].url = t) := fun k hk hkj => by
      by_cases e : k = j
      ·subst e; rw [← HP.out]; exact hq
      ·exact HN.out k hk (by omega)
     clear hq
     go_wp2
     go_roundw
     case rel => exact ⟨j + 1, by omega, by go_num, HB1.out, HN2.out⟩
     case measure => simp [intOf]; omega
   ·obtain rfl : j = l.length := by omega
    have HI : Hid (idx l t = none) := by
     show _ = _
     cases hx : idx l t with
     | none => rfl
     | some k => obtain ⟨hk, e1, _⟩ := idx_some hx; exact absurd e1 (HN.out k hk hk)
    go_wp2
    go_ret
    exact ⟨ret_int (by rw [HI.out]; rfl), HB.out⟩
theorem find_any (B g room : Nat) (l : List (Ent (Nat))) (t : ByteArray) (w : World) (hT : IsS 129 147 (TbK.encP) B g room l w) (hl : l.length ≤ 64) :
  Calls Tryz.prog 68 #[.pointer (some ⟨g, 0, none⟩), .string t] w fun e w' => e = .returned (.tuple #[.int .i64 (plc (idx l t)), .bool (idx l t).isSome]) ∧ Below w.heap.size w w' := by
 have hlt := hT.lt
 obtain ⟨v, hv, hown, hBg⟩ := hT
 obtain ⟨A, c, rfl, hnc, hcm, hcell⟩ := own_cells hown
 obtain ⟨c0, c1⟩ := cells2 hv
 have HC := hid hcell
 have hb0 : Below w.heap.size w (w.alloc (.cells #[.string t] 9)) := (Below.refl _ _).alloc (Nat.le_refl _) _
 clear hcell hv hown
 go_enter Tryz.func68, Tryz.ntmps68
 go_wp2_with fail
 refine (index_any A c w.heap.size l t _ hl (fun k hk => ?_) (by rw [World.cell?_alloc_mark]; rfl)).mono ?_
 ·obtain ⟨b, e, h1, h2⟩ := HC.out k hk
  exact ⟨b, e, Nat.lt_of_lt_of_le h1 hb0.size, fun j v h3 h4 => (hb0.cell (p := ⟨b, k * 6 + j, none⟩) h1).trans (h2 j v h3 h4)⟩
 rintro e w1 ⟨rfl, hb1⟩
 have HB := hid (bel hb0 hb1)
 clear hb0 hb1
 cases hi : idx l t with
 | none =>
  have HI := hid hi
  clear hi
  rw [show plc none = -1 from rfl]
  go_wp2
  go_ret2
  exact ⟨by rw [HI.out]; rfl, HB.out⟩
 | some k =>
  rw [show plc (some k) = (k : Int) from rfl]
  have HI := hid hi
  clear hi
  go_wp2
  go_ret2
  exact ⟨by rw [HI.out]; rfl, HB.out⟩
theorem new_any (n : Nat) (h1 : 1 ≤ n) (h2 : n ≤ 64) (w : World) : Calls Tryz.prog 32 #[.int .i64 (n : Int)] w fun e w' => ∃ g, e = .returned (.tuple #[.pointer (some ⟨g, 0, none⟩), .int .i64 0]) ∧ IsS 129 147 (TbK.encP) w.heap.size g n [] w' ∧ Below w.heap.size w w' := by
 have q1 : ¬ (n : Int) < 1 := by omega
 have q2 : ¬ (64 : Int) < (n : Int) := by omega
 go_enter Tryz.func32, Tryz.ntmps32
 go_wp2
 go_ret2
 exact ⟨_, rfl, ⟨_, heap_alloc_new w _, World.ownsRow_nil _ _ _ _, Nat.le_refl _⟩, (Below.refl _ _).alloc (Nat.le_refl _) _⟩
theorem new_bad (room : Int) (h : room < 1 ∨ 64 < room) (w : World) : Calls Tryz.prog 32 #[.int .i64 room] w fun e w' => e = .returned (.tuple #[.pointer none, .int .i64 1]) ∧ Below w.heap.size w w' := by
 rcases (show room < 1 ∨ (¬ room < 1 ∧ 64 < room) by omega) with h4 | ⟨h4, h5⟩
 all_goals
  go_enter Tryz.func32, Tryz.ntmps32
  go_wp2
  go_ret2
  exact ⟨rfl, Below.refl _ _⟩
end Go.Proofs.YtegpfgccaminkaaGreatDoor.StoB
namespace Go.Proofs.YtegpfgccaminkaaGreatDoor.StoC
open Go.RowKit Base Base2 Base3 Regs TbK StoG StoB OrgA Ubx LdA
set_option linter.unusedSimpArgs false
set_option linter.unusedVariables false
set_option maxRecDepth 100000 in
set_option maxHeartbeats 4000000 in
theorem reg_ok (B g room : Nat) (l : List (Ent (Nat))) (s h : ByteArray) (p n : Int) (x : Nat) (RV : Array Value) (P N T : List UInt8) (w : World) (hS : IsS 129 147 (TbK.encP) B g room l w) (hm : room ≤ 64) (hl : l.length ≤ 64) (hr : l.length < room) (hi : idx l (strOf T) = none) (hT : T = [98, 108, 111, 98, 58] ++ P ++ [47] ++ N) (hPl : P.length ≤ 100000) (hNl : N.length ≤ 1000) (hRV : RV.size = 16)
  (HR : Hid (∀ w', Below w.heap.size w w' → Calls Tryz.prog 65 #[.agg #[.string s, .string h, .int .i64 p, .int .i64 n]] w' fun e w'' => e = .returned (.bool true) ∧ Below w'.heap.size w' w''))
  (HP : Hid (∀ w', Below w.heap.size w w' → Calls Tryz.prog 66 #[.agg #[.string s, .string h, .int .i64 p, .int .i64 n]] w' fun e w'' => e = .returned (.string (strOf P)) ∧ Below w'.heap.size w' w''))
  (HN : Hid (∀ w', Below w.heap.size w w' → Calls Tryz.prog 67 #[.agg RV] w' fun e w'' => e = .returned (.string (strOf N)) ∧ Below w'.heap.size w' w'')) :
  Calls Tryz.prog 41 #[.pointer (some ⟨g, 0, none⟩), .agg #[.string s, .string h, .int .i64 p, .int .i64 n], .pointer (some ⟨x, 0, none⟩), .agg RV] w fun e w' => e = .returned (.tuple #[.string (strOf T), .int .i64 0]) ∧ IsS 129 147 (TbK.encP) B g room (l ++ [⟨strOf T, s, h, p, n, x⟩]) w' ∧ Below B w w' ∧ Kp 129 147 w w' := by
 obtain ⟨i0, hi0, hz0, hz1, hz2⟩ := info_parts info_e3
 have HS0 := hid hS
 have hBw : B ≤ w.heap.size := by obtain ⟨_, _, _, h3⟩ := hS; exact Nat.le_trans h3 (Nat.le_of_lt HS0.out.lt)
 have HI := hid hi
 have HRV := hid hRV
 obtain ⟨T1, hT1⟩ : ∃ x, x = [98, 108, 111, 98, 58] ++ P := ⟨_, rfl⟩
 obtain ⟨T2, hT2⟩ : ∃ x, x = T1 ++ [47] := ⟨_, rfl⟩
 have hT3 : T = T2 ++ N := by rw [hT, hT2, hT1]
 have hl1 : T1.length ≤ 100005 := by rw [hT1]; simp only [List.length_append, List.length_cons, List.length_nil]; omega
 have hl2 : T2.length ≤ 100006 := by rw [hT2]; simp only [List.length_append, List.length_cons, List.length_nil]; omega
 have HA1 : Hid (∀ w : World, (Op.stringOp .add ⟨#[98, 108, 111, 98, 58]⟩ (strOf P)).run Tryz.prog w = .ok (.string (strOf T1)) w) := fun w => by rw [hT1]; exact str_add' ⟨#[98, 108, 111, 98, 58]⟩ (strOf P) w (by rw [size_strOf]; show 5 + _ ≤ _; omega)
 have HA2 : Hid (∀ w : World, (Op.stringOp .add (strOf T1) ⟨#[47]⟩).run Tryz.prog w = .ok (.string (strOf T2)) w) := fun w => by rw [hT2]; exact str_add' (strOf T1) ⟨#[47]⟩ w (by rw [size_strOf]; show _ + 1 ≤ _; omega)
 have HA3 : Hid (∀ w : World, (Op.stringOp .add (strOf T2) (strOf N)).run Tryz.prog w = .ok (.string (strOf T)) w) := fun w => by rw [hT3]; exact str_add' (strOf T2) (strOf N) w (by rw [size_strOf, size_strOf]; omega)
 clear hT hT1 hT2 hT3 hl1 hl2 hPl hNl hS hi hRV
 go_enter Tryz.func41, Tryz.ntmps41
 go_upto_region 1 with (fail)
 generalize hwa : World.alloc (World.alloc w _) _ = v1
 have h1_ : OB v1 w.heap.size s h p n ∧ v1.heap[w.heap.size + 1]? = some (.cells RV 33 (0, 0)) ∧ Below w.heap.size w v1 := by
  subst hwa
  exact laid2 w _ _ _ _
 clear hwa
 have X1 := hid h1_.1
 have X2 := hid h1_.2.1
 have HB1 := hid h1_.2.2
 clear h1_
 obtain ⟨d0, d1, d2, d3⟩ := X1.out.facts
 go_wp2_with fail
 refine (HR.out _ HB1.out).mono ?_
 rintro e v2 ⟨rfl, hb2⟩
 clear d0 d1 d2 d3
 have X1b := hid (X1.out.below hb2)
 have X2b := hid ((hb2.block _ (Array.getElem?_eq_some_iff.1 X2.out).1).trans X2.out)
 have HB2 := hid (bel HB1.out hb2)
 clear X1 X2 HB1 hb2
 go_upto_region 3 with (fail)
 refine wp_region_rel (by kernel_rfl) [is (.agg #[.string s, .string h, .int .i64 p, .int .i64 n]), is (.string (strOf P)), is (.string (strOf T1)), is (.string (strOf T2)), is (.agg RV), is (.string (strOf N)), is (.string (strOf T)), is (.string (strOf T))] [[], [0], [1], [2], [], [4], [3, 5], [6]] (by kernel_rfl) ?_ ?_
 ·refine ⟨?_, ?_, ?_, ?_, ?_, ?_, ?_, ?_, trivial⟩
  ·intro t wq hbq hh K hK
   clear hh
   simp only [filled, upd, Have, is, any, row, pick, Act.put, List.setIfInBounds_toArray, List.set_cons_zero, List.set_cons_succ, Nat.reduceAdd, Nat.reduceEqDiff, reduceIte] at hK ⊢
   refine step_load (ob_load (X1b.out.below hbq)) (.tmp 5) rfl rfl rfl ?_
   exact hK _ _ (Below.refl _ _) rfl
  ·intro t wq hbq hh K hK
   have e0 := hh.1
   simp only [pick] at e0
   replace e0 : t 0 = (.agg #[.string s, .string h, .int .i64 p, .int .i64 n]) := e0
   clear hh
   simp only [filled, upd, Have, is, any, row, pick, Act.put, List.setIfInBounds_toArray, List.set_cons_zero, List.set_cons_succ, Nat.reduceAdd, Nat.reduceEqDiff, reduceIte] at hK ⊢
   simp only [e0] at hK ⊢
   go_simp
   refine (HP.out _ (bel HB2.out hbq)).mono ?_
   rintro e w9 ⟨rfl, hb9⟩
   exact hK _ _ hb9 rfl
  ·intro t wq hbq hh K hK
   have e1 := hh.1
   simp only [pick] at e1
   replace e1 : t 1 = (.string (strOf P)) := e1
   clear hh
   simp only [filled, upd, Have, is, any, row, pick, Act.put, List.setIfInBounds_toArray, List.set_cons_zero, List.set_cons_succ, Nat.reduceAdd, Nat.reduceEqDiff, reduceIte] at hK ⊢
   simp only [e1] at hK ⊢
   have had := HA1.out wq
   go_simp
   exact hK _ _ (Below.refl _ _) rfl
  ·intro t wq hbq hh K hK
   have e2 := hh.1
   simp only [pick] at e2
   replace e2 : t 2 = (.string (strOf T1)) := e2
   clear hh
   simp only [filled, upd, Have, is, any, row, pick, Act.put, List.setIfInBounds_toArray, List.set_cons_zero, List.set_cons_succ, Nat.reduceAdd, Nat.reduceEqDiff, reduceIte] at hK ⊢
   simp only [e2] at hK ⊢
   have had := HA2.out wq
   go_simp
   exact hK _ _ (Below.refl _ _) rfl
  ·intro t wq hbq hh K hK
   clear hh
   simp only [filled, upd, Have, is, any, row, pick, Act.put, List.setIfInBounds_toArray, List.set_cons_zero, List.set_cons_succ, Nat.reduceAdd, Nat.reduceEqDiff, reduceIte] at hK ⊢
   refine step_load (arr_load HRV.out ((hbq.block _ (Array.getElem?_eq_some_iff.1 X2b.out).1).trans X2b.out)) (.tmp 7) rfl rfl rfl ?_
   exact hK _ _ (Below.refl _ _) rfl
  ·intro t wq hbq hh K hK
   have e4 := hh.1
   simp only [pick] at e4
   replace e4 : t 4 = (.agg RV) := e4
   clear hh
   simp only [filled, upd, Have, is, any, row, pick, Act.put, List.setIfInBounds_toArray, List.set_cons_zero, List.set_cons_succ, Nat.reduceAdd, Nat.reduceEqDiff, reduceIte] at hK ⊢
   simp only [e4] at hK ⊢
   go_simp
   refine (HN.out _ (bel HB2.out hbq)).mono ?_
   rintro e w9 ⟨rfl, hb9⟩
   exact hK _ _ hb9 rfl
  ·intro t wq hbq hh K hK
   have e3 := hh.1
   simp only [pick] at e3
   replace e3 : t 3 = (.string (strOf T2)) := e3
   have e5 := hh.2.1
   simp only [pick] at e5
   replace e5 : t 5 = (.string (strOf N)) := e5
   clear hh
   simp only [filled, upd, Have, is, any, row, pick, Act.put, List.setIfInBounds_toArray, List.set_cons_zero, List.set_cons_succ, Nat.reduceAdd, Nat.reduceEqDiff, reduceIte] at hK ⊢
   simp only [e3, e5] at hK ⊢
   have had := HA3.out wq
   go_simp
   exact hK _ _ (Below.refl _ _) rfl
  ·intro t wq hbq hh K hK
   have e6 := hh.1
   simp only [pick] at e6
   replace e6 : t 6 = (.string (strOf T)) := e6
   clear hh
   simp only [filled, upd, Have, is, any, row, pick, Act.put, List.setIfInBounds_toArray, List.set_cons_zero, List.set_cons_succ, Nat.reduceAdd, Nat.reduceEqDiff, reduceIte] at hK ⊢
   simp only [e6] at hK ⊢
   go_simp
   exact hK _ _ (Below.refl _ _) rfl
 ·intro t wq hbq hh
  have f7 := have_get hh 7 (by decide)
  simp only [pick] at f7
  replace f7 : t 7 = (.string (strOf T)) := f7
  clear hh
  simp only [filled, upd, Have, is, any, row, pick, Act.put, List.setIfInBounds_toArray, List.set_cons_zero, List.set_cons_succ, Nat.reduceAdd, Nat.reduceEqDiff, reduceIte]
  simp only [f7]
  have X1c := hid (X1b.out.below hbq)
  have HB3 := hid (bel HB2.out hbq)
  clear X1b X2b HB2 hbq
  have HS3 := hid (HS0.out.below HB3.out)
  go_wp2_with fail
  refine (find_any B g room l (strOf T) _ HS3.out hl).mono ?_
  rw [HI.out]
  rintro e w4 ⟨rfl, hb4⟩
  have X1d := hid (X1c.out.below hb4)
  have HB4 := hid (bel HB3.out hb4)
  clear X1c HB3 hb4
  rw [show plc none = -1 from rfl]
  have HS4 := hid (HS0.out.below HB4.out)
  obtain ⟨v, hv, hown, hBg⟩ := HS4.out
  obtain ⟨A, c, rfl, hnc, hcm, _⟩ := own_cells hown
  obtain ⟨c0, c1⟩ := cells2 hv
  have hlti := HS4.out.lt
  clear HS3
  have hroom : ¬ (room : Int) ≤ (l.length : Int) := by omega
  have hll : (l.length : Int) ≤ 64 := by omega
  go_wp2_with fail
  go_quiet (fail)
  have hv1 : (w4.drewN nq).heap[g]? = some (.cells #[.int .i64 (room : Int), .slice A l.length c] 129 (0, 0)) := by rw [World.heap_drewN]; exact hv
  have hb1 : Below w4.heap.size w4 (w4.drewN nq) := Base.below_drewN (Below.refl _ _) _
  have hown1 := owns_below hown hb1
  have HB5 := hid (bel HB4.out hb1)
  have X1e := hid (X1d.out.below hb1)
  generalize w4.drewN nq = w5 at hv1 hown1 hb1 HB5 X1e ⊢
  clear c0 c1 hv hown HS4 hb1 X1d HB4
  have HV := hid hv1
  have HO := hid hown1
  obtain ⟨c0, c1⟩ := cells2 HV.out
  have HLT : Hid (g < w5.heap.size) := (Array.getElem?_eq_some_iff.1 HV.out).1
  have HBL : Hid (B ≤ w5.heap.size) := Nat.le_trans hBw HB5.out.size
  clear hv1 hown1
  go_upto_region 9 with (fail)
  generalize decide (room ≤ l.length) = dd
  refine wp_region_any (by kernel_rfl) ?_
  change wpAny _ _ _ _ _ _ _ (World.drew _)
  refine wpAny_take (i := 0) (v := (.pointer (some ⟨g, 0, none⟩))) rfl (by kernel_rfl) (by kernel_rfl) (by kernel_rfl) (fun _ _ _ h => h) (Or.inl ⟨by rfl, ?yy0⟩) ?_
  case yy0 => (intro w; go_simp; try with_reducible rfl)
  simp only [List.getElem_toArray, List.getElem_cons_zero, List.getElem_cons_succ, Act.put, List.setIfInBounds_toArray, List.set_cons_zero, List.set_cons_succ]
  refine wpAny_go 10 [is (.pointer (some ⟨g, 0, none⟩)), is (.pointer (some ⟨g, 0, none⟩)), is (.pointer (some ⟨g, 0, none⟩)), is (.pointer (some ⟨g, 1, none⟩)), is (.slice A l.length c), is (.string (strOf T)), is (.agg #[.string s, .string h, .int .i64 p, .int .i64 n]), is (.pointer (some ⟨x, 0, none⟩)), is (.agg #[.string (strOf T), .string s, .string h, .int .i64 p, .int .i64 n, .pointer (some ⟨x, 0, none⟩)]), one6 [.string (strOf T), .string s, .string h, .int .i64 p, .int .i64 n, .pointer (some ⟨x, 0, none⟩)]] [[], [], [1], [1, 2], [1, 2, 3], [], [], [], [5, 6, 7], [5, 6, 7, 8], [1, 2, 3, 4, 5, 6, 7, 8, 9]] [0] (by kernel_rfl) (by kernel_rfl) (by kernel_rfl) ?_ ?_ ?_
  ·intro k hk; simp only [List.mem_cons, List.not_mem_nil, or_false] at hk; subst hk; rfl
  ·refine ⟨?_, ?_, ?_, ?_, ?_, ?_, ?_, ?_, ?_, ?_, trivial⟩
   ·intro t wq hbq hh K hK
    clear hh
    simp only [filled, filledN, upd, Have, is, any, row, pick, Act.put, List.setIfInBounds_toArray, List.set_cons_zero, List.set_cons_succ, Nat.reduceAdd, Nat.reduceEqDiff, reduceIte] at hK ⊢
    go_simp
    exact hK _ _ (Below.refl _ _) rfl
   ·intro t wq hbq hh K hK
    clear hh
    simp only [filled, filledN, upd, Have, is, any, row, pick, Act.put, List.setIfInBounds_toArray, List.set_cons_zero, List.set_cons_succ, Nat.reduceAdd, Nat.reduceEqDiff, reduceIte] at hK ⊢
    go_simp
    exact hK _ _ (Below.refl _ _) rfl
   ·intro t wq hbq hh K hK
    have e1 := hh.1
    simp only [pick] at e1
    replace e1 : t 1 = (.pointer (some ⟨g, 0, none⟩)) := e1
    clear hh
    simp only [filled, filledN, upd, Have, is, any, row, pick, Act.put, List.setIfInBounds_toArray, List.set_cons_zero, List.set_cons_succ, Nat.reduceAdd, Nat.reduceEqDiff, reduceIte] at hK ⊢
    simp only [e1] at hK ⊢
    go_simp
    exact hK _ _ (Below.refl _ _) rfl
   ·intro t wq hbq hh K hK
    have e2 := hh.2.1
    simp only [pick] at e2
    replace e2 : t 2 = (.pointer (some ⟨g, 0, none⟩)) := e2
    clear hh
    simp only [filled, filledN, upd, Have, is, any, row, pick, Act.put, List.setIfInBounds_toArray, List.set_cons_zero, List.set_cons_succ, Nat.reduceAdd, Nat.reduceEqDiff, reduceIte] at hK ⊢
    simp only [e2] at hK ⊢
    go_simp
    exact hK _ _ (Below.refl _ _) rfl
   ·intro t wq hbq hh K hK
    have e3 := hh.2.2.1
    simp only [pick] at e3
    replace e3 : t 3 = (.pointer (some ⟨g, 1, none⟩)) := e3
    clear hh
    simp only [filled, filledN, upd, Have, is, any, row, pick, Act.put, List.setIfInBounds_toArray, List.set_cons_zero, List.set_cons_succ, Nat.reduceAdd, Nat.reduceEqDiff, reduceIte] at hK ⊢
    simp only [e3] at hK ⊢
    have hq := (hbq.cell (p := ⟨g, 1, none⟩) HLT.out).trans c1
    go_simp
    exact hK _ _ (Below.refl _ _) rfl
   ·intro t wq hbq hh K hK
    clear hh
    simp only [filled, filledN, upd, Have, is, any, row, pick, Act.put, List.setIfInBounds_toArray, List.set_cons_zero, List.set_cons_succ, Nat.reduceAdd, Nat.reduceEqDiff, reduceIte] at hK ⊢
    go_simp
    exact hK _ _ (Below.refl _ _) rfl
   ·intro t wq hbq hh K hK
    clear hh
    simp only [filled, filledN, upd, Have, is, any, row, pick, Act.put, List.setIfInBounds_toArray, List.set_cons_zero, List.set_cons_succ, Nat.reduceAdd, Nat.reduceEqDiff, reduceIte] at hK ⊢
    refine step_load (ob_load (OB.below (w := w5.drew) X1e.out hbq)) (.tmp 5) rfl rfl rfl ?_
    exact hK _ _ (Below.refl _ _) rfl
   ·intro t wq hbq hh K hK
    clear hh
    simp only [filled, filledN, upd, Have, is, any, row, pick, Act.put, List.setIfInBounds_toArray, List.set_cons_zero, List.set_cons_succ, Nat.reduceAdd, Nat.reduceEqDiff, reduceIte] at hK ⊢
    go_simp
    exact hK _ _ (Below.refl _ _) rfl
   ·intro t wq hbq hh K hK
    have e5 := hh.1
    simp only [pick] at e5
    replace e5 : t 5 = (.string (strOf T)) := e5
    have e6 := hh.2.1
    simp only [pick] at e6
    replace e6 : t 6 = (.agg #[.string s, .string h, .int .i64 p, .int .i64 n]) := e6
    have e7 := hh.2.2.1
    simp only [pick] at e7
    replace e7 : t 7 = (.pointer (some ⟨x, 0, none⟩)) := e7
    clear hh
    simp only [filled, filledN, upd, Have, is, any, row, pick, Act.put, List.setIfInBounds_toArray, List.set_cons_zero, List.set_cons_succ, Nat.reduceAdd, Nat.reduceEqDiff, reduceIte] at hK ⊢
    simp only [e5, e6, e7] at hK ⊢
    go_simp
    exact hK _ _ (Below.refl _ _) rfl
   ·intro t wq hbq hh K hK
    have e8 := hh.2.2.2.1
    simp only [pick] at e8
    replace e8 : t 8 = (.agg #[.string (strOf T), .string s, .string h, .int .i64 p, .int .i64 n, .pointer (some ⟨x, 0, none⟩)]) := e8
    clear hh
    simp only [filled, filledN, upd, Have, is, any, row, pick, Act.put, List.setIfInBounds_toArray, List.set_cons_zero, List.set_cons_succ, Nat.reduceAdd, Nat.reduceEqDiff, reduceIte] at hK ⊢
    simp only [e8] at hK ⊢
    go_simp
    go_simp
    exact hK _ _ ((Below.refl _ _).alloc (Nat.le_refl _) _) ⟨wq.heap.size, rfl, by simp, fun j v hv => by rw [cell_of_row _ wq.heap.size j _ _ _ (heap_alloc_new wq _)]; simpa using hv⟩
  ·intro t wq hbq hh
   have f0 := have_get hh 0 (by decide)
   simp only [pick] at f0
   replace f0 : t 0 = (.pointer (some ⟨g, 0, none⟩)) := f0
   have f4 := have_get hh 4 (by decide)
   simp only [pick] at f4
   replace f4 : t 4 = (.slice A l.length c) := f4
   have f9 := have_get hh 9 (by decide)
   simp only [pick] at f9
   clear hh
   simp only [filled, filledN, upd, Have, is, any, row, pick, Act.put, List.setIfInBounds_toArray, List.set_cons_zero, List.set_cons_succ, Nat.reduceAdd, Nat.reduceEqDiff, reduceIte]
   simp only [f0, f4]
   obtain ⟨b, f9, hbl, q0⟩ := f9
   simp only [f9]
   have hvq : wq.heap[g]? = some (.cells #[.int .i64 (room : Int), .slice A l.length c] 129 (0, 0)) := (hbq.block g HLT.out).trans HV.out
   have hoq : wq.ownsRow B 147 6 (.slice A l.length c) l.length (flat (TbK.encP) l) := owns_below (w := w5.drew) HO.out hbq
   have hlq : g < wq.heap.size := Nat.lt_of_lt_of_le HLT.out hbq.size
   have HVQ := hid hvq
   have HLQ := hid hlq
   have Q0 := hid q0
   clear hvq hlq q0
   show wpList _ _ _ [_, _, _, _] _ _
   refine wpList_append_own _ rfl _ _ 127 rfl B 147 i0 _ 6 72 Tryz.underlying127 hi0 hz0 hz1 hz2 rfl (by decide) (.slice A l.length c) l.length (flat (TbK.encP) l) rfl hoq ⟨b, 0, none⟩ 1 1 [.string (strOf T), .string s, .string h, .int .i64 p, .int .i64 n, .pointer (some ⟨x, 0, none⟩)] rfl rfl ?d1 (by intro u hu; simp at hu; rcases hu with rfl | rfl | rfl | rfl | rfl | rfl <;> rfl) ?d2 ?d3 ?d4 ?_
   case d1 =>
    intro j u hj
    have ha : Addr.add ⟨b, 0, none⟩ j = ⟨b, j, none⟩ := by unfold Addr.add; split <;> simp_all
    rw [ha]
    exact Q0.out j u hj
   case d2 => unfold maxLen; omega
   case d3 => omega
   case d4 => have := HLQ.out; omega
   intro v' w6 hown' hgrow _
   have hv4 : w6.heap[g]? = some (.cells #[.int .i64 (room : Int), .slice A l.length c] 129 (0, 0)) := (hgrow.block g HLQ.out (fun e => own_ne (by decide) HVQ.out hoq e.symm)).trans HVQ.out
   have hbw4 : Below B w w6 := ((HB5.out.mono hBw).drew.trans (hbq.mono HBL.out)).grown hgrow (Nat.le_trans HBL.out hbq.size) (fun k hk => (hoq.lt k hk).1)
   have hkp4 : Kp 129 147 w w6 := (Kp.below ((HB5.out.drew.trans (hbq.mono HB5.out.size)))).trans (Kp.grown hoq hgrow)
   have hT5 := heap_setCell_same w6 g 1 _ _ v' hv4
   have hown5 : (w6.setCell ⟨g, 1, none⟩ v').ownsRow B 147 6 v' (l.length + 1) (flat (TbK.encP) l ++ [.string (strOf T), .string s, .string h, .int .i64 p, .int .i64 n, .pointer (some ⟨x, 0, none⟩)]) := own_set hown' (own_ne (by decide) hv4 hown')
   have H5 : Hid (IsS 129 147 (TbK.encP) B g room (l ++ [⟨strOf T, s, h, p, n, x⟩]) (w6.setCell ⟨g, 1, none⟩ v')) := by
    refine ⟨v', by simpa using hT5, ?_, hBg⟩
    rw [List.length_append, StoG.flat_append]
    exact hown5
   have HB6 : Hid (Below B w (w6.setCell ⟨g, 1, none⟩ v')) := hbw4.setCell (p := ⟨g, 1, none⟩) hBg _
   have HK6 : Hid (Kp 129 147 w (w6.setCell ⟨g, 1, none⟩ v')) := hkp4.trans (Kp.set hv4 (.inl rfl))
   obtain ⟨k0, k1⟩ := cells2 hv4
   obtain ⟨m0, m1⟩ := thaw2 hv4
   obtain ⟨n0, n1⟩ := cells2 hT5
   obtain ⟨vA, vc, hvf, _⟩ := own_form hown'
   subst hvf
   clear hoq hown' hgrow hv4 hbw4 hkp4 hT5 hown5
   go_wp2
   go_ret2
   exact ⟨rfl, H5.out, HB6.out, HK6.out⟩
end Go.Proofs.YtegpfgccaminkaaGreatDoor.StoC
