/- Texts that belong together: ActB, ActO, Open, Open2, AggN, ActI, Shs, Utab, Arr16. -/
import Derived.Test.YtegpfgccaminkaaGreatDoorUAT
import Derived.Laws.BitsAllLaws
import Derived.BigQuiet
import Derived.Deep.QuietTactic
import Derived.Laws.StructEq
import Derived.Test.YtegpfgccaminkaaGreatDoorUAA
import Derived.Laws.OwnMore
import Derived.ProofKit
import Derived.OpenShut
import Derived.ShutString
import Derived.ChangeOld
import Derived.Below
import Derived.SliceStrings
import Derived.SizedLaws
import Derived.Laws.IdiomArrays
import Derived.Lib.SmallJoins
import Derived.Test.YtegpfgccaminkaaGreatDoorUAC
import Derived.Handed
import Derived.HandedShaped
import Derived.Shelf.Vars
import Derived.Test.YtegpfgccaminkaaGreatDoorUAL
import Derived.Lib.LaidU8
set_option linter.unusedSimpArgs false
set_option linter.unusedVariables false
namespace Go.Proofs.YtegpfgccaminkaaGreatDoor.ActB
open Go.RowKit Base Base2
structure O where
 k : Nat
 b : List UInt8
 t : List UInt8
 h : Int
 fr : Int
 til : Int
 hf : Bool
 ht : Bool
 c : List UInt8
 d : List UInt8
 p : Int
 n : Int
 r : List UInt8
 s : List UInt8
 has : Bool
def cells (o : O) : List Value := .int .u8 (o.k : Int) :: .string (strOf o.b) :: .string (strOf o.t) :: .int .i64 o.h :: .int .i64 o.fr :: .int .i64 o.til :: .bool o.hf :: .bool o.ht :: .string (strOf o.c) :: .string (strOf o.d) :: .int .i64 o.p :: .int .i64 o.n :: (bcells o.r ++ [.string (strOf o.s), .bool o.has])
def val (o : O) : Value := .agg (cells o).toArray
theorem length_cells {o : O} (h : o.r.length = 16) : (cells o).length = 30 := by simp [cells, length_bcells, h]
variable {w w' : World} {g : Nat} {o o' : O} {T : TypeId}
theorem cells_one (o : O) : ∀ u ∈ cells o, u.oneCell' = true := by
 intro u hu
 simp only [cells, bcells, List.mem_cons, List.mem_append, List.mem_map, List.not_mem_nil, or_false] at hu
 rcases hu with rfl | rfl | rfl | rfl | rfl | rfl | rfl | rfl | rfl | rfl | rfl | rfl | (⟨c, _, rfl⟩ | rfl | rfl) <;> rfl
theorem agg_struct {S : TypeId} {fs : Array Field} (hu : Tryz.prog.underlying S = some (.struct fs)) (w : World) : (isAgg S).run Tryz.prog w = .ok true w := by
 unfold isAgg
 rw [Sem.run_bind, run_underlying hu w]
 rfl
theorem loadVar_list {S : TypeId} {ad : Addr} {cs : List Value} (h : ∀ (j : Nat) (v : Value), cs[j]? = some v → w.cell? (ad.add j) = some v) (hagg : (isAgg S).run Tryz.prog w = .ok true w) (hi : (Tryz.prog.info? S).map (·.size) = some cs.length) : (loadVar S ad).run Tryz.prog w = .ok (.agg cs.toArray) w := by
 have hl := run_loadCells_list (P := Tryz.prog) w ad cs h
 cases hq : Tryz.prog.info? S with
 | none => simp [hq] at hi
 | some i =>
  have hs : i.size = cs.length := by simpa [hq] using hi
  simp [loadVar, Sem.run_bind, hagg, sizeOf, typeInfo, hq, hs, hl]
def Acts (w : World) (A : Option Addr) (n : Nat) (l : List O) : Prop := l.length = n ∧ Rds w A (n * 30) (l.flatMap cells) ∧ ∀ o ∈ l, o.r.length = 16
theorem Acts.below {A : Option Addr} {n : Nat} {l : List O} (h : Acts w A n l) (hb : Below w.heap.size w w') : Acts w' A n l := ⟨h.1, h.2.1.below hb, h.2.2⟩
theorem flat_len (l : List O) (h : ∀ o ∈ l, o.r.length = 16) : (l.flatMap cells).length = l.length * 30 := by
 induction l with
 | nil => rfl
 | cons o l ih => rw [List.flatMap_cons, List.length_append, length_cells (h o (by simp)), ih fun x hx => h x (by simp [hx]), List.length_cons]; omega
theorem flat_at (l : List O) (h : ∀ o ∈ l, o.r.length = 16) (j : Nat) (hj : j < l.length) (i : Nat) (hi : i < 30) : (l.flatMap cells)[j * 30 + i]? = (cells l[j])[i]? := by
 induction l generalizing j with
 | nil => simp at hj
 | cons o l ih =>
  have hc := length_cells (h o (by simp))
  rw [List.flatMap_cons]
  cases j with
  | zero =>
   rw [List.getElem?_append_left (by omega)]
   simp
  | succ j =>
   rw [List.getElem?_append_right (by omega), hc, show (j + 1) * 30 + i - 30 = j * 30 + i by omega, ih (fun x hx => h x (by simp [hx])) j (by simpa using hj)]
   simp
set_option maxRecDepth 100000 in
theorem Acts.load {S : TypeId} {fs : Array Field} {b off n : Nat} {l : List O} (h : Acts w (some ⟨b, off, none⟩) n l) (j : Nat) (hj : j < l.length) (hu : Tryz.prog.underlying S = some (.struct fs)) (hi : (Tryz.prog.info? S).map (·.size) = some 30) : (loadVar S ⟨b, off + j * 30, none⟩).run Tryz.prog w = .ok (val l[j]) w :=
 have hc := length_cells (h.2.2 l[j] (List.getElem_mem hj))
 loadVar_list (cs := cells l[j]) (fun i v hv => by
  have hi : i < 30 := by rw [← hc]; exact (List.getElem?_eq_some_iff.1 hv).1
  have hf := flat_at l h.2.2 j hj i hi
  rw [hv] at hf
  obtain ⟨h5, h6⟩ := List.getElem?_eq_some_iff.1 hf
  obtain ⟨b', off', e, _, hcell⟩ := h.2.1.2 (j * 30 + i) h5
  injection e with e
  injection e with e1 e2
  subst e1 e2
  rw [AnsW.add_at', Nat.add_assoc, hcell, h6]) (agg_struct hu w) (by rw [hc]; exact hi)
theorem Acts.spot {A : Option Addr} {n : Nat} {l : List O} (h : Acts w A n l) (hn : 0 < n) : ∃ b off, A = some ⟨b, off, none⟩ ∧ b < w.heap.size := by
 obtain ⟨b, off, e, hb, _⟩ := h.2.1.spot (by omega)
 exact ⟨b, off, e, hb⟩
theorem Acts.at {w : World} {b off n : Nat} {l : List O} (h : Acts w (some ⟨b, off, none⟩) n l) (j : Nat) (hj : j < l.length) (i : Nat) (hi : i < 30) {v : Value} (e : (cells l[j])[i]? = some v) : w.cell? ⟨b, off + j * 30 + i, none⟩ = some v := by
 have hf := flat_at l h.2.2 j hj i hi
 rw [e] at hf
 obtain ⟨h5, h6⟩ := List.getElem?_eq_some_iff.1 hf
 obtain ⟨b', off', e', _, hcell⟩ := h.2.1.2 (j * 30 + i) h5
 injection e' with e'
 injection e' with e1 e2
 subst e1 e2
 rw [Nat.add_assoc, hcell, h6]
def OB (T : TypeId) (w : World) (g : Nat) (o : O) : Prop := w.heap[g]? = some (.cells (cells o).toArray T (0, 0))
theorem OB.lt (h : OB T w g o) : g < w.heap.size := (Array.getElem?_eq_some_iff.1 h).1
theorem OB.below (h : OB T w g o) (hb : Below w.heap.size w w') : OB T w' g o := (hb.block g h.lt).trans h
theorem OB.cell (h : OB T w g o) (i : Nat) {v : Value} (e : (cells o)[i]? = some v) : w.cell? ⟨g, i, none⟩ = some v := (cell_of_row w g i _ _ _ h).trans (by rw [List.getElem?_toArray]; exact e)
theorem size_cells (h : o.r.length = 16) : (cells o).toArray.size = 30 := by rw [List.size_toArray]; exact length_cells h
theorem below_row {w0 : World} {B : Nat} (h : Below B w0 w) (hg : B ≤ g) (c : Array Value) : Below B w0 (w.setRow g c) :=
 ⟨h.os, h.tape, h.output, by simpa using h.size, fun b hb => (setRow_other w g b c (by omega)).trans (h.block b hb)⟩
theorem store_op {ops : Array Oper} {rest : List Oper} {p : Oper} {a : Act} {Q : Exit → Act → World → Prop} {C : Array Value} (hU : w.heap[g]? = some (.cells C T (0, 0))) (hC : C.size = 30) (o : O) (hr : o.r.length = 16) (x y : Operand) (ho : p.op = .store T x y) (hgd : p.guard = none)
  (hx : a.eval x = .pointer (some ⟨g, 0, none⟩)) (hy : a.eval y = val o) (hi : (Tryz.prog.info? T).map (·.size) = some 30)
  (h : wpList Tryz.prog ops Q rest (a.put p.dst undef) (w.setRow g (cells o).toArray)) : wpList Tryz.prog ops Q (p :: rest) a w :=
 wpList_store_row hgd T x y ho g (cells o).toArray hx hy T C hU (by rw [size_cells hr]; exact hi) (by rw [size_cells hr, hC]) (by rw [List.all_toArray]; exact List.all_eq_true.2 (cells_one o)) h
theorem fresh (T : TypeId) (w : World) (C : Array Value) (o : O) : OB T ((w.alloc (.cells C T)).setRow w.heap.size (cells o).toArray) w.heap.size o ∧ Below w.heap.size w ((w.alloc (.cells C T)).setRow w.heap.size (cells o).toArray) :=
 ⟨setRow_heap _ _ _ _ _ (0, 0) (heap_alloc_new w _), below_row ((Below.refl _ _).alloc (Nat.le_refl _) _) (Nat.le_refl _) _⟩
def Far (o : O) : Prop := o.b.length ≤ 140737488351232 ∧ o.t.length ≤ 140737488351232 ∧ o.s.length ≤ 140737488351232 ∧ o.c.length ≤ 140737488351232 ∧ o.d.length ≤ 140737488351232
def tl (o : O) : Nat := o.b.length + o.t.length + o.s.length + o.c.length + o.d.length
def fewB (l : List O) : Bool := (l.all fun o => decide (tl o ≤ 600)) && decide (l.length ≤ 30)
end Go.Proofs.YtegpfgccaminkaaGreatDoor.ActB
namespace Go.Proofs.YtegpfgccaminkaaGreatDoor.ActO
open Go.RowKit Base Base2 ActB
theorem cells_28 {o : O} (h : o.r.length = 16) : (cells o)[28]? = some (.string (strOf o.s)) := by
 unfold cells
 simp only [List.getElem?_cons_succ]
 rw [List.getElem?_append_right (by rw [length_bcells, h]; decide), length_bcells, h]
 rfl
set_option maxRecDepth 100000 in
set_option maxHeartbeats 8000000 in
theorem few_any (A : Option Addr) (n c : Nat) (l : List O) (w : World) (h : Acts w A n l) (hf : ∀ o ∈ l, Far o) (hnm : n ≤ maxLen) :
  Calls Tryz.prog 10 #[.slice A n c] w fun e w' => e = .returned (.bool (fewB l)) ∧ Below w.heap.size w w' := by
 have hln := h.1
 have HLN := hid hln
 have HH := hid h
 have HF := hid hf
 have hn63 : (n : Int) ≤ 9223372036854775807 := by unfold maxLen at hnm; omega
 clear h hln hf hnm
 go_enter Tryz.func10, Tryz.ntmps10
 go_wp2
 go_loopw [3, 6] (fun _ vk wr => ∃ k : Nat, k ≤ n ∧ vk = .int .i64 (k : Int) ∧ Hid ((l.take k).all (fun o => decide (tl o ≤ 600)) = true) ∧ Hid (Below w.heap.size w wr)) (fun _ vk _ => n - (intOf vk).toNat)
 case atStart => exact ⟨0, Nat.zero_le _, rfl, by show _ = _; simp, Below.refl _ _⟩
 case round =>
  obtain ⟨k, hk, rfl, HT, HB⟩ := hrel
  by_cases hlt : k < n
  ·have hkl : k < l.length := by rw [HLN.out]; exact hlt
   have hop := HH.out.below HB.out
   obtain ⟨b, off, rfl, hbl⟩ := hop.spot (by omega)
   obtain ⟨o, ho⟩ : ∃ o, o = l[k] := ⟨_, rfl⟩
   have c1 := Acts.at hop k hkl 1 (by omega) (v := .string (strOf o.b)) (by rw [← ho]; rfl)
   have c2 := Acts.at hop k hkl 2 (by omega) (v := .string (strOf o.t)) (by rw [← ho]; rfl)
   have c28 := Acts.at hop k hkl 28 (by omega) (v := .string (strOf o.s)) (by rw [← ho]; exact cells_28 (HH.out.2.2 o (by rw [ho]; exact List.getElem_mem hkl)))
   have c8 := Acts.at hop k hkl 8 (by omega) (v := .string (strOf o.c)) (by rw [← ho]; rfl)
   have c9 := Acts.at hop k hkl 9 (by omega) (v := .string (strOf o.d)) (by rw [← ho]; rfl)
   have hfo : Far o := HF.out o (by rw [ho]; exact List.getElem_mem hkl)
   obtain ⟨f1, f2, f3, f4, f5⟩ := hfo
   have z1 : (strOf o.b).size = o.b.length := size_strOf _
   have z2 : (strOf o.t).size = o.t.length := size_strOf _
   have z3 : (strOf o.s).size = o.s.length := size_strOf _
   have z4 : (strOf o.c).size = o.c.length := size_strOf _
   have z5 : (strOf o.d).size = o.d.length := size_strOf _
   have HTE : Hid (l.take (k + 1) = l.take k ++ [o]) := by show _ = _; rw [List.take_succ_eq_append_getElem hkl, ho]
   have HMEM : Hid (o ∈ l) := by rw [ho]; exact List.getElem_mem hkl
   clear ho hop
   obtain ⟨p1, h1⟩ : ∃ p, p = o.b.length := ⟨_, rfl⟩
   obtain ⟨p2, h2⟩ : ∃ p, p = o.t.length := ⟨_, rfl⟩
   obtain ⟨p3, h3⟩ : ∃ p, p = o.s.length := ⟨_, rfl⟩
   obtain ⟨p4, h4⟩ : ∃ p, p = o.c.length := ⟨_, rfl⟩
   obtain ⟨p5, h5⟩ : ∃ p, p = o.d.length := ⟨_, rfl⟩
   rw [← h1] at f1 z1
   rw [← h2] at f2 z2
   rw [← h3] at f3 z3
   rw [← h4] at f4 z4
   rw [← h5] at f5 z5
   have HP : Hid (p1 = o.b.length ∧ p2 = o.t.length ∧ p3 = o.s.length ∧ p4 = o.c.length ∧ p5 = o.d.length) := ⟨h1, h2, h3, h4, h5⟩
   clear h1 h2 h3 h4 h5
   by_cases hs : p1 + p2 + p3 + p4 + p5 ≤ 600
   ·have hsi : ¬ (600 : Int) < (p1 : Int) + (p2 : Int) + (p3 : Int) + (p4 : Int) + (p5 : Int) := by omega
    have HT2 : Hid ((l.take (k + 1)).all (fun o => decide (tl o ≤ 600)) = true) := by
     obtain ⟨h1, h2, h3, h4, h5⟩ := HP.out
     show _ = _
     rw [HTE.out, List.all_append, HT.out, Bool.true_and, List.all_cons, List.all_nil, Bool.and_true]
     exact decide_eq_true (by unfold tl; omega)
    go_wp2_with fail
    go_quiet (fail)
    have HB2 := hid (fun q => Base.below_drewN HB.out q)
    go_wp2
    go_roundw
    case rel => exact ⟨k + 1, by omega, by go_num, HT2.out, HB2.out _⟩
    case measure => simp [intOf]; omega
   ·have hsi : (600 : Int) < (p1 : Int) + (p2 : Int) + (p3 : Int) + (p4 : Int) + (p5 : Int) := by omega
    have HNO : Hid (fewB l = false) := by
     obtain ⟨h1, h2, h3, h4, h5⟩ := HP.out
     show _ = _
     unfold fewB
     rw [Bool.and_eq_false_iff]
     left
     rw [List.all_eq_false]
     exact ⟨o, HMEM.out, by simp only [decide_eq_true_eq]; unfold tl; omega⟩
    have HB2 := hid (fun q => Base.below_drewN HB.out q)
    go_wp2_with fail
    go_quiet (fail)
    go_wp2
    go_ret
    exact ⟨ret_bool HNO.out.symm, HB2.out _⟩
  ·obtain rfl : k = n := by omega
   have HE : Hid (decide ((k : Int) ≤ 30) = fewB l) := by
    have h1 := HT.out
    rw [← HLN.out, List.take_length] at h1
    show _ = _
    unfold fewB
    rw [h1, Bool.true_and, HLN.out]
    rw [decide_eq_decide]
    omega
   go_wp2
   go_ret
   exact ⟨ret_bool HE.out, HB.out⟩
end Go.Proofs.YtegpfgccaminkaaGreatDoor.ActO
namespace Go.Proofs.YtegpfgccaminkaaGreatDoor.Open
open Go.ChangeShapes Go.WideShapes Go.ChangeAt Go.RowKit Base
theorem rds_cells {w : World} {x : Addr} {n : Nat} {xs : List Value} (hl : xs.length = n) (hc : ∀ i (h : i < xs.length), w.cell? (x.add i) = some xs[i]) : Rds w (some x) n xs := by
 refine ⟨hl, fun j hj => ?_⟩
 have h0 := hc 0 (by omega)
 have hs : x.spot = none := by
  have := World.cell?_spot h0
  simpa [Addr.add] using this
 obtain ⟨b, off, sp⟩ := x
 obtain rfl : sp = none := hs
 have hb := World.block_lt_of_cell? w _ h0
 have ha : (⟨b, off, none⟩ : Addr).add j = ⟨b, off + j, none⟩ := by
  unfold Addr.add
  split <;> simp_all
 have hb' : b < w.heap.size := by simpa [Addr.add] using hb
 exact ⟨b, off, rfl, hb', by rw [← ha]; exact hc j hj⟩
variable {P : Program} {w : World} {H : Type} {enc : TypeId × Value → H} {base : Nat} {spare : Nat → Bool} {held : Bool}
theorem of_ints {t e : TypeId} {k : IntKind} {fuel : Nat} {a : Option Addr} {len cap : Nat} {x : DataW H × List MemPlace} (ht : P.underlying t = some (.slice e)) (he : P.underlying e = some (.int k)) (hc : P.cellsOf e = 1)
  (h : DataW.trod enc P w base (fun _ => true) held fuel t (Value.slice a len cap).cells.toList = some x) :
  ∃ l : List Int, Rds w a len (icells k l) ∧ len ≤ cap ∧ cap ≤ maxLen ∧ ∀ z ∈ l, (Lit.int k z).wf = true := by
 rcases open_ints ht he hc h with ⟨hcs, _⟩ | ⟨x, l, c, zs, hcs, _, hl, hm, hz, _, hcell, hwz⟩
 ·simp [Value.cells] at hcs
  obtain ⟨rfl, rfl, rfl⟩ := hcs
  exact ⟨[], Rds.nil _, Nat.le_refl _, Nat.zero_le _, by simp⟩
 ·simp [Value.cells] at hcs
  obtain ⟨rfl, rfl, rfl⟩ := hcs
  have hz' : zs.length = cap := by simpa using hz
  refine ⟨zs.take len, rds_cells (by rw [length_icells, List.length_take]; omega) (fun i hi => ?_), hl, hm, fun z hz => hwz z (List.mem_of_mem_take hz)⟩
  rw [length_icells, List.length_take] at hi
  rw [hcell i (by omega)]
  simp [icells, List.getD, List.getElem?_eq_getElem (show i < zs.length by omega)]
theorem of_bytes {t e : TypeId} {fuel : Nat} {a : Option Addr} {len cap : Nat} {x : DataW H × List MemPlace} (ht : P.underlying t = some (.slice e)) (he : P.underlying e = some (.int .u8)) (hc : P.cellsOf e = 1)
  (h : DataW.trod enc P w base (fun _ => true) held fuel t (Value.slice a len cap).cells.toList = some x) :
  ∃ L : List UInt8, Rds w a len (bcells L) ∧ len ≤ cap ∧ cap ≤ maxLen := by
 obtain ⟨l, hr, hl, hm, hw⟩ := of_ints ht he hc h
 refine ⟨l.map fun z => UInt8.ofNat z.toNat, ?_, hl, hm⟩
 have e : bcells (l.map fun z => UInt8.ofNat z.toNat) = icells .u8 l := by
  unfold bcells icells
  rw [List.map_map]
  refine List.map_congr_left fun z hz => ?_
  obtain ⟨h0, h1⟩ := bounds_u8 (hw z hz)
  simp only [Function.comp]
  congr 1
  simp
  omega
 rw [e]
 exact hr
theorem of_strings {t e : TypeId} {fuel : Nat} {a : Option Addr} {len cap : Nat} {x : DataW H × List MemPlace} (ht : P.underlying t = some (.slice e)) (he : P.underlying e = some .string) (hc : P.cellsOf e = 1)
  (h : DataW.trod enc P w base (fun _ => true) held fuel t (Value.slice a len cap).cells.toList = some x) :
  ∃ l : List ByteArray, Rds w a len (l.map Value.string) ∧ len ≤ cap ∧ cap ≤ maxLen ∧ ∀ s ∈ l, s.size ≤ maxLen := by
 rcases open_strings ht he hc h with ⟨hcs, _⟩ | ⟨x, l, c, ss, hcs, _, hl, hm, hz, _, hcell, hwz⟩
 ·simp [Value.cells] at hcs
  obtain ⟨rfl, rfl, rfl⟩ := hcs
  exact ⟨[], Rds.nil _, Nat.le_refl _, Nat.zero_le _, by simp⟩
 ·simp [Value.cells] at hcs
  obtain ⟨rfl, rfl, rfl⟩ := hcs
  have hz' : ss.length = cap := by simpa using hz
  refine ⟨ss.take len, rds_cells (by rw [List.length_map, List.length_take]; omega) (fun i hi => ?_), hl, hm, fun z hz => hwz z (List.mem_of_mem_take hz)⟩
  rw [List.length_map, List.length_take] at hi
  rw [hcell i (by omega)]
  simp [List.getD, List.getElem?_eq_getElem (show i < ss.length by omega)]
end Go.Proofs.YtegpfgccaminkaaGreatDoor.Open
namespace Go.Proofs.YtegpfgccaminkaaGreatDoor.Open2
open Go.ChangeShapes Go.WideShapes Go.ChangeAt Go.RowKit Base
variable {P : Program} {w : World} {H : Type} {enc : TypeId × Value → H} {base : Nat} {held : Bool}
theorem cap_told {t e : TypeId} {k : IntKind} {fuel : Nat} {a : Option Addr} {len cap : Nat} {x : DataW H × List MemPlace} (ht : P.underlying t = some (.slice e)) (he : P.underlying e = some (.int k)) (hc : P.cellsOf e = 1)
  (h : DataW.trod enc P w base (fun _ => true) held fuel t (Value.slice a len cap).cells.toList = some x) :
  cap = 0 ∨ ∃ es sp, x.1 = .slice es sp ∧ es.length + sp.length = cap := by
 rcases open_ints ht he hc h with ⟨hcs, _⟩ | ⟨_, l, c, zs, hcs, _, hl, hm, hz, rfl, _, _⟩
 ·simp [Value.cells] at hcs
  exact .inl hcs.2.2
 ·simp [Value.cells] at hcs
  obtain ⟨rfl, rfl, rfl⟩ := hcs
  have hz' : zs.length = cap := by simpa using hz
  refine .inr ⟨_, _, rfl, ?_⟩
  simp only [lits, List.length_map, List.length_take, List.length_drop]
  omega
theorem reach {ts : List TypeId} {ds : List (DataW H)} (hsz : (DataW.weightsEach P ts ds).all (· ≤ reachBytes) = true) {j : Nat} {t e : TypeId} {k : IntKind} {b fuel : Nat} {a : Option Addr} {len cap : Nat} {x : DataW H × List MemPlace}
  (htj : ts[j]? = some t) (hdj : ds[j]? = some x.1) (ht : P.underlying t = some (.slice e)) (he : P.underlying e = some (.int k)) (hc : P.cellsOf e = 1) (hb : P.bytesOf e = b)
  (h : DataW.trod enc P w base (fun _ => true) held fuel t (Value.slice a len cap).cells.toList = some x) : cap * b ≤ 140737488351232 := by
 rcases cap_told ht he hc h with rfl | ⟨es, sp, e1, hl⟩
 ·simp
 ·have := sized_slice hsz htj (hdj.trans (congrArg some e1)) ht
  rw [hl, hb] at this
  exact this
theorem field_string {ts : List TypeId} {ds : List (DataW H)} (hsz : (DataW.weightsEach P ts ds).all (· ≤ reachBytes) = true) {i : Nat} {t : TypeId} {fs : Array Field} {parts : List (DataW H)} (hti : ts[i]? = some t) (hdi : ds[i]? = some (.agg parts)) (hu : P.underlying t = some (.struct fs))
  {j : Nat} {ft : TypeId} {bytes : List UInt8} (hf : (fs.toList.map (·.type))[j]? = some ft) (hp : parts[j]? = some (.lit (.string bytes))) : bytes.length ≤ reachBytes := by
 have := List.all_eq_true.1 hsz _ (DataW.weights_mem_each hti hdi bytes.length (by
  simp only [DataW.weights, hu]
  exact DataW.weights_mem_each hf hp _ (by simp [DataW.weights])))
 simpa using this
end Go.Proofs.YtegpfgccaminkaaGreatDoor.Open2
namespace Go.Proofs.YtegpfgccaminkaaGreatDoor.AggN
open Go.Joins Go.Deep Go.ChangeShapes Go.WideShapes Go.ChangeAt Go.RowKit Base
variable {P : Program} {w : World} {H : Type} {enc : TypeId × Value → H} {base : Nat} {held : Bool} {spare : Nat → Bool}
theorem weightsAll_mem {P : Program} {e : TypeId} : ∀ {l : List (DataW H)} {d : DataW H}, d ∈ l → ∀ k ∈ d.weights P e, k ∈ DataW.weightsAll P e l
 | _ :: _, _, .head _, k, hk => by unfold DataW.weightsAll; exact List.mem_append_left _ hk
 | _ :: _, _, .tail _ h, k, hk => by unfold DataW.weightsAll; exact List.mem_append_right _ (weightsAll_mem h k hk)
end Go.Proofs.YtegpfgccaminkaaGreatDoor.AggN
namespace Go.Proofs.YtegpfgccaminkaaGreatDoor.ActI
open Go.Joins Go.Deep Go.ChangeShapes Go.WideShapes Go.ChangeAt Go.RowKit Base ActB
variable {w : World} {H : Type} {enc : TypeId × Value → H} {base : Nat} {held : Bool} {spare : Nat → Bool}
def I64 (z : Int) : Prop := -9223372036854775808 ≤ z ∧ z ≤ 9223372036854775807
structure Bnd (o : O) : Prop where
 k : o.k ≤ 255
 h : I64 o.h
 fr : I64 o.fr
 til : I64 o.til
 p : I64 o.p
 n : I64 o.n
structure In (w : World) (A : Option Addr) (n cap : Nat) (l : List O) : Prop where
 ops : Acts w A n l
 far : ∀ o ∈ l, Far o
 bnd : ∀ o ∈ l, Bnd o ∧ o.r.length = 16
 le : n ≤ cap
 lm : cap ≤ maxLen
theorem list12 {α : Type} {l : List α} (h : l.length = 12) : ∃ a0 a1 a2 a3 a4 a5 a6 a7 a8 a9 a10 a11, l = [a0, a1, a2, a3, a4, a5, a6, a7, a8, a9, a10, a11] := by
 match l, h with
 | [a0, a1, a2, a3, a4, a5, a6, a7, a8, a9, a10, a11], _ => exact ⟨_, _, _, _, _, _, _, _, _, _, _, _, rfl⟩
theorem list4 {α : Type} {l : List α} (h : l.length = 4) : ∃ a0 a1 a2 a3, l = [a0, a1, a2, a3] := by
 match l, h with
 | [a0, a1, a2, a3], _ => exact ⟨_, _, _, _, rfl⟩
theorem cut {α : Type} (l : List α) (i k : Nat) : l.drop i = (l.drop i).take k ++ l.drop (i + k) := by
 rw [← List.drop_drop, List.take_append_drop]
theorem cells8 : Tryz.prog.cellsOf 5 = 1 := by kernel_rfl
theorem cellsl : Tryz.prog.cellsOf 2 = 1 := by kernel_rfl
theorem cellsi : Tryz.prog.cellsOf 3 = 1 := by kernel_rfl
theorem cellss : Tryz.prog.cellsOf 9 = 1 := by kernel_rfl
theorem cellsb : Tryz.prog.cellsOf 4 = 1 := by kernel_rfl
theorem cellso : Tryz.prog.cellsOf 32 = 4 := by kernel_rfl
theorem cellsa : Tryz.prog.cellsOf 33 = 16 := by kernel_rfl
theorem cellsp : Tryz.prog.cellsOf 35 = 30 := by kernel_rfl
theorem nat_of {z : Int} {k : Nat} (h : 0 ≤ z) (h2 : z ≤ k) : ∃ n : Nat, z = (n : Int) ∧ n ≤ k := ⟨z.toNat, by omega, by omega⟩
theorem open_bytes {fuel : Nat} {cs : List Value} {x : DataW H × List MemPlace} (h : DataW.trod enc Tryz.prog w base spare held fuel 33 cs = some x) : ∃ L : List UInt8, cs = bcells L ∧ L.length = 16 := by
 obtain ⟨xs, m, _, _, hl, hxl, hi⟩ := DataW.trod_array Tryz.underlying33 h
 rw [cellsa] at hl
 refine ⟨cs.map fun v => match v with | .int _ z => UInt8.ofNat z.toNat | _ => 0, ?_, by rw [List.length_map, hl]⟩
 apply List.ext_getElem
 ·rw [length_bcells, List.length_map]
 ·intro i h1 h2
  have hi16 : i < 16 := by omega
  have h3 := hi i hi16
  rw [cells8, Nat.mul_one, List.drop_eq_getElem_cons h1, List.take_succ_cons, List.take_zero, List.getElem?_eq_getElem (by omega)] at h3
  obtain ⟨z, e, _, hwf⟩ := DataW.trod_int Tryz.underlying5 h3
  have e1 : cs[i] = .int .u8 z := by simpa using e
  obtain ⟨b0, b1⟩ := bounds_u8 hwf
  simp only [bcells, List.getElem_map, e1]
  congr 1
  simp
  omega
theorem open_origin {fuel : Nat} {cs : List Value} {x : DataW H × List MemPlace} (h : DataW.trod enc Tryz.prog w base spare held fuel 32 cs = some x) :
  ∃ (c d : List UInt8) (p n : Int), cs = [.string (strOf c), .string (strOf d), .int .i64 p, .int .i64 n] ∧ I64 p ∧ I64 n ∧ x.1.weights Tryz.prog 32 = x.1.weights Tryz.prog 32 ∧ (∀ k, (k = c.length ∨ k = d.length) → k ∈ x.1.weights Tryz.prog 32) := by
 obtain ⟨xs, m, _, rfl, hl, hxl, hf⟩ := DataW.trod_struct Tryz.underlying32 h
 obtain ⟨y0, y1, y2, y3, rfl⟩ := list4 hxl
 rw [cellso] at hl
 obtain ⟨v0, v1, v2, v3, rfl⟩ := list4 hl
 have f0 : DataW.trod enc Tryz.prog w base spare held m 9 (([v0, v1, v2, v3].drop 0).take (Tryz.prog.cellsOf 9)) = some y0 := hf 0 _ rfl
 have f1 : DataW.trod enc Tryz.prog w base spare held m 9 (([v0, v1, v2, v3].drop 1).take (Tryz.prog.cellsOf 9)) = some y1 := hf 1 _ rfl
 have f2 : DataW.trod enc Tryz.prog w base spare held m 3 (([v0, v1, v2, v3].drop 2).take (Tryz.prog.cellsOf 3)) = some y2 := hf 2 _ rfl
 have f3 : DataW.trod enc Tryz.prog w base spare held m 2 (([v0, v1, v2, v3].drop 3).take (Tryz.prog.cellsOf 2)) = some y3 := hf 3 _ rfl
 rw [cellss] at f0 f1
 rw [cellsi] at f2
 rw [cellsl] at f3
 obtain ⟨s0, e0, d0, _⟩ := DataW.trod_string Tryz.underlying9 f0
 obtain ⟨s1, e1, d1, _⟩ := DataW.trod_string Tryz.underlying9 f1
 obtain ⟨p, e2, _, w2⟩ := DataW.trod_int Tryz.underlying3 f2
 obtain ⟨n, e3, _, w3⟩ := DataW.trod_int Tryz.underlying2 f3
 obtain rfl : v0 = .string s0 := by simpa using e0
 obtain rfl : v1 = .string s1 := by simpa using e1
 obtain rfl : v2 = .int .i64 p := by simpa using e2
 obtain rfl : v3 = .int .i64 n := by simpa using e3
 refine ⟨s0.data.toList, s1.data.toList, p, n, by rw [strOf_toList, strOf_toList], bounds_i64 w2, bounds_i64 w3, rfl, fun k hk => ?_⟩
 simp only [DataW.weights, Tryz.underlying32]
 rcases hk with rfl | rfl
 ·exact DataW.weights_mem_each (j := 0) (d := y0.1) rfl rfl _ (by rw [d0]; simp [DataW.weights])
 ·exact DataW.weights_mem_each (j := 1) (d := y1.1) rfl rfl _ (by rw [d1]; simp [DataW.weights])
theorem open_act {fuel : Nat} {cs : List Value} {x : DataW H × List MemPlace} (h : DataW.trod enc Tryz.prog w base spare held fuel 35 cs = some x) :
  ∃ o : O, cs = cells o ∧ Bnd o ∧ o.r.length = 16 ∧ ∀ k, (k = o.b.length ∨ k = o.t.length ∨ k = o.s.length ∨ k = o.c.length ∨ k = o.d.length) → k ∈ x.1.weights Tryz.prog 35 := by
 obtain ⟨xs, m, _, rfl, hl, hxl, hf⟩ := DataW.trod_struct Tryz.underlying35 h
 obtain ⟨y0, y1, y2, y3, y4, y5, y6, y7, y8, y9, y10, y11, rfl⟩ := list12 hxl
 rw [cellsp] at hl
 have f0 : DataW.trod enc Tryz.prog w base spare held m 5 ((cs.drop 0).take (Tryz.prog.cellsOf 5)) = some y0 := hf 0 _ rfl
 have f1 : DataW.trod enc Tryz.prog w base spare held m 9 ((cs.drop 1).take (Tryz.prog.cellsOf 9)) = some y1 := hf 1 _ rfl
 have f2 : DataW.trod enc Tryz.prog w base spare held m 9 ((cs.drop 2).take (Tryz.prog.cellsOf 9)) = some y2 := hf 2 _ rfl
 have f3 : DataW.trod enc Tryz.prog w base spare held m 2 ((cs.drop 3).take (Tryz.prog.cellsOf 2)) = some y3 := hf 3 _ rfl
 have f4 : DataW.trod enc Tryz.prog w base spare held m 2 ((cs.drop 4).take (Tryz.prog.cellsOf 2)) = some y4 := hf 4 _ rfl
 have f5 : DataW.trod enc Tryz.prog w base spare held m 2 ((cs.drop 5).take (Tryz.prog.cellsOf 2)) = some y5 := hf 5 _ rfl
 have f6 : DataW.trod enc Tryz.prog w base spare held m 4 ((cs.drop 6).take (Tryz.prog.cellsOf 4)) = some y6 := hf 6 _ rfl
 have f7 : DataW.trod enc Tryz.prog w base spare held m 4 ((cs.drop 7).take (Tryz.prog.cellsOf 4)) = some y7 := hf 7 _ rfl
 have f8 : DataW.trod enc Tryz.prog w base spare held m 32 ((cs.drop 8).take (Tryz.prog.cellsOf 32)) = some y8 := hf 8 _ rfl
 have f9 : DataW.trod enc Tryz.prog w base spare held m 33 ((cs.drop 12).take (Tryz.prog.cellsOf 33)) = some y9 := hf 9 _ rfl
 have f10 : DataW.trod enc Tryz.prog w base spare held m 9 ((cs.drop 28).take (Tryz.prog.cellsOf 9)) = some y10 := hf 10 _ rfl
 have f11 : DataW.trod enc Tryz.prog w base spare held m 4 ((cs.drop 29).take (Tryz.prog.cellsOf 4)) = some y11 := hf 11 _ rfl
 rw [cells8] at f0
 rw [cellss] at f1
 rw [cellss] at f2
 rw [cellsl] at f3
 rw [cellsl] at f4
 rw [cellsl] at f5
 rw [cellsb] at f6
 rw [cellsb] at f7
 rw [cellso] at f8
 rw [cellsa] at f9
 rw [cellss] at f10
 rw [cellsb] at f11
 obtain ⟨z0, e0, _, w0⟩ := DataW.trod_int Tryz.underlying5 f0
 obtain ⟨s1, e1, d1, _⟩ := DataW.trod_string Tryz.underlying9 f1
 obtain ⟨s2, e2, d2, _⟩ := DataW.trod_string Tryz.underlying9 f2
 obtain ⟨z3, e3, _, w3⟩ := DataW.trod_int Tryz.underlying2 f3
 obtain ⟨z4, e4, _, w4⟩ := DataW.trod_int Tryz.underlying2 f4
 obtain ⟨z5, e5, _, w5⟩ := DataW.trod_int Tryz.underlying2 f5
 obtain ⟨b6, e6, _⟩ := DataW.trod_bool Tryz.underlying4 f6
 obtain ⟨b7, e7, _⟩ := DataW.trod_bool Tryz.underlying4 f7
 obtain ⟨c, d, p, n, e8, wp, wn, _, h8⟩ := open_origin f8
 obtain ⟨L, e9, hL⟩ := open_bytes f9
 obtain ⟨s10, e10, d10, _⟩ := DataW.trod_string Tryz.underlying9 f10
 obtain ⟨b11, e11, _⟩ := DataW.trod_bool Tryz.underlying4 f11
 obtain ⟨n0, rfl, b0⟩ := nat_of (k := 255) (bounds_u8 w0).1 (by have := (bounds_u8 w0).2; omega)
 refine ⟨⟨n0, s1.data.toList, s2.data.toList, z3, z4, z5, b6, b7, c, d, p, n, L, s10.data.toList, b11⟩, ?_, ⟨b0, bounds_i64 w3, bounds_i64 w4, bounds_i64 w5, wp, wn⟩, hL, fun k hk => ?_⟩
 ·have h11 : (cs.drop 29).take 1 = cs.drop 29 := List.take_of_length_le (by rw [List.length_drop, hl]; decide)
  rw [h11] at e11
  have hcs : cs = (cs.drop 0).take 1 ++ ((cs.drop 1).take 1 ++ ((cs.drop 2).take 1 ++ ((cs.drop 3).take 1 ++ ((cs.drop 4).take 1 ++ ((cs.drop 5).take 1 ++ ((cs.drop 6).take 1 ++ ((cs.drop 7).take 1 ++ ((cs.drop 8).take 4 ++ ((cs.drop 12).take 16 ++ ((cs.drop 28).take 1 ++ (cs.drop 29))))))))))) := by
   exact (List.drop_zero (l := cs)).symm.trans ((cut cs 0 1).trans (congrArg (List.take 1 (List.drop 0 cs) ++ ·) ((cut cs 1 1).trans (congrArg (List.take 1 (List.drop 1 cs) ++ ·) ((cut cs 2 1).trans (congrArg (List.take 1 (List.drop 2 cs) ++ ·) ((cut cs 3 1).trans (congrArg (List.take 1 (List.drop 3 cs) ++ ·) ((cut cs 4 1).trans (congrArg (List.take 1 (List.drop 4 cs) ++ ·) ((cut cs 5 1).trans (congrArg (List.take 1 (List.drop 5 cs) ++ ·) ((cut cs 6 1).trans (congrArg (List.take 1 (List.drop 6 cs) ++ ·) ((cut cs 7 1).trans (congrArg (List.take 1 (List.drop 7 cs) ++ ·) ((cut cs 8 4).trans (congrArg (List.take 4 (List.drop 8 cs) ++ ·) ((cut cs 12 16).trans (congrArg (List.take 16 (List.drop 12 cs) ++ ·) (cut cs 28 1)))))))))))))))))))))
  rw [hcs, e0, e1, e2, e3, e4, e5, e6, e7, e8, e9, e10, e11]
  unfold cells
  simp only [strOf_toList]
  rfl
 ·simp only [DataW.weights, Tryz.underlying35]
  rcases hk with hk | hk | hk | hk | hk
  ·exact DataW.weights_mem_each (j := 1) (d := y1.1) rfl rfl _ (by rw [d1, hk]; simp [DataW.weights])
  ·exact DataW.weights_mem_each (j := 2) (d := y2.1) rfl rfl _ (by rw [d2, hk]; simp [DataW.weights])
  ·exact DataW.weights_mem_each (j := 10) (d := y10.1) rfl rfl _ (by rw [d10, hk]; simp [DataW.weights])
  ·exact DataW.weights_mem_each (j := 8) (d := y8.1) rfl rfl _ (h8 _ (.inl hk))
  ·exact DataW.weights_mem_each (j := 8) (d := y8.1) rfl rfl _ (h8 _ (.inr hk))
theorem of_acts {ts : List TypeId} {ds : List (DataW H)} (hsz : (DataW.weightsEach Tryz.prog ts ds).all (· ≤ reachBytes) = true) {j : Nat} {fuel : Nat} {v : Value} {x : DataW H × List MemPlace} (htj : ts[j]? = some 24) (hdj : ds[j]? = some x.1)
  (h : DataW.trod enc Tryz.prog w base spare held fuel 24 [v] = some x) : ∃ A n cap l, v = .slice A n cap ∧ In w A n cap l := by
 rcases DataW.trod_slice Tryz.underlying24 h with ⟨hcs, _⟩ | ⟨a, len, cap, elems, rest, m, _, hcs, rfl, hb, hl, hm, hlen, hel, _, _⟩
 ·obtain rfl : v = .slice none 0 0 := by simpa using hcs
  exact ⟨none, 0, 0, [], rfl, ⟨rfl, Rds.nil _, by simp⟩, by simp, by simp, Nat.le_refl _, Nat.zero_le _⟩
 ·obtain rfl : v = .slice (some a) len cap := by simpa using hcs
  have HH : ∀ i, i < len → ∃ o : O, (∀ q, q < 30 → w.cell? (a.add (i * 30 + q)) = (cells o)[q]?) ∧ Far o ∧ Bnd o ∧ o.r.length = 16 := by
   intro i hi
   have h1 := hel i hi
   rw [cellsp, List.getElem?_eq_getElem (by omega), Option.bind_eq_some_iff] at h1
   obtain ⟨cs', hc, ht⟩ := h1
   obtain ⟨o, rfl, hbn, hr, hwt⟩ := open_act ht
   obtain ⟨_, hcl, hat⟩ := World.cells?_some hc
   refine ⟨o, fun q hq => ?_, ?_, hbn, hr⟩
   ·rw [← Go.Deep.add_add]
    exact hat q hq
   ·have hw : ∀ k, (k = o.b.length ∨ k = o.t.length ∨ k = o.s.length ∨ k = o.c.length ∨ k = o.d.length) → k ≤ reachBytes := fun k hk => by
     have hmem : k ∈ (DataW.slice (elems.map (·.1)) (rest.map (·.1))).weights Tryz.prog 24 := by
      simp only [DataW.weights, Tryz.underlying24]
      exact List.mem_cons_of_mem _ (List.mem_append_left _ (AggN.weightsAll_mem (List.mem_map.2 ⟨_, List.getElem_mem (by omega), rfl⟩) _ (hwt k hk)))
     exact of_decide_eq_true (List.all_eq_true.1 hsz _ (DataW.weights_mem_each htj hdj _ hmem))
    exact ⟨hw _ (.inl rfl), hw _ (.inr (.inl rfl)), hw _ (.inr (.inr (.inl rfl))), hw _ (.inr (.inr (.inr (.inl rfl)))), hw _ (.inr (.inr (.inr (.inr rfl))))⟩
  have HL : ∀ k, k ≤ len → ∃ l : List O, l.length = k ∧ (∀ j (hj : j < l.length), ∀ q, q < 30 → w.cell? (a.add (j * 30 + q)) = (cells l[j])[q]?) ∧ ∀ o ∈ l, Far o ∧ Bnd o ∧ o.r.length = 16 := by
   intro k
   induction k with
   | zero => intro _; exact ⟨[], rfl, fun j hj => absurd hj (by simp), by simp⟩
   | succ k ih =>
    intro hk
    obtain ⟨l, hl, hc, hsh⟩ := ih (by omega)
    obtain ⟨o, h1, h2, h3, h4⟩ := HH k (by omega)
    refine ⟨l ++ [o], by simp [hl], fun j hj => ?_, ?_⟩
    ·by_cases hjl : j < l.length
     ·rw [List.getElem_append_left hjl]
      exact hc j hjl
     ·obtain rfl : j = k := by simp [hl] at hj; omega
      simp only [List.getElem_append_right (show l.length ≤ j by omega)]
      simpa [hl] using h1
    ·intro q hq
     rcases List.mem_append.1 hq with hq | hq
     ·exact hsh q hq
     ·simp at hq
      subst hq
      exact ⟨h2, h3, h4⟩
  obtain ⟨l, hln, hc, hsh⟩ := HL len (Nat.le_refl _)
  have hr : ∀ o ∈ l, o.r.length = 16 := fun o ho => (hsh o ho).2.2
  refine ⟨some a, len, cap, l, rfl, ⟨hln, Open.rds_cells (by rw [flat_len l hr, hln]) (fun i hi => ?_), hr⟩, fun o ho => (hsh o ho).1, fun o ho => (hsh o ho).2, hl, hm⟩
  rw [flat_len l hr] at hi
  have e : i = i / 30 * 30 + i % 30 := by omega
  have hj : i / 30 < l.length := by omega
  have h1 := hc (i / 30) hj (i % 30) (by omega)
  have h2 := flat_at l hr (i / 30) hj (i % 30) (by omega)
  rw [← e] at h1 h2
  rw [h1, ← h2]
  exact List.getElem?_eq_getElem _
end Go.Proofs.YtegpfgccaminkaaGreatDoor.ActI
namespace Go.Proofs.YtegpfgccaminkaaGreatDoor.Shs
open Go.RowKit Base
variable {H : Type} {enc : TypeId × Value → H}
theorem wrap {a : Assume} {C : Checked} {os : Os} {f : FuncId} {fn : Func} {s : ChangeSpec} {conds : List PathCond} {apart fresh handsOn again : Bool} {X : World → Array Value → Prop}
  (hX : ∀ (w w' : World) (args : Array Value), w.heap = w'.heap → X w args → X w' args)
  (own : ownKnob C.prog.godebug = none) (started : os.Started) (noInit : C.prog.inits.idxOf? f = none) (hfn : C.prog.funcs[f]? = some fn)
  (witness : ∃ (w : World) (tape : Tape) (i : Input), w.os = os ∧ (w.forCall tape i).Shaped C.prog ∧ i.vars = [] ∧ Input.okWide C.prog (w.forCall tape i) .any w.heap.size f i ∧
   ((s.pre enc C.prog fn conds apart (w.forCall tape i).memory i.args ∧ X (w.forCall tape i).memory i.args) ∧ sizedMet enc C.prog fn (OpenSpec.ofChange s) apart (w.forCall tape i).memory i.args) ∧ a.holds C.prog (lone (Frame.enter C.prog f i.args .normal) [] (w.forCall tape i)))
  (contract : ∀ (W : World) (base : Nat) (args : Array Value) (ds gs : List (DataW H)) (before : List MemPlace),
   (∀ (j : Nat) t v, fn.params[j]? = some t → args[j]? = some v → Value.okWide C.prog W .any base t v) →
   DataW.Whole enc C.prog fn.params.toList s.vars apart W args.toList ds gs before →
   conds.all (PathCond.test C.prog ⟨fn.params.toList, ds, s.plain.varTypes C.prog, gs⟩) = true →
   (DataW.weightsEach C.prog (fn.params.toList ++ s.plain.varTypes C.prog) (ds ++ gs)).all (· ≤ reachBytes) = true → X W args → W.ShapedOpen C.prog →
   a.holds C.prog (lone (Frame.enter C.prog f args .normal) [] W) →
   Calls C.prog f args W fun e W' => ∃ v, e = .returned v ∧ s.post enc C.prog fn apart fresh handsOn again W args v W') :
  ReturnsInHanded a C os f .any (fun w args => (s.pre enc C.prog fn conds apart w args ∧ X w args) ∧ sizedMet enc C.prog fn (OpenSpec.ofChange s) apart w args) (s.post enc C.prog fn apart fresh handsOn again) := by
 refine returnsInHanded_of_calls own started noInit witness ?_
 intro w tape i _ hsh _ hok hpre hholds
 obtain ⟨_, _, _, fn', hfn', _, _, _, _, hval⟩ := hok
 have e : fn' = fn := Option.some.inj (hfn'.symm.trans hfn)
 subst e
 obtain ⟨⟨⟨ds, gs, before, hw, hc⟩, hx⟩, hz⟩ := hpre
 have hw' := DataW.Whole.of_heap (w' := w.forCall tape i) (by rfl) hw
 refine (contract (w.forCall tape i) w.heap.size i.args ds gs before hval hw' hc (hz.weights hw) (hX _ _ _ (by rfl) hx) hsh hholds).mono fun e W' ⟨v, he, hp⟩ => ?_
 subst he
 exact ChangeSpec.post_blind hp
theorem max_of {w : World} (h : w.ShapedOpen Tryz.prog) : Spl.Max w := Go.Proofs.cell_of_shapedOpen_int (zero := #[.int .i64 0]) (t := 3) h (of_decide_eq_true (by kernel_rfl)) (by kernel_rfl) rfl (by kernel_rfl) (by kernel_rfl) Tryz.underlying3
end Go.Proofs.YtegpfgccaminkaaGreatDoor.Shs
namespace Go.Proofs.YtegpfgccaminkaaGreatDoor.Utab
open Go.RowKit Go.Lib
theorem utab_of {W : World} {l : List (String × DataW Unit)} (h : laidMet Tryz.prog l W) (h1 : ("unicode/utf8.first", firstData) ∈ l) (h2 : ("unicode/utf8.acceptRanges", acceptData) ∈ l) : PrsG.Utab W :=
 utf8Tabs_of_reads (ρ := Tryz.l237_ren) { Tryz.l237 with } ⟨by kernel_rfl, by kernel_rfl, by kernel_rfl, by kernel_rfl, by kernel_rfl, by kernel_rfl, by kernel_rfl⟩ (Lib.laidMet.reads h h1) (Lib.laidMet.reads h h2)
end Go.Proofs.YtegpfgccaminkaaGreatDoor.Utab
namespace Go.Proofs.YtegpfgccaminkaaGreatDoor.Arr16
open Go.ChangeShapes Go.WideShapes Go.ChangeAt Go.RowKit Base
variable {P : Program} {w : World} {H : Type} {enc : TypeId × Value → H} {base : Nat} {held : Bool} {spare : Nat → Bool}
theorem sixteen (i : Nat) (h : i < 16) : i = 0 ∨ i = 1 ∨ i = 2 ∨ i = 3 ∨ i = 4 ∨ i = 5 ∨ i = 6 ∨ i = 7 ∨ i = 8 ∨ i = 9 ∨ i = 10 ∨ i = 11 ∨ i = 12 ∨ i = 13 ∨ i = 14 ∨ i = 15 := by omega
theorem open_arr16 {r : Reach} {b0 : Nat} {t e : TypeId} {k : IntKind} {v : Value} {d : DataW H} {ps : List MemPlace} (ht : P.underlying t = some (.array 16 e)) (hct : P.cellsOf t = 16) (hce : P.cellsOf e = 1) (he : P.underlying e = some (.int k))
  (hval : Value.okWide P w r b0 t v) (hd : DataW.Trod enc P w base spare held t v d ps) :
  ∃ f : Nat → Int, v = .agg #[.int k (f 0), .int k (f 1), .int k (f 2), .int k (f 3), .int k (f 4), .int k (f 5), .int k (f 6), .int k (f 7), .int k (f 8), .int k (f 9), .int k (f 10), .int k (f 11), .int k (f 12), .int k (f 13), .int k (f 14), .int k (f 15)] ∧ ∀ i, i < 16 → (Lit.int k (f i)).wf = true := by
 obtain ⟨cs, rfl, hsz, _⟩ : ∃ cs, v = .agg cs ∧ cs.size = P.cellsOf t ∧ Row.okWide P w r b0 t cs := by
  simpa [Value.okWide, ht] using hval
 rw [hct] at hsz
 obtain ⟨l⟩ := cs
 have hsz' : l.length = 16 := hsz
 obtain ⟨fuel, hf⟩ := hd
 obtain ⟨xs, m, _, _, _, hl, hel⟩ := DataW.trod_array ht hf
 have key : ∀ i (h : i < 16), ∃ z, l[i]'(by omega) = .int k z ∧ (Lit.int k z).wf = true := by
  intro i h
  have h1 := hel i h
  have ex : xs[i]? = some (xs[i]'(by omega)) := List.getElem?_eq_getElem (by omega)
  have hone : ((Value.agg ⟨l⟩).cells.toList.drop (i * P.cellsOf e)).take (P.cellsOf e) = [l[i]'(by omega)] := by
   rw [hce, Nat.mul_one]
   show (l.drop i).take 1 = _
   rw [List.drop_eq_getElem_cons (by omega)]
   rfl
  rw [hone, ex] at h1
  obtain ⟨z, e1, _, wf⟩ := DataW.trod_int he h1
  simp at e1
  exact ⟨z, e1, wf⟩
 obtain ⟨f, hf2⟩ : ∃ f : Nat → Int, ∀ i (h : i < 16), l[i]'(by omega) = .int k (f i) ∧ (Lit.int k (f i)).wf = true :=
  ⟨fun i => if h : i < 16 then (key i h).choose else 0, fun i h => by simp only [dif_pos h]; exact (key i h).choose_spec⟩
 refine ⟨f, ?_, fun i h => (hf2 i h).2⟩
 have hlist : l = [.int k (f 0), .int k (f 1), .int k (f 2), .int k (f 3), .int k (f 4), .int k (f 5), .int k (f 6), .int k (f 7), .int k (f 8), .int k (f 9), .int k (f 10), .int k (f 11), .int k (f 12), .int k (f 13), .int k (f 14), .int k (f 15)] := by
  refine List.ext_getElem (by rw [hsz']; rfl) fun i h1 h2 => ?_
  rw [(hf2 i (by omega)).1]
  rcases sixteen i (by omega) with rfl | rfl | rfl | rfl | rfl | rfl | rfl | rfl | rfl | rfl | rfl | rfl | rfl | rfl | rfl | rfl <;> rfl
 rw [hlist]
end Go.Proofs.YtegpfgccaminkaaGreatDoor.Arr16
