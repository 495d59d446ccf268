/- Texts that belong together: Oa, UrlB, VT, UrlE, Yk, XI, EscK. -/
import Derived.Test.YtmdofbccebkbiaaGreatDoorMA
import Derived.Shelf.Strings.Builder1
import Derived.Test.YtmdofbccebkbiaaGreatDoorME
import Derived.Test.YtmdofbccebkbiaaGreatDoorShelf
import Derived.Deep.DeepCutAuto
import Derived.BigQuiet
import Derived.Laws.OwnMore
set_option linter.unusedSimpArgs false
set_option linter.unusedVariables false
set_option maxRecDepth 100000
set_option maxHeartbeats 64000000
namespace Go.Proofs.YtmdofbccebkbiaaGreatDoor.Oa
open Go.RowKit Base aT
theorem sizeB : (Tryz.prog.info? 77).map (·.size) = some 2 := by kernel_rfl
theorem liesB : liesAt Tryz.prog Tryz.prog.depth 77 (2 / Tryz.prog.cellsOf 77) 0 77 1 = true := by kernel_rfl
abbrev mg (B b : Nat) (l : List UInt8) (w : World) : Prop := Lib.IsBuilder 77 5 B b (Lib.byteCells l) w
theorem G9 (b : Nat) (w : World) (h0 : w.cell? ⟨b, 0, none⟩ = some (.pointer (some ⟨b, 0, none⟩))) :
  Calls Tryz.prog 132 #[.pointer (some ⟨b, 0, none⟩)] w fun e w' => e = .returned (.tuple #[]) ∧ w' = w := by
 obtain ⟨j, hj, _⟩ := Option.map_eq_some_iff.1 sizeB
 go_enter Tryz.func132, Tryz.ntmps132
 go_wp2
 rw [Lib.run_neq_ptr_same w _ Tryz.underlying75 hj]
 go_wp2
 go_end0
 exact ⟨rfl, rfl⟩
theorem E8 (b : Nat) (w : World) (h0 : w.cell? ⟨b, 0, none⟩ = some (.pointer none)) (hsh : w.shape? b = some (77, 2)) (hfz : w.frozen? ⟨b, 0, none⟩ = false) :
  Calls Tryz.prog 132 #[.pointer (some ⟨b, 0, none⟩)] w fun e w' => e = .returned (.tuple #[]) ∧ w' = w.setCell ⟨b, 0, none⟩ (.pointer (some ⟨b, 0, none⟩)) := by
 obtain ⟨j, hj, hjs⟩ := Option.map_eq_some_iff.1 sizeB
 go_enter Tryz.func132, Tryz.ntmps132
 go_wp2
 rw [Lib.run_to_unsafe w ⟨b, 0, none⟩ Tryz.underlying75 Tryz.underlying165 hj (by rw [hjs]; decide) hsh (Nat.zero_lt_succ 1)]
 simp only [Result.andThen]
 rw [Oper.upon_value]
 go_wp2
 rw [run_callFunc_extern Tryz.func193 (by kernel_rfl) (by kernel_rfl) (by kernel_rfl) (e := Extern.AbiNoEscape.same) (by kernel_rfl)]
 rw [Lib.run_noEscape]
 simp only [Result.andThen]
 rw [Oper.upon_value]
 go_wp2
 rw [Lib.run_from_unsafe w ⟨b, 0, none⟩ Tryz.underlying165 Tryz.underlying75 hj hsh liesB]
 simp only [Result.andThen]
 rw [Oper.upon_value]
 go_wp2
 go_end0
 exact ⟨rfl, rfl⟩
theorem check_any (B b : Nat) (bs : List Value) (w : World) (h : Lib.IsBuilder 77 5 B b bs w) :
  Calls Tryz.prog 132 #[.pointer (some ⟨b, 0, none⟩)] w fun e w' => e = .returned (.tuple #[]) ∧ (Lib.BuilderAt 77 5 B b (.pointer (some ⟨b, 0, none⟩)) bs w' ∧ Below B w w') := by
 rcases h with h | h
 ·refine (E8 b w h.cell0 h.shape h.frozen0).mono ?_
  rintro e w' ⟨rfl, rfl⟩
  exact ⟨rfl, h.used _, (Below.refl B w).setCell (p := ⟨b, 0, none⟩) h.1 _⟩
 ·refine (G9 b w h.cell0).mono ?_
  rintro e w' ⟨rfl, rfl⟩
  exact ⟨rfl, h, Below.refl B _⟩
theorem write_any (B b : Nat) (l : List UInt8) (s : ByteArray) (w : World) (h : mg B b l w) (hlen : l.length + s.size ≤ 140737488355328) (hBw : B ≤ w.heap.size) :
  Calls Tryz.prog 61 #[.pointer (some ⟨b, 0, none⟩), .string s] w fun e w' => e = .returned (.tuple #[.int .i64 s.size, .nilIface]) ∧ mg B b (l ++ s.data.toList) w' ∧ Below B w w' := by
 obtain ⟨i0, hi, hz0, hz1, hz2⟩ := info_parts rU
 have hlb : (Lib.byteCells l).length = l.length := by simp [Lib.byteCells]
 have Ub := Base.hid hlb
 clear hlb
 go_enter Tryz.func61, Tryz.ntmps61
 go_wp2_with (refine (check_any B b _ _ h).mono ?_)
 rintro e w1 ⟨rfl, h1, hb1⟩
 obtain ⟨hB, v, hbk, hown, hne⟩ := h1
 have c0 : w1.cell? ⟨b, 0, none⟩ = some (.pointer (some ⟨b, 0, none⟩)) := by rw [Lib.cell_of_heap hbk]; rfl
 have c1 : w1.cell? ⟨b, 1, none⟩ = some v := by rw [Lib.cell_of_heap hbk]; rfl
 go_wp2_with (at_builtin; refine Lib.wpList_append_own_string _ rfl _ _ 61 9 rfl B 5 i0 Tryz.underlying61 Tryz.underlying9 hi hz0 hz1 hz2 _ _ _ rfl hown s rfl ?c3 ?c4 ?c5 ?_)
 case c3 => have := Ub.out; unfold maxLen; omega
 case c4 => have := Ub.out; omega
 case c5 => have := hb1.size; omega
 intro v' w2 hown' hgrow _
 have hlt : b < w1.heap.size := (Array.getElem?_eq_some_iff.1 hbk).1
 have hb2 : w2.heap[b]? = some (.cells #[.pointer (some ⟨b, 0, none⟩), v] 77 (0, 0)) := by
  rw [hgrow.block b hlt (fun e => hne e.symm)]
  exact hbk
 have d0 : w2.cell? ⟨b, 0, none⟩ = some (.pointer (some ⟨b, 0, none⟩)) := by rw [Lib.cell_of_heap hb2]; rfl
 have d1 : w2.cell? ⟨b, 1, none⟩ = some v := by rw [Lib.cell_of_heap hb2]; rfl
 have f1 : w2.frozen? ⟨b, 1, none⟩ = false := Lib.frozen_of_heap hb2 1
 obtain ⟨ao, n', cap, rfl⟩ : ∃ ao n' cap, v' = .slice ao n' cap := by
  rcases hown'.2 with ⟨hv, _⟩ | ⟨g, cap, cur, hv, _⟩
  ·exact ⟨_, _, _, hv⟩
  ·exact ⟨_, _, _, hv⟩
 go_wp2
 go_ret2
 refine ⟨rfl, Or.inr ?_, ?_⟩
 ·have hp := Lib.BuilderAt.put (T := 77) (e := 5) hB hb2 (bs' := Lib.byteCells l ++ Lib.strCells s) (by simpa [Lib.strCells_length] using hown') (by decide)
  have e : Lib.byteCells (l ++ s.data.toList) = Lib.byteCells l ++ Lib.strCells s := by simp [Lib.byteCells, Lib.strCells]
  rw [e]
  exact hp
 ·exact (hb1.grown hgrow (by have := hb1.size; omega) (fun k hk => (hown.lt k hk).1)).setCell (p := ⟨b, 1, none⟩) hB _
end Go.Proofs.YtmdofbccebkbiaaGreatDoor.Oa
namespace Go.Proofs.YtmdofbccebkbiaaGreatDoor.UrlB
open Go.RowKit Base aT bQ Oa
theorem rD (B b : Nat) (l : List UInt8) (w : World) (h : mg B b l w) (hBw : B ≤ w.heap.size) :
  Calls Tryz.prog 62 #[.pointer (some ⟨b, 0, none⟩)] w fun e w' => e = .returned (.string (strOf l)) ∧ Below B w w' := Tryz.Builder_String B b l w h hBw
theorem YB (s0 : ByteArray) (s1 : ByteArray) (s2 : ByteArray) (s3 : ByteArray) (b4 : Bool) (z5 : Int) (b6 : Bool) (s7 : ByteArray) (A : Option Addr) (n cap : Nat) (l : List ByteArray) (b9 : Bool) (b10 : Bool) (s11 : ByteArray) (s12 : ByteArray) (w : World) (h1 : s1.size ≤ 1073741824) (h2 : s2.size ≤ 1073741824) :
  Calls Tryz.prog 137 #[.agg #[.string s0, .string s1, .string s2, .string s3, .bool b4, .int .i64 z5, .bool b6, .string s7, .slice A n cap, .bool b9, .bool b10, .string s11, .string s12]] w fun e w' => e = .returned (.string (strOf (lq s1 s2))) ∧ Below w.heap.size w w' := by
 have hl1 : s1.data.toList.length = s1.size := Array.length_toList
 have hl2 : s2.data.toList.length = s2.size := Array.length_toList
 by_cases e2 : s2.data.toList = []
 ·have q2 : s2.toList = [] := by rw [tl]; exact e2
  have HC : Hid (lq s1 s2 = if s1.data.toList = [] then [] else s1.data.toList ++ [64]) := if_pos e2
  by_cases e1 : s1.data.toList = []
  ·have q1 : s1.toList = [] := by rw [tl]; exact e1
   have HC2 : Hid (lq s1 s2 = []) := HC.out.trans (if_pos e1)
   clear e1 e2 hl1 hl2
   go_enter Tryz.func137, Tryz.ntmps137
   go_wp2
   go_ret
   exact ⟨by rw [HC2.out]; rfl, (Below.refl _ _).alloc (Nat.le_refl _) _⟩
  ·have q1 : (s1.toList == []) = false := by rw [tl]; simpa using e1
   have q1' : s1.toList.isEmpty = false := by rw [tl]; simpa using e1
   have HC2 : Hid (lq s1 s2 = s1.data.toList ++ [64]) := HC.out.trans (if_neg e1)
   have a1 : ∀ w : World, (Op.stringOp .add s1 ⟨#[64]⟩).run Tryz.prog w = .ok (.string (strOf (s1.data.toList ++ [64]))) w := fun w => dP s1 ⟨#[64]⟩ w (by show s1.size + 1 ≤ _; omega)
   clear e1 e2 hl1 hl2
   go_enter Tryz.func137, Tryz.ntmps137
   go_wp2
   go_ret
   exact ⟨by rw [HC2.out]; rfl, (Below.refl _ _).alloc (Nat.le_refl _) _⟩
 ·have q2 : (s2.toList == []) = false := by rw [tl]; simpa using e2
  have q2' : s2.toList.isEmpty = false := by rw [tl]; simpa using e2
  have HC : Hid (lq s1 s2 = s1.data.toList ++ [58] ++ s2.data.toList ++ [64]) := if_neg e2
  obtain ⟨X, hX⟩ : ∃ X, X = strOf (s1.data.toList ++ [58]) := ⟨_, rfl⟩
  obtain ⟨Y, hY⟩ : ∃ Y, Y = strOf (s1.data.toList ++ [58] ++ s2.data.toList) := ⟨_, rfl⟩
  have a1 : ∀ w : World, (Op.stringOp .add s1 ⟨#[58]⟩).run Tryz.prog w = .ok (.string X) w := fun w => by rw [hX]; exact dP s1 ⟨#[58]⟩ w (by show s1.size + 1 ≤ _; omega)
  have a2 : ∀ w : World, (Op.stringOp .add X s2).run Tryz.prog w = .ok (.string Y) w := fun w => by rw [hX, hY]; exact dP _ s2 w (by rw [ah, List.length_append]; simp; omega)
  have a3 : ∀ w : World, (Op.stringOp .add Y ⟨#[64]⟩).run Tryz.prog w = .ok (.string (strOf (lq s1 s2))) w := fun w => by rw [HC.out, hY]; exact dP _ ⟨#[64]⟩ w (by rw [ah]; simp; show _ + 1 ≤ _; omega)
  clear e2 hl1 hl2 hX hY
  go_enter Tryz.func137, Tryz.ntmps137
  go_wp2
  go_ret
  exact ⟨rfl, (Below.refl _ _).alloc (Nat.le_refl _) _⟩
theorem yE (s0 : ByteArray) (s1 : ByteArray) (s2 : ByteArray) (s3 : ByteArray) (b4 : Bool) (z5 : Int) (b6 : Bool) (s7 : ByteArray) (A : Option Addr) (n cap : Nat) (l : List ByteArray) (b9 : Bool) (b10 : Bool) (s11 : ByteArray) (s12 : ByteArray) (w : World) (hR : bK w A n (l.map Value.string)) (hnc : n ≤ cap) (hcm : cap ≤ maxLen) (h7 : s7.size ≤ 1073741824) (hl : (aF l).length ≤ 1073741824) :
  Calls Tryz.prog 55 #[.agg #[.string s0, .string s1, .string s2, .string s3, .bool b4, .int .i64 z5, .bool b6, .string s7, .slice A n cap, .bool b9, .bool b10, .string s11, .string s12]] w fun e w' => e = .returned (.string (strOf (qg b6 s7 l))) ∧ Below w.heap.size w w' := by
 have hn : l.length = n := by rw [← hR.1, List.length_map]
 have hpl := bP l
 unfold maxLen at hcm
 cases b6 with
 | true =>
  clear hn hpl
  have HR := hid hR
  clear hR
  go_enter Tryz.func55, Tryz.ntmps55
  go_wp2
  go_ret
  exact ⟨rfl, (Below.refl _ _).alloc (Nat.le_refl _) _⟩
 | false =>
  have HR := hid hR
  have HN := hid hn
  have wY := hid hpl
  have wP := hid hl
  clear hR hn hpl hl
  go_enter Tryz.func55, Tryz.ntmps55
  go_wp2
  generalize hw1 : w.alloc _ = w1
  have hb1 : Below w.heap.size w w1 := by rw [← hw1]; exact (Below.refl _ _).alloc (Nat.le_refl _) _
  have hs1 : w1.heap.size = w.heap.size + 1 := by rw [← hw1]; simp
  clear hw1
  have HB0 : Hid (mg (w.heap.size + 1) (w.heap.size + 1) [] (w1.alloc (.cells #[.pointer none, .slice none 0 0] 77))) := by
   have h := Lib.fresh_isBuilder 77 5 w1
   rw [hs1] at h
   exact h
  go_loopw [5, 13] (fun _ vk wr => ∃ k : Nat, k ≤ n ∧ vk = .int .i64 (k : Int) ∧ Hid (mg (w.heap.size + 1) (w.heap.size + 1) (aF (l.take k)) wr) ∧ Hid (Below (w.heap.size + 1) w1 wr)) (fun _ vk _ => n - (intOf vk).toNat)
  case atStart => exact ⟨0, Nat.zero_le _, rfl, HB0.out, (Below.refl _ _).alloc (by rw [hs1]; exact Nat.le_refl _) _⟩
  case round =>
   obtain ⟨k, hk, rfl, HB, eP⟩ := hrel
   have hsz : w.heap.size + 1 ≤ wr.heap.size := by have := eP.out.size; rw [hs1] at this; exact this
   by_cases hlt : k < n
   ·have hkl : k < l.length := by rw [HN.out]; exact hlt
    have hRr := HR.out.below (hb1.trans (eP.out.mono (by omega)))
    obtain ⟨g, off, rfl, hg, hcell⟩ := hRr.spot (by omega)
    have hc := hcell k (by rw [List.length_map]; exact hkl)
    rw [List.getElem_map] at hc
    obtain ⟨s, hs⟩ : ∃ s, s = l[k] := ⟨_, rfl⟩
    have HS : Hid (l.take (k + 1) = l.take k ++ [s]) := by rw [hs]; exact take_snoc l k hkl
    rw [← hs] at hc
    have hsum := oC l k hkl
    have qR := jD l (k + 1)
    have hpk := bP (l.take k)
    rw [List.length_take, Nat.min_eq_left (by omega)] at hpk
    have hpl := wY.out
    have hll := wP.out
    rw [← hs] at hsum
    have hss : s.size ≤ 1073741824 := by omega
    have a1 : ∀ w : World, (Op.stringOp .add ⟨#[47]⟩ s).run Tryz.prog w = .ok (.string (strOf ([47] ++ s.data.toList))) w := fun w => dP ⟨#[47]⟩ s w (by show 1 + s.size ≤ _; omega)
    have HLEN : Hid ((aF (l.take k)).length + (1 + s.size) ≤ 140737488355328) := by show _ ≤ _; omega
    clear hs hsum qR hpk hpl hll hRr hcell hkl
    go_wp2_with (refine (write_any _ _ _ _ _ HB.out (by rw [ah]; have := HLEN.out; simp at this ⊢; omega) hsz).mono ?_; rintro e w3 ⟨rfl, HB3, hb3⟩)
    go_roundw
    case rel => exact ⟨k + 1, by omega, by go_num, by
     rw [HS.out, IU]
     exact HB3, eP.out.trans hb3⟩
    case measure => simp [intOf]; omega
   ·obtain rfl : k = n := by omega
    have HT : Hid (l.take k = l) := List.take_of_length_le (by rw [HN.out]; exact Nat.le_refl _)
    go_wp2_with (refine (rD _ _ _ _ HB.out hsz).mono ?_; rintro e w3 ⟨rfl, hb3⟩)
    go_ret
    exact ⟨congrArg (fun X => Ending.returned (.string (strOf (aF X)))) HT.out, hb1.trans ((eP.out.trans hb3).mono (by omega))⟩
end Go.Proofs.YtmdofbccebkbiaaGreatDoor.UrlB
namespace Go.Proofs.YtmdofbccebkbiaaGreatDoor.VT
open Go.RowKit Base aT bQ Oa UrlB eH
def Box (w : World) (b : Nat) (c : Array Value) : Prop := w.heap[b]? = some (.cells c 25 (0, 0))
theorem Box.cell {w : World} {b : Nat} {c : Array Value} (h : Box w b c) (i : Nat) : w.cell? ⟨b, i, none⟩ = c[i]? := cell_of_row w b i _ _ _ h
theorem Box.below {w w' : World} {B b : Nat} {c : Array Value} (h : Box w b c) (hb : Below B w w') (hB : b < B) : Box w' b c := (hb.block b hB).trans h
theorem iE {w : World} {b : Nat} {v0 v1 v2 v3 v4 v5 v6 v7 v8 v9 v10 v11 v12 : Value} (h : Box w b #[v0, v1, v2, v3, v4, v5, v6, v7, v8, v9, v10, v11, v12]) :
  w.cell? ⟨b, 0, none⟩ = some v0 ∧ w.cell? ⟨b, 1, none⟩ = some v1 ∧ w.cell? ⟨b, 2, none⟩ = some v2 ∧ w.cell? ⟨b, 3, none⟩ = some v3 ∧ w.cell? ⟨b, 4, none⟩ = some v4 ∧ w.cell? ⟨b, 5, none⟩ = some v5 ∧ w.cell? ⟨b, 6, none⟩ = some v6 ∧ w.cell? ⟨b, 7, none⟩ = some v7 ∧ w.cell? ⟨b, 8, none⟩ = some v8 ∧ w.cell? ⟨b, 9, none⟩ = some v9 ∧ w.cell? ⟨b, 10, none⟩ = some v10 ∧ w.cell? ⟨b, 11, none⟩ = some v11 ∧ w.cell? ⟨b, 12, none⟩ = some v12 :=
 ⟨(h.cell 0).trans rfl, (h.cell 1).trans rfl, (h.cell 2).trans rfl, (h.cell 3).trans rfl, (h.cell 4).trans rfl, (h.cell 5).trans rfl, (h.cell 6).trans rfl, (h.cell 7).trans rfl, (h.cell 8).trans rfl, (h.cell 9).trans rfl, (h.cell 10).trans rfl, (h.cell 11).trans rfl, (h.cell 12).trans rfl⟩
theorem Zp (z : Int) (h0 : -9223372036854775808 ≤ z) (h1 : z ≤ 9223372036854775807) (w : World) (hT : Tab.Pow w) :
  Calls Tryz.prog 128 #[.int .i64 z] w fun e w' => e = .returned (.string (strOf (Lib.itoa z))) ∧ Below w.heap.size w w' :=
 (Tryz.strconv_Itoa z h0 h1 w hT).mono fun e w' ⟨he, k, os, hw⟩ => ⟨he, by rw [hw]; exact Tab.below_grow w k os⟩
theorem og (k : Nat) : ∀ n, n < 10 ^ (k + 1) → (Lib.decDigits n).length ≤ k + 1 := by
 induction k with
 | zero => intro n h; rw [Lib.decDigits, dif_pos (by omega)]; simp
 | succ k ih =>
  intro n h
  rw [Lib.decDigits]
  split
  ·simp
  ·have := ih (n / 10) (by rw [Nat.pow_succ] at h; omega)
   rw [List.length_append]
   simp
   omega
theorem Py (z : Int) (h0 : -9223372036854775808 ≤ z) (h1 : z ≤ 9223372036854775807) : (Lib.itoa z).length ≤ 20 := by
 unfold Lib.itoa
 split
 ·have := og 18 z.natAbs (by omega)
  simp
  omega
 ·have := og 18 z.toNat (by omega)
  omega
theorem OI (s1 s2 : ByteArray) (h1 : s1.size ≤ 1073741824) (h2 : s2.size ≤ 1073741824) : (lq s1 s2).length ≤ 2147483650 := by
 have hl1 : s1.data.toList.length = s1.size := Array.length_toList
 have hl2 : s2.data.toList.length = s2.size := Array.length_toList
 unfold lq
 split
 ·split
  ·simp
  ·rw [List.length_append]; simp; omega
 ·rw [List.length_append, List.length_append, List.length_append]; simp; omega
theorem PS (z5 : Int) (h0 : -9223372036854775808 ≤ z5) (h1 : z5 ≤ 9223372036854775807) : (jP z5).length ≤ 21 := by
 have := Py z5 h0 h1
 unfold jP
 split <;> simp <;> omega
theorem UY (s1 s2 s3 : ByteArray) (b4 : Bool) (z5 : Int) (b6 : Bool) (l : List ByteArray) (h1 : s1.size ≤ 1073741824) (h2 : s2.size ≤ 1073741824) (h3 : s3.size ≤ 1073741824) (h0 : -9223372036854775808 ≤ z5) (h5 : z5 ≤ 9223372036854775807) : (qV s1 s2 s3 b4 z5 b6 l).length ≤ 4294967296 := by
 have := OI s1 s2 h1 h2
 have := PS z5 h0 h5
 have hl3 : s3.data.toList.length = s3.size := Array.length_toList
 unfold qV
 split
 ·rw [List.length_append, List.length_append, List.length_append]; simp; omega
 ·split <;> simp
theorem iw {B b : Nat} {l : List UInt8} {w w' : World} (h : mg B b l w) (hb : Below w.heap.size w w') : mg B b l w' := by
 rcases h with ⟨h1, v, h2, h3, h4⟩ | ⟨h1, v, h2, h3, h4⟩
 ·exact Or.inl ⟨h1, v, (hb.block _ (Array.getElem?_eq_some_iff.1 h2).1).trans h2, aK h3 hb, h4⟩
 ·exact Or.inr ⟨h1, v, (hb.block _ (Array.getElem?_eq_some_iff.1 h2).1).trans h2, aK h3 hb, h4⟩
theorem GZ (s0 : ByteArray) (s1 : ByteArray) (s2 : ByteArray) (s3 : ByteArray) (b4 : Bool) (z5 : Int) (b6 : Bool) (s7 : ByteArray) (A : Option Addr) (n cap : Nat) (l : List ByteArray) (b9 : Bool) (b10 : Bool) (s11 : ByteArray) (s12 : ByteArray) (w : World) (hR : bK w A n (l.map Value.string)) (hnc : n ≤ cap) (hcm : cap ≤ maxLen) (hs0 : s0.size ≤ 1073741824) (hs1 : s1.size ≤ 1073741824) (hs2 : s2.size ≤ 1073741824) (hs3 : s3.size ≤ 1073741824) (hs7 : s7.size ≤ 1073741824) (hs11 : s11.size ≤ 1073741824) (Nc : s12.size ≤ 1073741824) (hz : -9223372036854775808 ≤ z5) (hz' : z5 ≤ 9223372036854775807) (hl : (aF l).length ≤ 1073741824) (hT : Tab.Pow w) :
  Calls Tryz.prog 72 #[.agg #[.string s0, .string s1, .string s2, .string s3, .bool b4, .int .i64 z5, .bool b6, .string s7, .slice A n cap, .bool b9, .bool b10, .string s11, .string s12]] w fun e w' => e = .returned (.string (strOf (xQ s0 s1 s2 s3 b4 z5 b6 s7 l b9 s11))) ∧ Below w.heap.size w w' := by
 have hl0 : s0.data.toList.length = s0.size := Array.length_toList
 have hl3 : s3.data.toList.length = s3.size := Array.length_toList
 have hl7 : s7.data.toList.length = s7.size := Array.length_toList
 have hl11 : s11.data.toList.length = s11.size := Array.length_toList
 have hn : l.length = n := by rw [← hR.1, List.length_map]
 have HN := hid hn
 have QC := hid (OI s1 s2 hs1 hs2)
 have HIT := hid (Py z5 hz hz')
 have HML := hid (UY s1 s2 s3 b4 z5 b6 l hs1 hs2 hs3 hz hz')
 have VE : Hid ((s0.data.toList ++ [58]).length ≤ 1073741825) := by show _ ≤ _; rw [List.length_append]; simp; omega
 obtain ⟨CA, hCA⟩ : ∃ X, X = [47, 47] ++ lq s1 s2 := ⟨_, rfl⟩
 obtain ⟨CB, hCB⟩ : ∃ X, X = CA ++ s3.data.toList := ⟨_, rfl⟩
 have hCAl : CA.length ≤ 2147483652 := by rw [hCA, List.length_append]; have := QC.out; simp; omega
 have Ub : Hid (CB.length ≤ 3221225476) := by show _ ≤ _; rw [hCB, List.length_append]; omega
 have a2 : ∀ w : World, (Op.stringOp .add ⟨#[47, 47]⟩ (strOf (lq s1 s2))).run Tryz.prog w = .ok (.string (strOf CA)) w := fun w => by rw [hCA]; exact dP ⟨#[47, 47]⟩ _ w (by rw [ah]; have := QC.out; show 2 + _ ≤ _; omega)
 have a3 : ∀ w : World, (Op.stringOp .add (strOf CA) s3).run Tryz.prog w = .ok (.string (strOf CB)) w := fun w => by rw [hCB]; exact dP _ s3 w (by rw [ah]; omega)
 have HCB : Hid (CB = [47, 47] ++ lq s1 s2 ++ s3.data.toList) := by show _ = _; rw [hCB, hCA]
 clear hCA hCB hCAl
 have XV : Hid ((qg b6 s7 l).length ≤ 1073741824) := by show _ ≤ _; unfold qg; split <;> omega
 have a1 : ∀ w : World, (Op.stringOp .add s0 ⟨#[58]⟩).run Tryz.prog w = .ok (.string (strOf (s0.data.toList ++ [58]))) w := fun w => dP s0 ⟨#[58]⟩ w (by show s0.size + 1 ≤ _; omega)
 obtain ⟨QL, hQL⟩ : ∃ X, X = [63] ++ s11.data.toList := ⟨_, rfl⟩
 have a5 : ∀ w : World, (Op.stringOp .add ⟨#[63]⟩ s11).run Tryz.prog w = .ok (.string (strOf QL)) w := fun w => by rw [hQL]; exact dP ⟨#[63]⟩ s11 w (by show 1 + s11.size ≤ _; omega)
 have HQLL : Hid (QL.length ≤ 1073741825) := by show _ ≤ _; rw [hQL, List.length_append]; simp; omega
 have HQL := hid hQL
 clear hQL
 clear hl0 hl3 hl7 hl11 hn
 have HR := hid hR
 have wP := hid hl
 have HT := hid hT
 clear hR hl hT
 unfold maxLen at hcm
 go_enter Tryz.func72, Tryz.ntmps72
 go_upto_region 1 with (fail)
 generalize hw1 : w.alloc _ = w1
 have hb1 : Below w.heap.size w w1 := by rw [← hw1]; exact (Below.refl _ _).alloc (Nat.le_refl _) _
 have hs1' : w1.heap.size = w.heap.size + 1 := by rw [← hw1]; simp
 have QM : Hid (Box w1 w.heap.size #[.string s0, .string s1, .string s2, .string s3, .bool b4, .int .i64 z5, .bool b6, .string s7, .slice A n cap, .bool b9, .bool b10, .string s11, .string s12]) := by
  show _ = _
  rw [← hw1]
  exact heap_alloc_new w _
 clear hw1
 go_upto_region 2 with (fail)
 have HB2 : Hid (mg (w.heap.size + 1) (w.heap.size + 1) [] (w1.alloc (.cells #[.pointer none, .slice none 0 0] 77))) := by
  have h := Lib.fresh_isBuilder 77 5 w1
  rw [hs1'] at h
  exact h
 have hb12 : Below (w.heap.size + 1) w1 (w1.alloc (.cells #[.pointer none, .slice none 0 0] 77)) := (Below.refl _ _).alloc (by rw [hs1']; exact Nat.le_refl _) _
 have hs2' : (w1.alloc (.cells #[.pointer none, .slice none 0 0] 77)).heap.size = w.heap.size + 2 := by simp [hs1']
 generalize hw2 : w1.alloc _ = w2 at HB2 hb12 hs2' ⊢
 clear hw2
 have Y8 : Below w.heap.size w w2 := hb1.trans (hb12.mono (by omega))
 have hbx := QM.out.below hb12 (by omega)
 have HBX2 := hid hbx
 obtain ⟨c0, c1, c2, c3, c4, c5, c6, c7, c8, c9, c10, c11, c12⟩ := iE hbx
 clear hbx
 have hsz2 : w.heap.size + 1 ≤ w2.heap.size := by omega
 clear hs1' hs2'
 go_wp2_with fail
 refine (write_any _ _ _ _ _ HB2.out (by rw [ah]; have := VE.out; simp at this ⊢; omega) hsz2).mono ?_
 rintro e w3 ⟨rfl, HB3', O6⟩
 have HB3 : Hid (mg (w.heap.size + 1) (w.heap.size + 1) (s0.data.toList ++ [58]) w3) := HB3'
 have hsz3 : w.heap.size + 1 ≤ w3.heap.size := by have := O6.size; omega
 have hbx := HBX2.out.below O6 (by omega : w.heap.size < w.heap.size + 1)
 have HBX3 := hid hbx
 clear HB3' c0 c1 c2 c3 c4 c5 c6 c7 c8 c9 c10 c11 c12
 obtain ⟨c0, c1, c2, c3, c4, c5, c6, c7, c8, c9, c10, c11, c12⟩ := iE hbx
 clear hbx
 go_upto_if 9 with (fail)
 go_cut [] (fun wx => Hid (mg (w.heap.size + 1) (w.heap.size + 1) (s0.data.toList ++ [58] ++ qV s1 s2 s3 b4 z5 b6 l) wx) ∧ Hid (Below (w.heap.size + 1) w2 wx))
 case first =>
  cases b4 with
  | true =>
   go_wp2_with fail
   clear c0 c1 c2 c3 c4 c5 c6 c7 c8 c9 c10 c11 c12
   refine aZ (by kernel_rfl) 6 [is (.agg #[.string s0, .string s1, .string s2, .string s3, .bool true, .int .i64 z5, .bool b6, .string s7, .slice A n cap, .bool b9, .bool b10, .string s11, .string s12]), is (.string (strOf (lq s1 s2))), is (.string (strOf CA)), is (.pointer (some ⟨w.heap.size, 3, none⟩)), is (.string s3), is (.string (strOf CB))] [[], [0], [0, 1], [], [3], [0, 1, 2, 3, 4], [0, 1, 2, 3, 4, 5]] (by kernel_rfl) ?_ ?_
   ·refine ⟨?_, ?_, ?_, ?_, ?_, ?_, trivial⟩
    all_goals (intro t wq hbq hh K hK; simp only [filled, aQ, upd, Have, is, any, row, pick, Act.put, List.setIfInBounds_toArray, List.set_cons_zero, List.set_cons_succ, Nat.reduceAdd, Nat.reduceEqDiff, reduceIte, List.tail_cons, List.headD_cons] at hh hK ⊢; (try simp only [hh] at hK ⊢); try clear hh)
    ·have hbx := HBX3.out.below hbq (by omega); obtain ⟨c0, c1, c2, c3, c4, c5, c6, c7, c8, c9, c10, c11, c12⟩ := iE hbx; clear hbx; go_simp; exact hK _ _ (Below.refl _ _) rfl
    ·go_simp; refine (YB s0 s1 s2 s3 true z5 b6 s7 A n cap l b9 b10 s11 s12 _ hs1 hs2).mono ?_; rintro e w5 ⟨rfl, hb5⟩; exact hK _ _ hb5 rfl
    ·have hadd := a2 wq; go_simp; exact hK _ _ (Below.refl _ _) rfl
    ·go_simp; exact hK _ _ (Below.refl _ _) rfl
    ·have hbx := HBX3.out.below hbq (by omega); obtain ⟨c0, c1, c2, c3, c4, c5, c6, c7, c8, c9, c10, c11, c12⟩ := iE hbx; clear hbx; go_simp; exact hK _ _ (Below.refl _ _) rfl
    ·have hadd := a3 wq; go_simp; exact hK _ _ (Below.refl _ _) rfl
   ·intro t wq hbq hh
    have f5 := aG hh 5 (by decide)
    simp only [pick] at f5
    replace f5 : t 5 = (.string (strOf CB)) := f5
    clear hh
    simp only [filled, aQ, upd, Have, is, any, row, pick, Act.put, List.setIfInBounds_toArray, List.set_cons_zero, List.set_cons_succ, Nat.reduceAdd, Nat.reduceEqDiff, reduceIte]
    simp only [f5]
    have HB4 := HB3.out
    go_wp2_with fail
    refine (write_any _ _ _ _ _ (iw HB3.out hbq) (by rw [ah]; have := VE.out; have := Ub.out; omega) (by have := hbq.size; omega)).mono ?_
    rintro e w5 ⟨rfl, rE, hb5⟩
    rw [jO] at rE
    have hb35 := O6.trans ((hbq.mono (by omega)).trans hb5)
    have hbx := HBX3.out.below ((hbq.mono (by omega)).trans hb5) (by omega : w.heap.size < w.heap.size + 1)
    have HBX5 := hid hbx
    obtain ⟨c0, c1, c2, c3, c4, c5, c6, c7, c8, c9, c10, c11, c12⟩ := iE hbx
    clear hbx HB4
    have hsz5 : w.heap.size + 1 ≤ w5.heap.size := by have := hb35.size; omega
    by_cases hp : z5 = -1
    ·have q1 : (z5 == -1) = true := by simpa using hp
     have q2 : (z5 != -1) = false := by simpa using hp
     have HP : Hid (jP z5 = []) := if_pos hp
     clear hp
     go_wp2
     go_meet
     refine ⟨?_, hb35⟩
     have e : s0.data.toList ++ [58] ++ qV s1 s2 s3 true z5 b6 l = s0.data.toList ++ [58] ++ CB := by unfold qV; rw [if_pos rfl, HP.out, List.append_nil, HCB.out]
     show mg _ _ _ _
     rw [e]
     exact rE
    ·have q1 : (z5 == -1) = false := by simpa using hp
     have q2 : (z5 != -1) = true := by simpa using hp
     have HP : Hid (jP z5 = 58 :: Lib.itoa z5) := if_neg hp
     clear hp
     obtain ⟨IT, hIT⟩ : ∃ X, X = [58] ++ Lib.itoa z5 := ⟨_, rfl⟩
     have a4 : ∀ w : World, (Op.stringOp .add ⟨#[58]⟩ (strOf (Lib.itoa z5))).run Tryz.prog w = .ok (.string (strOf IT)) w := fun w => by rw [hIT]; exact dP ⟨#[58]⟩ _ w (by rw [ah]; have := HIT.out; show 1 + _ ≤ _; omega)
     have HITL : Hid (IT.length ≤ 21) := by show _ ≤ _; rw [hIT, List.length_append]; have := HIT.out; simp; omega
     have HITE := hid hIT
     clear hIT
     go_wp2_with fail
     refine (Zp z5 hz hz' _ (HT.out.below (Y8.trans (hb35.mono (by omega))))).mono ?_
     rintro e w6 ⟨rfl, hb6⟩
     go_wp2_with fail
     refine (write_any _ _ _ _ _ (iw rE hb6) (by rw [ah, List.length_append]; have := HITL.out; have := VE.out; have := Ub.out; omega) (by have := hb6.size; omega)).mono ?_
     rintro e w7 ⟨rfl, uU, hb7⟩
     rw [jO] at uU
     go_wp2
     go_meet
     refine ⟨?_, hb35.trans ((hb6.mono hsz5).trans hb7)⟩
     have e : s0.data.toList ++ [58] ++ qV s1 s2 s3 true z5 b6 l = s0.data.toList ++ [58] ++ CB ++ IT := by unfold qV; rw [if_pos rfl, HP.out, HCB.out, HITE.out]; simp
     show mg _ _ _ _
     rw [e]
     exact uU
  | false =>
   cases b6 with
   | true =>
    go_wp2
    go_meet
    refine ⟨?_, O6⟩
    show mg _ _ (_ ++ []) _
    rw [List.append_nil]
    exact HB3.out
   | false =>
    by_cases h1n : 1 < n
    ·obtain ⟨x, y, r, hlx⟩ : ∃ x y r, l = x :: y :: r := by
      have := HN.out
      match l, this with
      | x :: y :: r, _ => exact ⟨x, y, r, rfl⟩
      | [_], h => simp at h; omega
      | [], h => simp at h; omega
     have hRr := HR.out.below (Y8.trans (O6.mono (by omega)))
     obtain ⟨g, off, rfl, hg, hcell⟩ := hRr.spot (by omega)
     have hc := hcell 0 (by rw [List.length_map, HN.out]; omega)
     have e0 : (l.map Value.string)[0]'(by rw [List.length_map, HN.out]; omega) = .string x := by simp [hlx]
     rw [e0, Nat.add_zero] at hc
     have HD : Hid (dotted false l = decide (x.data.toList = [])) := by show _ = _; rw [hlx]; rfl
     clear hRr hcell e0 hlx
     by_cases hx : x.data.toList = []
     ·have q1 : x.toList = [] := by rw [tl]; exact hx
      have Jv : Hid (dotted false l = true) := HD.out.trans (decide_eq_true hx)
      clear hx
      go_wp2_with fail
      refine (write_any _ _ _ _ _ HB3.out (by have := VE.out; show _ + 2 ≤ _; omega) hsz3).mono ?_
      rintro e w5 ⟨rfl, rE, hb5⟩
      go_wp2
      go_meet
      refine ⟨?_, O6.trans hb5⟩
      have e : s0.data.toList ++ [58] ++ qV s1 s2 s3 false z5 false l = s0.data.toList ++ [58] ++ [47, 46] := by unfold qV; rw [if_neg (by decide), if_pos Jv.out]
      show mg _ _ _ _
      rw [e]
      exact rE
     ·have q1 : (x.toList == []) = false := by rw [tl]; simpa using hx
      have q1' : x.toList.isEmpty = false := by rw [tl]; simpa using hx
      have Jv : Hid (¬ dotted false l = true) := by show ¬ _; rw [HD.out]; simpa using hx
      clear hx
      go_wp2
      go_meet
      refine ⟨?_, O6⟩
      have e : s0.data.toList ++ [58] ++ qV s1 s2 s3 false z5 false l = s0.data.toList ++ [58] := by unfold qV; rw [if_neg (by decide), if_neg Jv.out, List.append_nil]
      show mg _ _ _ _
      rw [e]
      exact HB3.out
    ·have Jv : Hid (¬ dotted false l = true) := by
      have := HN.out
      match l, this with
      | x :: y :: r, h => simp at h; omega
      | [_], h => simp [dotted, Hid]
      | [], h => simp [dotted, Hid]
     go_wp2
     go_meet
     refine ⟨?_, O6⟩
     have e : s0.data.toList ++ [58] ++ qV s1 s2 s3 false z5 false l = s0.data.toList ++ [58] := by unfold qV; rw [if_neg (by decide), if_neg Jv.out, List.append_nil]
     show mg _ _ _ _
     rw [e]
     exact HB3.out
 case rest =>
 obtain ⟨HB4, HB24⟩ := hcut
 clear c0 c1 c2 c3 c4 c5 c6 c7 c8 c9 c10 c11 c12
 have hbx := HBX2.out.below HB24.out (by omega : w.heap.size < w.heap.size + 1)
 have HBX4 := hid hbx
 obtain ⟨c0, c1, c2, c3, c4, c5, c6, c7, c8, c9, c10, c11, c12⟩ := iE hbx
 clear hbx
 have yx : w.heap.size + 1 ≤ wc.heap.size := by have := HB24.out.size; omega
 go_wp2_with fail
 refine (yE s0 s1 s2 s3 b4 z5 b6 s7 A n cap l b9 b10 s11 s12 _ (HR.out.below (Y8.trans (HB24.out.mono (by omega)))) hnc (by unfold maxLen; omega) hs7 wP.out).mono ?_
 rintro e w5 ⟨rfl, hb5⟩
 go_wp2_with fail
 have hml := HML.out
 have hla := VE.out
 have hpa := XV.out
 have HLC : Hid ((s0.data.toList ++ [58] ++ qV s1 s2 s3 b4 z5 b6 l).length ≤ 5368709121) := by show _ ≤ _; rw [List.length_append]; omega
 have HLD : Hid ((s0.data.toList ++ [58] ++ qV s1 s2 s3 b4 z5 b6 l ++ qg b6 s7 l).length ≤ 6442450945) := by show _ ≤ _; rw [List.length_append]; have := HLC.out; omega
 clear hml hla hpa
 refine (write_any _ _ _ _ _ (iw HB4.out hb5) (by rw [ah]; have := HLC.out; have := XV.out; omega) (by have := hb5.size; omega)).mono ?_
 rintro e w6 ⟨rfl, NZ, hb6⟩
 rw [jO] at NZ
 have hb26 := HB24.out.trans ((hb5.mono yx).trans hb6)
 have hsz6 : w.heap.size + 1 ≤ w6.heap.size := by have := hb26.size; omega
 clear c0 c1 c2 c3 c4 c5 c6 c7 c8 c9 c10 c11 c12
 have hbx := HBX2.out.below hb26 (by omega : w.heap.size < w.heap.size + 1)
 obtain ⟨c0, c1, c2, c3, c4, c5, c6, c7, c8, c9, c10, c11, c12⟩ := iE hbx
 clear hbx
 have HB6' := hid NZ
 clear NZ
 cases b9 with
 | false =>
  go_wp2_with fail
  refine (rD _ _ _ _ HB6'.out hsz6).mono ?_
  rintro e w7 ⟨rfl, hb7⟩
  go_wp2
  go_ret
  refine ⟨?_, Y8.trans ((hb26.trans hb7).mono (by omega))⟩
  have e : xQ s0 s1 s2 s3 b4 z5 b6 s7 l false s11 = s0.data.toList ++ [58] ++ qV s1 s2 s3 b4 z5 b6 l ++ qg b6 s7 l := by unfold xQ; rw [if_neg (by decide), List.append_nil]
  refine congrArg (fun X => Ending.returned (.string (strOf X))) ?_
  rw [e]
  simp
 | true =>
  go_wp2_with fail
  refine (write_any _ _ _ _ _ HB6'.out (by rw [ah]; have := HLD.out; have := HQLL.out; omega) hsz6).mono ?_
  rintro e w7 ⟨rfl, uU, hb7⟩
  rw [jO] at uU
  go_wp2_with fail
  refine (rD _ _ _ _ uU (by have := hb7.size; omega)).mono ?_
  rintro e w8 ⟨rfl, hb8⟩
  go_wp2
  go_ret
  refine ⟨?_, Y8.trans (((hb26.trans hb7).trans hb8).mono (by omega))⟩
  have e : xQ s0 s1 s2 s3 b4 z5 b6 s7 l true s11 = s0.data.toList ++ [58] ++ qV s1 s2 s3 b4 z5 b6 l ++ qg b6 s7 l ++ QL := by unfold xQ; rw [if_pos rfl, HQL.out]; rfl
  refine congrArg (fun X => Ending.returned (.string (strOf X))) ?_
  rw [e]
  simp
theorem Yw (s0 : ByteArray) (s1 : ByteArray) (s2 : ByteArray) (s3 : ByteArray) (b4 : Bool) (z5 : Int) (b6 : Bool) (s7 : ByteArray) (A : Option Addr) (n cap : Nat) (l : List ByteArray) (b9 : Bool) (b10 : Bool) (s11 : ByteArray) (s12 : ByteArray) (hs0 : s0.size ≤ 1073741824) (hs1 : s1.size ≤ 1073741824) (hs2 : s2.size ≤ 1073741824) (hs3 : s3.size ≤ 1073741824) (hs7 : s7.size ≤ 1073741824) (hs11 : s11.size ≤ 1073741824) (Nc : s12.size ≤ 1073741824) (hz : -9223372036854775808 ≤ z5) (hz' : z5 ≤ 9223372036854775807) (hl : (aF l).length ≤ 1073741824) : (xQ s0 s1 s2 s3 b4 z5 b6 s7 l b9 s11).length ≤ 8589934592 := by
 have hl0 : s0.data.toList.length = s0.size := Array.length_toList
 have hl7 : s7.data.toList.length = s7.size := Array.length_toList
 have hl11 : s11.data.toList.length = s11.size := Array.length_toList
 have := UY s1 s2 s3 b4 z5 b6 l hs1 hs2 hs3 hz hz'
 unfold xQ qg
 rw [List.length_append, List.length_append, List.length_append, List.length_append]
 split <;> split <;> simp <;> omega
theorem print_any (s0 : ByteArray) (s1 : ByteArray) (s2 : ByteArray) (s3 : ByteArray) (b4 : Bool) (z5 : Int) (b6 : Bool) (s7 : ByteArray) (A : Option Addr) (n cap : Nat) (l : List ByteArray) (b9 : Bool) (b10 : Bool) (s11 : ByteArray) (s12 : ByteArray) (w : World) (hR : bK w A n (l.map Value.string)) (hnc : n ≤ cap) (hcm : cap ≤ maxLen) (hs0 : s0.size ≤ 1073741824) (hs1 : s1.size ≤ 1073741824) (hs2 : s2.size ≤ 1073741824) (hs3 : s3.size ≤ 1073741824) (hs7 : s7.size ≤ 1073741824) (hs11 : s11.size ≤ 1073741824) (Nc : s12.size ≤ 1073741824) (hz : -9223372036854775808 ≤ z5) (hz' : z5 ≤ 9223372036854775807) (hl : (aF l).length ≤ 1073741824) (hT : Tab.Pow w) :
  Calls Tryz.prog 31 #[.agg #[.string s0, .string s1, .string s2, .string s3, .bool b4, .int .i64 z5, .bool b6, .string s7, .slice A n cap, .bool b9, .bool b10, .string s11, .string s12]] w fun e w' => e = .returned (.string (strOf (BO s0 s1 s2 s3 b4 z5 b6 s7 l b9 b10 s11 s12))) ∧ Below w.heap.size w w' := by
 have hcm' := hcm
 unfold maxLen at hcm
 have hl12 : s12.data.toList.length = s12.size := Array.length_toList
 obtain ⟨BL, hBL⟩ : ∃ X, X = xQ s0 s1 s2 s3 b4 z5 b6 s7 l b9 s11 := ⟨_, rfl⟩
 have hbl : BL.length ≤ 8589934592 := by rw [hBL]; exact Yw s0 s1 s2 s3 b4 z5 b6 s7 A n cap l b9 b10 s11 s12 hs0 hs1 hs2 hs3 hs7 hs11 Nc hz hz' hl
 have eP := hid hBL
 obtain ⟨BM, hBM⟩ : ∃ X, X = BL ++ [35] := ⟨_, rfl⟩
 obtain ⟨BN, hBN⟩ : ∃ X, X = BM ++ s12.data.toList := ⟨_, rfl⟩
 have a1 : ∀ w : World, (Op.stringOp .add (strOf BL) ⟨#[35]⟩).run Tryz.prog w = .ok (.string (strOf BM)) w := fun w => by rw [hBM]; exact dP _ ⟨#[35]⟩ w (by rw [ah]; show _ + 1 ≤ _; omega)
 have a2 : ∀ w : World, (Op.stringOp .add (strOf BM) s12).run Tryz.prog w = .ok (.string (strOf BN)) w := fun w => by rw [hBN]; exact dP _ s12 w (by rw [ah, hBM, List.length_append]; simp; omega)
 have HBN : Hid (BN = BL ++ [35] ++ s12.data.toList) := by show _ = _; rw [hBN, hBM]
 clear hBL hBM hBN hl12 hbl
 have HR := hid hR
 have wP := hid hl
 have HT := hid hT
 clear hR hl hT
 cases b10 with
 | true =>
  go_enter Tryz.func31, Tryz.ntmps31
  go_upto_region 1 with (fail)
  generalize hw1 : w.alloc _ = w1
  have hb1 : Below w.heap.size w w1 := by rw [← hw1]; exact (Below.refl _ _).alloc (Nat.le_refl _) _
  have hlt1 : w.heap.size < w1.heap.size := by rw [← hw1]; simp
  have QM : Hid (Box w1 w.heap.size #[.string s0, .string s1, .string s2, .string s3, .bool b4, .int .i64 z5, .bool b6, .string s7, .slice A n cap, .bool b9, .bool true, .string s11, .string s12]) := by
   show _ = _
   rw [← hw1]
   exact heap_alloc_new w _
  clear hw1
  obtain ⟨c0, c1, c2, c3, c4, c5, c6, c7, c8, c9, c10, c11, c12⟩ := iE QM.out
  go_wp2_with fail
  clear c0 c1 c2 c3 c4 c5 c6 c7 c8 c9 c10 c11 c12
  refine bW (by kernel_rfl) [is (.agg #[.string s0, .string s1, .string s2, .string s3, .bool b4, .int .i64 z5, .bool b6, .string s7, .slice A n cap, .bool b9, .bool true, .string s11, .string s12]), is (.string (strOf BL)), is (.string (strOf BM)), is (.pointer (some ⟨w.heap.size, 12, none⟩)), is (.string s12), is (.string (strOf BN)), is (.string (strOf BN))] [[], [0], [1], [], [3], [2, 4], [5]] (by kernel_rfl) ?_ ?_
  ·refine ⟨?_, ?_, ?_, ?_, ?_, ?_, ?_, trivial⟩
   all_goals (intro t wq hbq hh K hK; simp only [filled, upd, Have, is, any, row, pick, Act.put, List.setIfInBounds_toArray, List.set_cons_zero, List.set_cons_succ, Nat.reduceAdd, Nat.reduceEqDiff, reduceIte, List.tail_cons, List.headD_cons] at hh hK ⊢; (try simp only [hh] at hK ⊢); try clear hh)
   ·have hbx := QM.out.below hbq hlt1; obtain ⟨c0, c1, c2, c3, c4, c5, c6, c7, c8, c9, c10, c11, c12⟩ := iE hbx; clear hbx; go_simp; exact hK _ _ (Below.refl _ _) rfl
   ·go_simp; refine (GZ s0 s1 s2 s3 b4 z5 b6 s7 A n cap l b9 true s11 s12 _ (HR.out.below (hb1.trans (hbq.mono (by omega)))) hnc hcm' hs0 hs1 hs2 hs3 hs7 hs11 Nc hz hz' wP.out ((HT.out.below (hb1.trans (hbq.mono (by omega)))))).mono ?_; rintro e w5 ⟨rfl, hb5⟩; rw [← eP.out]; exact hK _ _ hb5 rfl
   ·have hadd := a1 wq; go_simp; exact hK _ _ (Below.refl _ _) rfl
   ·go_simp; exact hK _ _ (Below.refl _ _) rfl
   ·have hbx := QM.out.below hbq hlt1; obtain ⟨c0, c1, c2, c3, c4, c5, c6, c7, c8, c9, c10, c11, c12⟩ := iE hbx; clear hbx; go_simp; exact hK _ _ (Below.refl _ _) rfl
   ·have hadd := a2 wq; go_simp; exact hK _ _ (Below.refl _ _) rfl
   ·go_simp; exact hK _ _ (Below.refl _ _) rfl
  ·intro t wq hbq hh
   have f6 := aG hh 6 (by decide)
   simp only [pick] at f6
   replace f6 : t 6 = (.string (strOf BN)) := f6
   clear hh
   simp only [filled, upd, Have, is, any, row, pick, Act.put, List.setIfInBounds_toArray, List.set_cons_zero, List.set_cons_succ, Nat.reduceAdd, Nat.reduceEqDiff, reduceIte]
   simp only [f6]
   go_wp2
   go_ret
   refine ⟨?_, hb1.trans (hbq.mono (by omega))⟩
   have e : BO s0 s1 s2 s3 b4 z5 b6 s7 l b9 true s11 s12 = BN := by unfold BO; rw [if_pos rfl, HBN.out, ← eP.out]; simp
   exact congrArg (fun X => Ending.returned (.string (strOf X))) e.symm
 | false =>
  clear a1 a2
  go_enter Tryz.func31, Tryz.ntmps31
  go_upto_region 1 with (fail)
  generalize hw1 : w.alloc _ = w1
  have hb1 : Below w.heap.size w w1 := by rw [← hw1]; exact (Below.refl _ _).alloc (Nat.le_refl _) _
  have QM : Hid (Box w1 w.heap.size #[.string s0, .string s1, .string s2, .string s3, .bool b4, .int .i64 z5, .bool b6, .string s7, .slice A n cap, .bool b9, .bool false, .string s11, .string s12]) := by
   show _ = _
   rw [← hw1]
   exact heap_alloc_new w _
  clear hw1
  obtain ⟨c0, c1, c2, c3, c4, c5, c6, c7, c8, c9, c10, c11, c12⟩ := iE QM.out
  go_wp2_with fail
  refine (GZ s0 s1 s2 s3 b4 z5 b6 s7 A n cap l b9 false s11 s12 _ (HR.out.below hb1) hnc hcm' hs0 hs1 hs2 hs3 hs7 hs11 Nc hz hz' wP.out (HT.out.below hb1)).mono ?_
  rintro e w5 ⟨rfl, hb5⟩
  go_wp2
  go_ret
  refine ⟨?_, bel hb1 hb5⟩
  have e : BO s0 s1 s2 s3 b4 z5 b6 s7 l b9 false s11 s12 = xQ s0 s1 s2 s3 b4 z5 b6 s7 l b9 s11 := by unfold BO; rw [if_neg (by decide), List.append_nil]
  exact congrArg (fun X => Ending.returned (.string (strOf X))) e.symm
end Go.Proofs.YtmdofbccebkbiaaGreatDoor.VT
namespace Go.Proofs.YtmdofbccebkbiaaGreatDoor.UrlE
open Go.RowKit Base aT bQ mY
theorem below_drewN' (w : World) (k : Nat) : Below w.heap.size w (w.drewN k) := Base.below_drewN (Below.refl _ _) k
theorem Vt {s t : ByteArray} : s.data.toList = t.data.toList ↔ s = t := ⟨fun h => ext_str h, fun h => by rw [h]⟩
theorem Wq (A A2 : Option Addr) (n n2 cap cap2 : Nat) (l m : List ByteArray) (w : World) (hR : bK w A n (l.map Value.string)) (hR2 : bK w A2 n2 (m.map Value.string)) (hc : n ≤ cap) (hm : cap ≤ maxLen) (hc2 : n2 ≤ cap2) (hm2 : cap2 ≤ maxLen) :
  Calls Tryz.prog 138 #[.slice A n cap, .slice A2 n2 cap2] w fun e w' => e = .returned (.bool (decide (l = m))) ∧ Below w.heap.size w w' := by
 unfold maxLen at hm hm2
 have hn : l.length = n := by rw [← hR.1, List.length_map]
 have hn2 : m.length = n2 := by rw [← hR2.1, List.length_map]
 have HN := hid hn
 have AV := hid hn2
 have HR := hid hR
 have HR2 := hid hR2
 clear hR hR2 hn hn2
 by_cases he : n = n2
 ·obtain rfl := he
  have q1 : ((n : Int) == (n : Int)) = true := by simp
  have q2 : ((n : Int) != (n : Int)) = false := by simp
  go_enter Tryz.func138, Tryz.ntmps138
  go_wp2
  go_loopw [5, 13] (fun _ vk wr => ∃ k : Nat, k ≤ n ∧ vk = .int .i64 (k : Int) ∧ Hid (l.take k = m.take k) ∧ Hid (Below w.heap.size w wr)) (fun _ vk _ => n - (intOf vk).toNat)
  case atStart => exact ⟨0, Nat.zero_le _, rfl, rfl, Below.refl _ _⟩
  case round =>
   obtain ⟨k, hk, rfl, HT, eP⟩ := hrel
   by_cases hlt : k < n
   ·have hkl : k < l.length := by rw [HN.out]; exact hlt
    have hkm : k < m.length := by rw [AV.out]; exact hlt
    obtain ⟨g, off, rfl, hg, hcell⟩ := (HR.out.below eP.out).spot (by omega)
    obtain ⟨g2, off2, rfl, hg2, hcell2⟩ := (HR2.out.below eP.out).spot (by omega)
    have hc1 := hcell k (by rw [List.length_map]; exact hkl)
    have hc3 := hcell2 k (by rw [List.length_map]; exact hkm)
    rw [List.getElem_map] at hc1 hc3
    obtain ⟨s, hs⟩ : ∃ s, s = l[k] := ⟨_, rfl⟩
    obtain ⟨t, ht⟩ : ∃ t, t = m[k] := ⟨_, rfl⟩
    have HS : Hid (l.take (k + 1) = l.take k ++ [s]) := by rw [hs]; exact take_snoc l k hkl
    have HS2 : Hid (m.take (k + 1) = m.take k ++ [t]) := by rw [ht]; exact take_snoc m k hkm
    have HX : Hid (s ≠ t → l ≠ m) := by
     intro h1 h2
     subst h2
     exact h1 (hs.trans ht.symm)
    rw [← hs] at hc1
    rw [← ht] at hc3
    clear hs ht hcell hcell2 hkl hkm
    have hb := jM s t
    by_cases hst : s.data.toList = t.data.toList
    ·rw [decide_eq_true hst] at hb
     have HST := hid (Vt.1 hst)
     clear hst
     go_wp2_with fail
     go_quiet (fail)
     have hbq := eP.out.trans ((below_drewN' wr nq).mono eP.out.size)
     generalize wr.drewN nq = wq at hbq ⊢
     go_wp2
     go_roundw
     case rel => exact ⟨k + 1, by omega, by go_num, by show _ = _; rw [HS.out, HS2.out, HT.out, HST.out], hbq⟩
     case measure => simp [intOf]; omega
    ·rw [decide_eq_false hst] at hb
     have HE : Hid (decide (l = m) = false) := decide_eq_false (HX.out (fun h => hst (by rw [h])))
     clear hst
     go_wp2_with fail
     go_quiet (fail)
     have hbq := eP.out.trans ((below_drewN' wr nq).mono eP.out.size)
     generalize wr.drewN nq = wq at hbq ⊢
     go_wp2
     go_ret
     exact ⟨aj HE.out.symm, hbq⟩
   ·obtain rfl : k = n := by omega
    have HE : Hid (decide (l = m) = true) := decide_eq_true (by
     have h := HT.out
     rw [List.take_of_length_le (by rw [HN.out]; exact Nat.le_refl _), List.take_of_length_le (by rw [AV.out]; exact Nat.le_refl _)] at h
     exact h)
    go_wp2
    go_ret
    exact ⟨aj HE.out.symm, eP.out⟩
 ·have q1 : ((n : Int) == (n2 : Int)) = false := by simp; omega
  have q2 : ((n : Int) != (n2 : Int)) = true := by simp; omega
  have HE : Hid (decide (l = m) = false) := decide_eq_false (fun h => he (by rw [← HN.out, ← AV.out, h]))
  clear he
  go_enter Tryz.func138, Tryz.ntmps138
  go_wp2
  go_ret
  exact ⟨aj HE.out.symm, Below.refl _ _⟩
def spB (b6 c6 : Bool) (s7 t7 : ByteArray) (l m : List ByteArray) : Bool := if b6 || c6 then (b6 == c6) && decide (s7.data.toList = t7.data.toList) else decide (l = m)
theorem ND (as0 : ByteArray) (yZ : ByteArray) (zf : ByteArray) (zY : ByteArray) (pU : Bool) (zh : Int) (wH : Bool) (Ah : ByteArray) (aA : Option Addr) (an nT : Nat) (al : List ByteArray) (pV : Bool) (gK : Bool) (kN : ByteArray) (kP : ByteArray) (zn : ByteArray) (zo : ByteArray) (zq : ByteArray) (Aa : ByteArray) (zi : Bool) (zu : Int) (xR : Bool) (Ai : ByteArray) (bA : Option Addr) (bn nX : Nat) (bl : List ByteArray) (zk : Bool) (ku : Bool) (kQ : ByteArray) (kR : ByteArray) (w : World) (ahR : bK w aA an (al.map Value.string)) (Yp : an ≤ nT) (VY : nT ≤ maxLen) (bhR : bK w bA bn (bl.map Value.string)) (Yx : bn ≤ nX) (V5 : nX ≤ maxLen) :
  Calls Tryz.prog 74 #[.agg #[.string as0, .string yZ, .string zf, .string zY, .bool pU, .int .i64 zh, .bool wH, .string Ah, .slice aA an nT, .bool pV, .bool gK, .string kN, .string kP], .agg #[.string zn, .string zo, .string zq, .string Aa, .bool zi, .int .i64 zu, .bool xR, .string Ai, .slice bA bn nX, .bool zk, .bool ku, .string kQ, .string kR]] w fun e w' => e = .returned (.bool (spB wH xR Ah Ai al bl)) ∧ Below w.heap.size w w' := by
 have hb := jM Ah Ai
 obtain ⟨o, ho⟩ : ∃ o, o = decide (Ah.data.toList = Ai.data.toList) := ⟨_, rfl⟩
 rw [← ho] at hb
 have HO := hid ho
 clear ho
 have HR := hid ahR
 have HR2 := hid bhR
 clear ahR bhR
 have acm := VY
 have bcm := V5
 unfold maxLen at acm bcm
 have hbl : Below w.heap.size w ((w.alloc (.cells #[.string as0, .string yZ, .string zf, .string zY, .bool pU, .int .i64 zh, .bool wH, .string Ah, .slice aA an nT, .bool pV, .bool gK, .string kN, .string kP] 25)).alloc (.cells #[.string zn, .string zo, .string zq, .string Aa, .bool zi, .int .i64 zu, .bool xR, .string Ai, .slice bA bn nX, .bool zk, .bool ku, .string kQ, .string kR] 25)) := ((Below.refl _ _).alloc (Nat.le_refl _) _).alloc (by simp) _
 cases wH <;> cases xR
 ·go_enter Tryz.func74, Tryz.ntmps74
  go_wp2_with fail
  refine (Wq aA bA an bn nT nX al bl _ (HR.out.below (((Below.refl _ _).alloc (Nat.le_refl _) _).alloc (by simp) _)) (HR2.out.below (((Below.refl _ _).alloc (Nat.le_refl _) _).alloc (by simp) _)) Yp VY Yx V5).mono ?_
  rintro e w2 ⟨rfl, hb2⟩
  go_wp2
  go_ret
  exact ⟨rfl, (((Below.refl _ _).alloc (Nat.le_refl _) _).alloc (by simp) _).trans (hb2.mono (by simp; omega))⟩
 all_goals
  go_enter Tryz.func74, Tryz.ntmps74
  go_wp2
  go_ret
  refine ⟨aj ?_, ((Below.refl _ _).alloc (Nat.le_refl _) _).alloc (by simp) _⟩
  first | rfl | (unfold spB; rw [← HO.out]; rfl)
end Go.Proofs.YtmdofbccebkbiaaGreatDoor.UrlE
namespace Go.Proofs.YtmdofbccebkbiaaGreatDoor.Yk
open Go.RowKit Base aT bQ mY UrlE eH
theorem same_iff (as0 : ByteArray) (yZ : ByteArray) (zf : ByteArray) (zY : ByteArray) (pU : Bool) (zh : Int) (wH : Bool) (Ah : ByteArray) (aA : Option Addr) (an nT : Nat) (al : List ByteArray) (pV : Bool) (gK : Bool) (kN : ByteArray) (kP : ByteArray) (zn : ByteArray) (zo : ByteArray) (zq : ByteArray) (Aa : ByteArray) (zi : Bool) (zu : Int) (xR : Bool) (Ai : ByteArray) (bA : Option Addr) (bn nX : Nat) (bl : List ByteArray) (zk : Bool) (ku : Bool) (kQ : ByteArray) (kR : ByteArray) : qZ as0 yZ zf zY pU zh wH Ah al pV gK kN kP = qZ zn zo zq Aa zi zu xR Ai bl zk ku kQ kR ↔ (as0.data.toList = zn.data.toList ∧ yZ.data.toList = zo.data.toList ∧ zf.data.toList = zq.data.toList ∧ zh = zu ∧ txt pU zY = txt zi Aa ∧ spB wH xR Ah Ai al bl = true ∧ txt pV kN = txt zk kQ ∧ txt gK kP = txt ku kR) := by
 unfold qZ
 simp only [Prod.mk.injEq, List.cons.injEq, Option.some.injEq, and_true]
 cases wH <;> cases xR <;> simp [spB, txt] <;> constructor <;> (intro h; simp [h])
def Bx (w : World) (b : Nat) (c : Array Value) : Prop := w.heap[b]? = some (.cells c 25 (0, 0))
theorem Bx.cell {w : World} {b : Nat} {c : Array Value} (h : Bx w b c) (i : Nat) : w.cell? ⟨b, i, none⟩ = c[i]? := cell_of_row w b i _ _ _ h
theorem iE {w : World} {b : Nat} {v0 v1 v2 v3 v4 v5 v6 v7 v8 v9 v10 v11 v12 : Value} (h : Bx w b #[v0, v1, v2, v3, v4, v5, v6, v7, v8, v9, v10, v11, v12]) :
  w.cell? ⟨b, 0, none⟩ = some v0 ∧ w.cell? ⟨b, 1, none⟩ = some v1 ∧ w.cell? ⟨b, 2, none⟩ = some v2 ∧ w.cell? ⟨b, 3, none⟩ = some v3 ∧ w.cell? ⟨b, 4, none⟩ = some v4 ∧ w.cell? ⟨b, 5, none⟩ = some v5 ∧ w.cell? ⟨b, 6, none⟩ = some v6 ∧ w.cell? ⟨b, 7, none⟩ = some v7 ∧ w.cell? ⟨b, 8, none⟩ = some v8 ∧ w.cell? ⟨b, 9, none⟩ = some v9 ∧ w.cell? ⟨b, 10, none⟩ = some v10 ∧ w.cell? ⟨b, 11, none⟩ = some v11 ∧ w.cell? ⟨b, 12, none⟩ = some v12 :=
 ⟨(h.cell 0).trans rfl, (h.cell 1).trans rfl, (h.cell 2).trans rfl, (h.cell 3).trans rfl, (h.cell 4).trans rfl, (h.cell 5).trans rfl, (h.cell 6).trans rfl, (h.cell 7).trans rfl, (h.cell 8).trans rfl, (h.cell 9).trans rfl, (h.cell 10).trans rfl, (h.cell 11).trans rfl, (h.cell 12).trans rfl⟩
theorem aan (as0 : ByteArray) (yZ : ByteArray) (zf : ByteArray) (zY : ByteArray) (pU : Bool) (zh : Int) (wH : Bool) (Ah : ByteArray) (aA : Option Addr) (an nT : Nat) (al : List ByteArray) (pV : Bool) (gK : Bool) (kN : ByteArray) (kP : ByteArray) (zn : ByteArray) (zo : ByteArray) (zq : ByteArray) (Aa : ByteArray) (zi : Bool) (zu : Int) (xR : Bool) (Ai : ByteArray) (bA : Option Addr) (bn nX : Nat) (bl : List ByteArray) (zk : Bool) (ku : Bool) (kQ : ByteArray) (kR : ByteArray) (w : World) (ahR : bK w aA an (al.map Value.string)) (Yp : an ≤ nT) (VY : nT ≤ maxLen) (bhR : bK w bA bn (bl.map Value.string)) (Yx : bn ≤ nX) (V5 : nX ≤ maxLen) :
  Calls Tryz.prog 32 #[.agg #[.string as0, .string yZ, .string zf, .string zY, .bool pU, .int .i64 zh, .bool wH, .string Ah, .slice aA an nT, .bool pV, .bool gK, .string kN, .string kP], .agg #[.string zn, .string zo, .string zq, .string Aa, .bool zi, .int .i64 zu, .bool xR, .string Ai, .slice bA bn nX, .bool zk, .bool ku, .string kQ, .string kR]] w fun e w' => e = .returned (.bool (decide (qZ as0 yZ zf zY pU zh wH Ah al pV gK kN kP = qZ zn zo zq Aa zi zu xR Ai bl zk ku kQ kR))) ∧ Below w.heap.size w w' := by
 have HI := hid (same_iff as0 yZ zf zY pU zh wH Ah aA an nT al pV gK kN kP zn zo zq Aa zi zu xR Ai bA bn nX bl zk ku kQ kR)
 obtain ⟨E, hE⟩ : ∃ E, E = decide (qZ as0 yZ zf zY pU zh wH Ah al pV gK kN kP = qZ zn zo zq Aa zi zu xR Ai bl zk ku kQ kR) := ⟨_, rfl⟩
 rw [← hE]
 have HR := hid ahR
 have HR2 := hid bhR
 clear ahR bhR
 obtain ⟨o0, ho0⟩ : ∃ o, o = (as0.toList == zn.toList) := ⟨_, rfl⟩
 obtain ⟨o1, ho1⟩ : ∃ o, o = (yZ.toList == zo.toList) := ⟨_, rfl⟩
 obtain ⟨o2, ho2⟩ : ∃ o, o = (zf.toList == zq.toList) := ⟨_, rfl⟩
 obtain ⟨o3, ho3⟩ : ∃ o, o = (zh == zu) := ⟨_, rfl⟩
 obtain ⟨o4, XF⟩ : ∃ o, o = decide (txt pU zY = txt zi Aa) := ⟨_, rfl⟩
 obtain ⟨o5, Ia⟩ : ∃ o, o = spB wH xR Ah Ai al bl := ⟨_, rfl⟩
 obtain ⟨o6, N9⟩ : ∃ o, o = decide (txt pV kN = txt zk kQ) := ⟨_, rfl⟩
 obtain ⟨o7, ho7⟩ : ∃ o, o = decide (txt gK kP = txt ku kR) := ⟨_, rfl⟩
 obtain ⟨c1, hc1⟩ : ∃ c, c = (o0 && o1) := ⟨_, rfl⟩
 obtain ⟨c2, hc2⟩ : ∃ c, c = (c1 && o2) := ⟨_, rfl⟩
 obtain ⟨c3, hc3⟩ : ∃ c, c = (c2 && o3) := ⟨_, rfl⟩
 obtain ⟨c4, hc4⟩ : ∃ c, c = (c3 && o4) := ⟨_, rfl⟩
 obtain ⟨c5, hc5⟩ : ∃ c, c = (c4 && o5) := ⟨_, rfl⟩
 obtain ⟨c6, hc6⟩ : ∃ c, c = (c5 && o6) := ⟨_, rfl⟩
 obtain ⟨c7, Y9⟩ : ∃ c, c = (c6 && o7) := ⟨_, rfl⟩
 have HE : Hid (E = c7) := by
  show E = c7
  rw [hE, Y9, hc6, hc5, hc4, hc3, hc2, hc1, Bool.eq_iff_iff, decide_eq_true_iff, HI.out]
  simp only [Bool.and_eq_true, and_assoc]
  rw [ho0, ho1, ho2, ho3, XF, Ia, N9, ho7, jM, jM, jM]
  simp
 have HQ0 := hid ho0.symm
 have HQ1 := hid ho1.symm
 have HQ2 := hid ho2.symm
 have HQ3 := hid ho3.symm
 have H4 := hid XF
 have H5 := hid Ia
 have H6 := hid N9
 have H7 := hid ho7
 have HC1 := hid hc1
 have HC2 := hid hc2
 have HC3 := hid hc3
 have HC4 := hid hc4
 have HC5 := hid hc5
 have HC6 := hid hc6
 have HC7 := hid Y9
 clear ho0 ho1 ho2 ho3 XF Ia N9 ho7 hc1 hc2 hc3 hc4 hc5 hc6 Y9 hE HI
 have eP : Hid (Below w.heap.size w ((w.alloc (.cells #[.string as0, .string yZ, .string zf, .string zY, .bool pU, .int .i64 zh, .bool wH, .string Ah, .slice aA an nT, .bool pV, .bool gK, .string kN, .string kP] 25)).alloc (.cells #[.string zn, .string zo, .string zq, .string Aa, .bool zi, .int .i64 zu, .bool xR, .string Ai, .slice bA bn nX, .bool zk, .bool ku, .string kQ, .string kR] 25))) := (((Below.refl _ _).alloc (Nat.le_refl _) _).alloc (by simp) _)
 go_enter Tryz.func32, Tryz.ntmps32
 go_upto_region 1 with (fail)
 generalize hw0 : (w.alloc _).alloc _ = w0
 have HB0 : Hid (Below w.heap.size w w0) := by rw [← hw0]; exact eP.out
 have wZ : Hid (Bx w0 w.heap.size #[.string as0, .string yZ, .string zf, .string zY, .bool pU, .int .i64 zh, .bool wH, .string Ah, .slice aA an nT, .bool pV, .bool gK, .string kN, .string kP]) := by show _ = _; rw [← hw0]; exact (Below.block ((Below.refl (w.heap.size + 1) _).alloc (by simp) _) w.heap.size (by omega)).trans (heap_alloc_new w _)
 have mD : Hid (Bx w0 (w.heap.size + 1) #[.string zn, .string zo, .string zq, .string Aa, .bool zi, .int .i64 zu, .bool xR, .string Ai, .slice bA bn nX, .bool zk, .bool ku, .string kQ, .string kR]) := by show _ = _; rw [← hw0]; have := heap_alloc_new (w.alloc (.cells #[.string as0, .string yZ, .string zf, .string zY, .bool pU, .int .i64 zh, .bool wH, .string Ah, .slice aA an nT, .bool pV, .bool gK, .string kN, .string kP] 25)) (.cells #[.string zn, .string zo, .string zq, .string Aa, .bool zi, .int .i64 zu, .bool xR, .string Ai, .slice bA bn nX, .bool zk, .bool ku, .string kQ, .string kR] 25); simpa using this
 have hlt0 : w.heap.size + 1 < w0.heap.size := by rw [← hw0]; simp
 clear hw0 eP
 simp only [List.append_eq, List.cons_append, List.nil_append]
 refine sU [is (.pointer (some ⟨w.heap.size, 0, none⟩)), is (.string as0), is (.pointer (some ⟨w.heap.size + 1, 0, none⟩)), is (.string zn), is (.bool o0), is (.bool o0), fV (o0) (is (.pointer (some ⟨w.heap.size, 1, none⟩))), fV (o0) (is (.string yZ)), fV (o0) (is (.pointer (some ⟨w.heap.size + 1, 1, none⟩))), fV (o0) (is (.string zo)), fV (o0) (is (.bool o1)), is (.bool c1), is (.bool c1), fV (c1) (is (.pointer (some ⟨w.heap.size, 2, none⟩))), fV (c1) (is (.string zf)), fV (c1) (is (.pointer (some ⟨w.heap.size + 1, 2, none⟩))), fV (c1) (is (.string zq)), fV (c1) (is (.bool o2)), is (.bool c2), is (.bool c2), fV (c2) (is (.pointer (some ⟨w.heap.size, 5, none⟩))), fV (c2) (is (.int .i64 zh)), fV (c2) (is (.pointer (some ⟨w.heap.size + 1, 5, none⟩))), fV (c2) (is (.int .i64 zu)), fV (c2) (is (.bool o3)), is (.bool c3), is (.bool c3), fV (c3) (is (.pointer (some ⟨w.heap.size, 4, none⟩))), fV (c3) (is (.bool pU)), fV (c3) (is (.pointer (some ⟨w.heap.size + 1, 4, none⟩))), fV (c3) (is (.bool zi)), fV (c3) (is (.pointer (some ⟨w.heap.size, 3, none⟩))), fV (c3) (is (.string zY)), fV (c3) (is (.pointer (some ⟨w.heap.size + 1, 3, none⟩))), fV (c3) (is (.string Aa)), fV (c3) (is (.bool o4)), is (.bool c4), is (.bool c4), fV (c4) (is (.agg #[.string as0, .string yZ, .string zf, .string zY, .bool pU, .int .i64 zh, .bool wH, .string Ah, .slice aA an nT, .bool pV, .bool gK, .string kN, .string kP])), fV (c4) (is (.agg #[.string zn, .string zo, .string zq, .string Aa, .bool zi, .int .i64 zu, .bool xR, .string Ai, .slice bA bn nX, .bool zk, .bool ku, .string kQ, .string kR])), fV (c4) (is (.bool o5)), is (.bool c5), is (.bool c5), fV (c5) (is (.pointer (some ⟨w.heap.size, 9, none⟩))), fV (c5) (is (.bool pV)), fV (c5) (is (.pointer (some ⟨w.heap.size + 1, 9, none⟩))), fV (c5) (is (.bool zk)), fV (c5) (is (.pointer (some ⟨w.heap.size, 11, none⟩))), fV (c5) (is (.string kN)), fV (c5) (is (.pointer (some ⟨w.heap.size + 1, 11, none⟩))), fV (c5) (is (.string kQ)), fV (c5) (is (.bool o6)), is (.bool c6), is (.bool c6), fV (c6) (is (.pointer (some ⟨w.heap.size, 10, none⟩))), fV (c6) (is (.bool gK)), fV (c6) (is (.pointer (some ⟨w.heap.size + 1, 10, none⟩))), fV (c6) (is (.bool ku)), fV (c6) (is (.pointer (some ⟨w.heap.size, 12, none⟩))), fV (c6) (is (.string kP)), fV (c6) (is (.pointer (some ⟨w.heap.size + 1, 12, none⟩))), fV (c6) (is (.string kR)), fV (c6) (is (.bool o7)), is (.bool c7), is (.bool c7)] [[], [0], [], [2], [1, 3], [4], [5], [5, 6], [5], [5, 8], [5, 7, 9], [5, 10], [11], [12], [12, 13], [12], [12, 15], [12, 14, 16], [12, 17], [18], [19], [19, 20], [19], [19, 22], [19, 21, 23], [19, 24], [25], [26], [26, 27], [26], [26, 29], [26], [26, 31], [26], [26, 33], [26, 28, 30, 32, 34], [26, 35], [36], [37], [37], [37, 38, 39], [37, 40], [41], [42], [42, 43], [42], [42, 45], [42], [42, 47], [42], [42, 49], [42, 44, 46, 48, 50], [42, 51], [52], [53], [53, 54], [53], [53, 56], [53], [53, 58], [53], [53, 60], [53, 55, 57, 59, 61], [53, 62], [63]] (by kernel_rfl) ?_ ?_
 ·refine ⟨?_, ?_, ?_, ?_, ?_, ?_, ?_, ?_, ?_, ?_, ?_, ?_, ?_, ?_, ?_, ?_, ?_, ?_, ?_, ?_, ?_, ?_, ?_, ?_, ?_, ?_, ?_, ?_, ?_, ?_, ?_, ?_, ?_, ?_, ?_, ?_, ?_, ?_, ?_, ?_, ?_, ?_, ?_, ?_, ?_, ?_, ?_, ?_, ?_, ?_, ?_, ?_, ?_, ?_, ?_, ?_, ?_, ?_, ?_, ?_, ?_, ?_, ?_, ?_, ?_, trivial⟩
  all_goals (intro t wq hbq hh K hK; simp only [filled, aQ, upd, Have, is, any, row, pick, Act.put, List.setIfInBounds_toArray, List.set_cons_zero, List.set_cons_succ, Nat.reduceAdd, Nat.reduceEqDiff, reduceIte, fV, List.tail_cons, List.headD_cons] at hh hK ⊢)
  ·(try clear hh); go_simp; exact hK _ _ (Below.refl _ _) rfl
  ·simp only [hh] at hK ⊢; clear hh; have hc := (Bx.cell ((hbq.block _ (by omega)).trans wZ.out) 0).trans (show _ = some (.string as0) from rfl); go_simp; exact hK _ _ (Below.refl _ _) rfl
  ·(try clear hh); go_simp; exact hK _ _ (Below.refl _ _) rfl
  ·simp only [hh] at hK ⊢; clear hh; have hc := (Bx.cell ((hbq.block _ hlt0).trans mD.out) 0).trans (show _ = some (.string zn) from rfl); go_simp; exact hK _ _ (Below.refl _ _) rfl
  ·simp only [hh] at hK ⊢; clear hh; go_simp; exact hK _ _ (Below.refl _ _) (congrArg Value.bool HQ0.out)
  ·simp only [hh] at hK ⊢; clear hh; go_simp; exact hK _ _ (Below.refl _ _) rfl
  ·cases o0 with
   | true => simp only [hh] at hK ⊢; clear hh; go_simp; exact hK _ _ (Below.refl _ _) ⟨fun _ => rfl, fun h => by cases h⟩
   | false => simp only [hh] at hK ⊢; clear hh; go_simp; exact hK _ _ (Below.refl _ _) ⟨(fun h => by cases h), fun _ => rfl⟩
  ·cases o0 with
   | true => simp only [hh] at hK ⊢; clear hh; have hc := (Bx.cell ((hbq.block _ (by omega)).trans wZ.out) 1).trans (show _ = some (.string yZ) from rfl); go_simp; exact hK _ _ (Below.refl _ _) ⟨fun _ => rfl, fun h => by cases h⟩
   | false => simp only [hh] at hK ⊢; clear hh; go_simp; exact hK _ _ (Below.refl _ _) ⟨(fun h => by cases h), fun _ => rfl⟩
  ·cases o0 with
   | true => simp only [hh] at hK ⊢; clear hh; go_simp; exact hK _ _ (Below.refl _ _) ⟨fun _ => rfl, fun h => by cases h⟩
   | false => simp only [hh] at hK ⊢; clear hh; go_simp; exact hK _ _ (Below.refl _ _) ⟨(fun h => by cases h), fun _ => rfl⟩
  ·cases o0 with
   | true => simp only [hh] at hK ⊢; clear hh; have hc := (Bx.cell ((hbq.block _ hlt0).trans mD.out) 1).trans (show _ = some (.string zo) from rfl); go_simp; exact hK _ _ (Below.refl _ _) ⟨fun _ => rfl, fun h => by cases h⟩
   | false => simp only [hh] at hK ⊢; clear hh; go_simp; exact hK _ _ (Below.refl _ _) ⟨(fun h => by cases h), fun _ => rfl⟩
  ·cases o0 with
   | true => simp only [hh] at hK ⊢; clear hh; go_simp; exact hK _ _ (Below.refl _ _) ⟨fun _ => congrArg Value.bool HQ1.out, fun h => by cases h⟩
   | false => simp only [hh] at hK ⊢; clear hh; go_simp; exact hK _ _ (Below.refl _ _) ⟨(fun h => by cases h), fun _ => rfl⟩
  ·cases o0 with
   | true => simp only [hh] at hK ⊢; clear hh; go_simp; exact hK _ _ (Below.refl _ _) (by show _ = _; rw [HC1.out]; simp)
   | false => simp only [hh] at hK ⊢; clear hh; go_simp; exact hK _ _ (Below.refl _ _) (by show _ = _; rw [HC1.out]; simp)
  ·simp only [hh] at hK ⊢; clear hh; go_simp; exact hK _ _ (Below.refl _ _) rfl
  ·cases c1 with
   | true => simp only [hh] at hK ⊢; clear hh; go_simp; exact hK _ _ (Below.refl _ _) ⟨fun _ => rfl, fun h => by cases h⟩
   | false => simp only [hh] at hK ⊢; clear hh; go_simp; exact hK _ _ (Below.refl _ _) ⟨(fun h => by cases h), fun _ => rfl⟩
  ·cases c1 with
   | true => simp only [hh] at hK ⊢; clear hh; have hc := (Bx.cell ((hbq.block _ (by omega)).trans wZ.out) 2).trans (show _ = some (.string zf) from rfl); go_simp; exact hK _ _ (Below.refl _ _) ⟨fun _ => rfl, fun h => by cases h⟩
   | false => simp only [hh] at hK ⊢; clear hh; go_simp; exact hK _ _ (Below.refl _ _) ⟨(fun h => by cases h), fun _ => rfl⟩
  ·cases c1 with
   | true => simp only [hh] at hK ⊢; clear hh; go_simp; exact hK _ _ (Below.refl _ _) ⟨fun _ => rfl, fun h => by cases h⟩
   | false => simp only [hh] at hK ⊢; clear hh; go_simp; exact hK _ _ (Below.refl _ _) ⟨(fun h => by cases h), fun _ => rfl⟩
  ·cases c1 with
   | true => simp only [hh] at hK ⊢; clear hh; have hc := (Bx.cell ((hbq.block _ hlt0).trans mD.out) 2).trans (show _ = some (.string zq) from rfl); go_simp; exact hK _ _ (Below.refl _ _) ⟨fun _ => rfl, fun h => by cases h⟩
   | false => simp only [hh] at hK ⊢; clear hh; go_simp; exact hK _ _ (Below.refl _ _) ⟨(fun h => by cases h), fun _ => rfl⟩
  ·cases c1 with
   | true => simp only [hh] at hK ⊢; clear hh; go_simp; exact hK _ _ (Below.refl _ _) ⟨fun _ => congrArg Value.bool HQ2.out, fun h => by cases h⟩
   | false => simp only [hh] at hK ⊢; clear hh; go_simp; exact hK _ _ (Below.refl _ _) ⟨(fun h => by cases h), fun _ => rfl⟩
  ·cases c1 with
   | true => simp only [hh] at hK ⊢; clear hh; go_simp; exact hK _ _ (Below.refl _ _) (by show _ = _; rw [HC2.out]; simp)
   | false => simp only [hh] at hK ⊢; clear hh; go_simp; exact hK _ _ (Below.refl _ _) (by show _ = _; rw [HC2.out]; simp)
  ·simp only [hh] at hK ⊢; clear hh; go_simp; exact hK _ _ (Below.refl _ _) rfl
  ·cases c2 with
   | true => simp only [hh] at hK ⊢; clear hh; go_simp; exact hK _ _ (Below.refl _ _) ⟨fun _ => rfl, fun h => by cases h⟩
   | false => simp only [hh] at hK ⊢; clear hh; go_simp; exact hK _ _ (Below.refl _ _) ⟨(fun h => by cases h), fun _ => rfl⟩
  ·cases c2 with
   | true => simp only [hh] at hK ⊢; clear hh; have hc := (Bx.cell ((hbq.block _ (by omega)).trans wZ.out) 5).trans (show _ = some (.int .i64 zh) from rfl); go_simp; exact hK _ _ (Below.refl _ _) ⟨fun _ => rfl, fun h => by cases h⟩
   | false => simp only [hh] at hK ⊢; clear hh; go_simp; exact hK _ _ (Below.refl _ _) ⟨(fun h => by cases h), fun _ => rfl⟩
  ·cases c2 with
   | true => simp only [hh] at hK ⊢; clear hh; go_simp; exact hK _ _ (Below.refl _ _) ⟨fun _ => rfl, fun h => by cases h⟩
   | false => simp only [hh] at hK ⊢; clear hh; go_simp; exact hK _ _ (Below.refl _ _) ⟨(fun h => by cases h), fun _ => rfl⟩
  ·cases c2 with
   | true => simp only [hh] at hK ⊢; clear hh; have hc := (Bx.cell ((hbq.block _ hlt0).trans mD.out) 5).trans (show _ = some (.int .i64 zu) from rfl); go_simp; exact hK _ _ (Below.refl _ _) ⟨fun _ => rfl, fun h => by cases h⟩
   | false => simp only [hh] at hK ⊢; clear hh; go_simp; exact hK _ _ (Below.refl _ _) ⟨(fun h => by cases h), fun _ => rfl⟩
  ·cases c2 with
   | true => simp only [hh] at hK ⊢; clear hh; go_simp; exact hK _ _ (Below.refl _ _) ⟨fun _ => congrArg Value.bool HQ3.out, fun h => by cases h⟩
   | false => simp only [hh] at hK ⊢; clear hh; go_simp; exact hK _ _ (Below.refl _ _) ⟨(fun h => by cases h), fun _ => rfl⟩
  ·cases c2 with
   | true => simp only [hh] at hK ⊢; clear hh; go_simp; exact hK _ _ (Below.refl _ _) (by show _ = _; rw [HC3.out]; simp)
   | false => simp only [hh] at hK ⊢; clear hh; go_simp; exact hK _ _ (Below.refl _ _) (by show _ = _; rw [HC3.out]; simp)
  ·simp only [hh] at hK ⊢; clear hh; go_simp; exact hK _ _ (Below.refl _ _) rfl
  ·cases c3 with
   | true => simp only [hh] at hK ⊢; clear hh; go_simp; exact hK _ _ (Below.refl _ _) ⟨fun _ => rfl, fun h => by cases h⟩
   | false => simp only [hh] at hK ⊢; clear hh; go_simp; exact hK _ _ (Below.refl _ _) ⟨(fun h => by cases h), fun _ => rfl⟩
  ·cases c3 with
   | true => simp only [hh] at hK ⊢; clear hh; have hc := (Bx.cell ((hbq.block _ (by omega)).trans wZ.out) 4).trans (show _ = some (.bool pU) from rfl); go_simp; exact hK _ _ (Below.refl _ _) ⟨fun _ => rfl, fun h => by cases h⟩
   | false => simp only [hh] at hK ⊢; clear hh; go_simp; exact hK _ _ (Below.refl _ _) ⟨(fun h => by cases h), fun _ => rfl⟩
  ·cases c3 with
   | true => simp only [hh] at hK ⊢; clear hh; go_simp; exact hK _ _ (Below.refl _ _) ⟨fun _ => rfl, fun h => by cases h⟩
   | false => simp only [hh] at hK ⊢; clear hh; go_simp; exact hK _ _ (Below.refl _ _) ⟨(fun h => by cases h), fun _ => rfl⟩
  ·cases c3 with
   | true => simp only [hh] at hK ⊢; clear hh; have hc := (Bx.cell ((hbq.block _ hlt0).trans mD.out) 4).trans (show _ = some (.bool zi) from rfl); go_simp; exact hK _ _ (Below.refl _ _) ⟨fun _ => rfl, fun h => by cases h⟩
   | false => simp only [hh] at hK ⊢; clear hh; go_simp; exact hK _ _ (Below.refl _ _) ⟨(fun h => by cases h), fun _ => rfl⟩
  ·cases c3 with
   | true => simp only [hh] at hK ⊢; clear hh; go_simp; exact hK _ _ (Below.refl _ _) ⟨fun _ => rfl, fun h => by cases h⟩
   | false => simp only [hh] at hK ⊢; clear hh; go_simp; exact hK _ _ (Below.refl _ _) ⟨(fun h => by cases h), fun _ => rfl⟩
  ·cases c3 with
   | true => simp only [hh] at hK ⊢; clear hh; have hc := (Bx.cell ((hbq.block _ (by omega)).trans wZ.out) 3).trans (show _ = some (.string zY) from rfl); go_simp; exact hK _ _ (Below.refl _ _) ⟨fun _ => rfl, fun h => by cases h⟩
   | false => simp only [hh] at hK ⊢; clear hh; go_simp; exact hK _ _ (Below.refl _ _) ⟨(fun h => by cases h), fun _ => rfl⟩
  ·cases c3 with
   | true => simp only [hh] at hK ⊢; clear hh; go_simp; exact hK _ _ (Below.refl _ _) ⟨fun _ => rfl, fun h => by cases h⟩
   | false => simp only [hh] at hK ⊢; clear hh; go_simp; exact hK _ _ (Below.refl _ _) ⟨(fun h => by cases h), fun _ => rfl⟩
  ·cases c3 with
   | true => simp only [hh] at hK ⊢; clear hh; have hc := (Bx.cell ((hbq.block _ hlt0).trans mD.out) 3).trans (show _ = some (.string Aa) from rfl); go_simp; exact hK _ _ (Below.refl _ _) ⟨fun _ => rfl, fun h => by cases h⟩
   | false => simp only [hh] at hK ⊢; clear hh; go_simp; exact hK _ _ (Below.refl _ _) ⟨(fun h => by cases h), fun _ => rfl⟩
  ·cases c3 with
   | true => simp only [hh] at hK ⊢; clear hh; go_simp; refine (wo _ _ _ _ _).mono ?_; rintro e w5 ⟨rfl, hw⟩; subst hw; rw [← H4.out]; exact hK _ _ (Below.refl _ _) ⟨fun _ => rfl, fun h => by cases h⟩
   | false => simp only [hh] at hK ⊢; clear hh; go_simp; exact hK _ _ (Below.refl _ _) ⟨(fun h => by cases h), fun _ => rfl⟩
  ·cases c3 with
   | true => simp only [hh] at hK ⊢; clear hh; go_simp; exact hK _ _ (Below.refl _ _) (by show _ = _; rw [HC4.out]; simp)
   | false => simp only [hh] at hK ⊢; clear hh; go_simp; exact hK _ _ (Below.refl _ _) (by show _ = _; rw [HC4.out]; simp)
  ·simp only [hh] at hK ⊢; clear hh; go_simp; exact hK _ _ (Below.refl _ _) rfl
  ·cases c4 with
   | true => simp only [hh] at hK ⊢; clear hh; have hx := (hbq.block _ (by omega)).trans wZ.out; obtain ⟨cc0, cc1, cc2, cc3, cc4, cc5, cc6, cc7, cc8, cc9, cc10, cc11, cc12⟩ := iE hx; clear hx; go_simp; exact hK _ _ (Below.refl _ _) ⟨fun _ => rfl, fun h => by cases h⟩
   | false => simp only [hh] at hK ⊢; clear hh; go_simp; exact hK _ _ (Below.refl _ _) ⟨(fun h => by cases h), fun _ => rfl⟩
  ·cases c4 with
   | true => simp only [hh] at hK ⊢; clear hh; have hx := (hbq.block _ hlt0).trans mD.out; obtain ⟨cc0, cc1, cc2, cc3, cc4, cc5, cc6, cc7, cc8, cc9, cc10, cc11, cc12⟩ := iE hx; clear hx; go_simp; exact hK _ _ (Below.refl _ _) ⟨fun _ => rfl, fun h => by cases h⟩
   | false => simp only [hh] at hK ⊢; clear hh; go_simp; exact hK _ _ (Below.refl _ _) ⟨(fun h => by cases h), fun _ => rfl⟩
  ·cases c4 with
   | true => simp only [hh] at hK ⊢; clear hh; go_simp; refine (ND as0 yZ zf zY pU zh wH Ah aA an nT al pV gK kN kP zn zo zq Aa zi zu xR Ai bA bn nX bl zk ku kQ kR _ (HR.out.below (HB0.out.trans (hbq.mono HB0.out.size))) Yp VY (HR2.out.below (HB0.out.trans (hbq.mono HB0.out.size))) Yx V5).mono ?_; rintro e w5 ⟨rfl, hb5⟩; rw [← H5.out]; exact hK _ _ hb5 ⟨fun _ => rfl, fun h => by cases h⟩
   | false => simp only [hh] at hK ⊢; clear hh; go_simp; exact hK _ _ (Below.refl _ _) ⟨(fun h => by cases h), fun _ => rfl⟩
  ·cases c4 with
   | true => simp only [hh] at hK ⊢; clear hh; go_simp; exact hK _ _ (Below.refl _ _) (by show _ = _; rw [HC5.out]; simp)
   | false => simp only [hh] at hK ⊢; clear hh; go_simp; exact hK _ _ (Below.refl _ _) (by show _ = _; rw [HC5.out]; simp)
  ·simp only [hh] at hK ⊢; clear hh; go_simp; exact hK _ _ (Below.refl _ _) rfl
  ·cases c5 with
   | true => simp only [hh] at hK ⊢; clear hh; go_simp; exact hK _ _ (Below.refl _ _) ⟨fun _ => rfl, fun h => by cases h⟩
   | false => simp only [hh] at hK ⊢; clear hh; go_simp; exact hK _ _ (Below.refl _ _) ⟨(fun h => by cases h), fun _ => rfl⟩
  ·cases c5 with
   | true => simp only [hh] at hK ⊢; clear hh; have hc := (Bx.cell ((hbq.block _ (by omega)).trans wZ.out) 9).trans (show _ = some (.bool pV) from rfl); go_simp; exact hK _ _ (Below.refl _ _) ⟨fun _ => rfl, fun h => by cases h⟩
   | false => simp only [hh] at hK ⊢; clear hh; go_simp; exact hK _ _ (Below.refl _ _) ⟨(fun h => by cases h), fun _ => rfl⟩
  ·cases c5 with
   | true => simp only [hh] at hK ⊢; clear hh; go_simp; exact hK _ _ (Below.refl _ _) ⟨fun _ => rfl, fun h => by cases h⟩
   | false => simp only [hh] at hK ⊢; clear hh; go_simp; exact hK _ _ (Below.refl _ _) ⟨(fun h => by cases h), fun _ => rfl⟩
  ·cases c5 with
   | true => simp only [hh] at hK ⊢; clear hh; have hc := (Bx.cell ((hbq.block _ hlt0).trans mD.out) 9).trans (show _ = some (.bool zk) from rfl); go_simp; exact hK _ _ (Below.refl _ _) ⟨fun _ => rfl, fun h => by cases h⟩
   | false => simp only [hh] at hK ⊢; clear hh; go_simp; exact hK _ _ (Below.refl _ _) ⟨(fun h => by cases h), fun _ => rfl⟩
  ·cases c5 with
   | true => simp only [hh] at hK ⊢; clear hh; go_simp; exact hK _ _ (Below.refl _ _) ⟨fun _ => rfl, fun h => by cases h⟩
   | false => simp only [hh] at hK ⊢; clear hh; go_simp; exact hK _ _ (Below.refl _ _) ⟨(fun h => by cases h), fun _ => rfl⟩
  ·cases c5 with
   | true => simp only [hh] at hK ⊢; clear hh; have hc := (Bx.cell ((hbq.block _ (by omega)).trans wZ.out) 11).trans (show _ = some (.string kN) from rfl); go_simp; exact hK _ _ (Below.refl _ _) ⟨fun _ => rfl, fun h => by cases h⟩
   | false => simp only [hh] at hK ⊢; clear hh; go_simp; exact hK _ _ (Below.refl _ _) ⟨(fun h => by cases h), fun _ => rfl⟩
  ·cases c5 with
   | true => simp only [hh] at hK ⊢; clear hh; go_simp; exact hK _ _ (Below.refl _ _) ⟨fun _ => rfl, fun h => by cases h⟩
   | false => simp only [hh] at hK ⊢; clear hh; go_simp; exact hK _ _ (Below.refl _ _) ⟨(fun h => by cases h), fun _ => rfl⟩
  ·cases c5 with
   | true => simp only [hh] at hK ⊢; clear hh; have hc := (Bx.cell ((hbq.block _ hlt0).trans mD.out) 11).trans (show _ = some (.string kQ) from rfl); go_simp; exact hK _ _ (Below.refl _ _) ⟨fun _ => rfl, fun h => by cases h⟩
   | false => simp only [hh] at hK ⊢; clear hh; go_simp; exact hK _ _ (Below.refl _ _) ⟨(fun h => by cases h), fun _ => rfl⟩
  ·cases c5 with
   | true => simp only [hh] at hK ⊢; clear hh; go_simp; refine (wo _ _ _ _ _).mono ?_; rintro e w5 ⟨rfl, hw⟩; subst hw; rw [← H6.out]; exact hK _ _ (Below.refl _ _) ⟨fun _ => rfl, fun h => by cases h⟩
   | false => simp only [hh] at hK ⊢; clear hh; go_simp; exact hK _ _ (Below.refl _ _) ⟨(fun h => by cases h), fun _ => rfl⟩
  ·cases c5 with
   | true => simp only [hh] at hK ⊢; clear hh; go_simp; exact hK _ _ (Below.refl _ _) (by show _ = _; rw [HC6.out]; simp)
   | false => simp only [hh] at hK ⊢; clear hh; go_simp; exact hK _ _ (Below.refl _ _) (by show _ = _; rw [HC6.out]; simp)
  ·simp only [hh] at hK ⊢; clear hh; go_simp; exact hK _ _ (Below.refl _ _) rfl
  ·cases c6 with
   | true => simp only [hh] at hK ⊢; clear hh; go_simp; exact hK _ _ (Below.refl _ _) ⟨fun _ => rfl, fun h => by cases h⟩
   | false => simp only [hh] at hK ⊢; clear hh; go_simp; exact hK _ _ (Below.refl _ _) ⟨(fun h => by cases h), fun _ => rfl⟩
  ·cases c6 with
   | true => simp only [hh] at hK ⊢; clear hh; have hc := (Bx.cell ((hbq.block _ (by omega)).trans wZ.out) 10).trans (show _ = some (.bool gK) from rfl); go_simp; exact hK _ _ (Below.refl _ _) ⟨fun _ => rfl, fun h => by cases h⟩
   | false => simp only [hh] at hK ⊢; clear hh; go_simp; exact hK _ _ (Below.refl _ _) ⟨(fun h => by cases h), fun _ => rfl⟩
  ·cases c6 with
   | true => simp only [hh] at hK ⊢; clear hh; go_simp; exact hK _ _ (Below.refl _ _) ⟨fun _ => rfl, fun h => by cases h⟩
   | false => simp only [hh] at hK ⊢; clear hh; go_simp; exact hK _ _ (Below.refl _ _) ⟨(fun h => by cases h), fun _ => rfl⟩
  ·cases c6 with
   | true => simp only [hh] at hK ⊢; clear hh; have hc := (Bx.cell ((hbq.block _ hlt0).trans mD.out) 10).trans (show _ = some (.bool ku) from rfl); go_simp; exact hK _ _ (Below.refl _ _) ⟨fun _ => rfl, fun h => by cases h⟩
   | false => simp only [hh] at hK ⊢; clear hh; go_simp; exact hK _ _ (Below.refl _ _) ⟨(fun h => by cases h), fun _ => rfl⟩
  ·cases c6 with
   | true => simp only [hh] at hK ⊢; clear hh; go_simp; exact hK _ _ (Below.refl _ _) ⟨fun _ => rfl, fun h => by cases h⟩
   | false => simp only [hh] at hK ⊢; clear hh; go_simp; exact hK _ _ (Below.refl _ _) ⟨(fun h => by cases h), fun _ => rfl⟩
  ·cases c6 with
   | true => simp only [hh] at hK ⊢; clear hh; have hc := (Bx.cell ((hbq.block _ (by omega)).trans wZ.out) 12).trans (show _ = some (.string kP) from rfl); go_simp; exact hK _ _ (Below.refl _ _) ⟨fun _ => rfl, fun h => by cases h⟩
   | false => simp only [hh] at hK ⊢; clear hh; go_simp; exact hK _ _ (Below.refl _ _) ⟨(fun h => by cases h), fun _ => rfl⟩
  ·cases c6 with
   | true => simp only [hh] at hK ⊢; clear hh; go_simp; exact hK _ _ (Below.refl _ _) ⟨fun _ => rfl, fun h => by cases h⟩
   | false => simp only [hh] at hK ⊢; clear hh; go_simp; exact hK _ _ (Below.refl _ _) ⟨(fun h => by cases h), fun _ => rfl⟩
  ·cases c6 with
   | true => simp only [hh] at hK ⊢; clear hh; have hc := (Bx.cell ((hbq.block _ hlt0).trans mD.out) 12).trans (show _ = some (.string kR) from rfl); go_simp; exact hK _ _ (Below.refl _ _) ⟨fun _ => rfl, fun h => by cases h⟩
   | false => simp only [hh] at hK ⊢; clear hh; go_simp; exact hK _ _ (Below.refl _ _) ⟨(fun h => by cases h), fun _ => rfl⟩
  ·cases c6 with
   | true => simp only [hh] at hK ⊢; clear hh; go_simp; refine (wo _ _ _ _ _).mono ?_; rintro e w5 ⟨rfl, hw⟩; subst hw; rw [← H7.out]; exact hK _ _ (Below.refl _ _) ⟨fun _ => rfl, fun h => by cases h⟩
   | false => simp only [hh] at hK ⊢; clear hh; go_simp; exact hK _ _ (Below.refl _ _) ⟨(fun h => by cases h), fun _ => rfl⟩
  ·cases c6 with
   | true => simp only [hh] at hK ⊢; clear hh; go_simp; exact hK _ _ (Below.refl _ _) (by show _ = _; rw [HC7.out]; simp)
   | false => simp only [hh] at hK ⊢; clear hh; go_simp; exact hK _ _ (Below.refl _ _) (by show _ = _; rw [HC7.out]; simp)
  ·simp only [hh] at hK ⊢; clear hh; go_simp; exact hK _ _ (Below.refl _ _) rfl
 ·intro t wq hbq hh
  have f64 := aG hh 64 (by decide)
  simp only [pick] at f64
  replace f64 : t 64 = (.bool c7) := f64
  clear hh
  simp only [List.length_cons, List.length_nil, Nat.reduceAdd, filled, aQ, upd, Have, is, any, row, pick, Act.put, List.setIfInBounds_toArray, List.set_cons_zero, List.set_cons_succ, Nat.reduceAdd, Nat.reduceEqDiff, reduceIte, fV]
  simp only [f64]
  go_wp2
  go_ret
  exact ⟨aj HE.out.symm, HB0.out.trans (hbq.mono HB0.out.size)⟩
end Go.Proofs.YtmdofbccebkbiaaGreatDoor.Yk
namespace Go.Proofs.YtmdofbccebkbiaaGreatDoor.XI
open Go.RowKit Base aT Oa
theorem rD (B b : Nat) (l : List UInt8) (w : World) (h : mg B b l w) (hBw : B ≤ w.heap.size) :
  Calls Tryz.prog 62 #[.pointer (some ⟨b, 0, none⟩)] w fun e w' => e = .returned (.string (strOf l)) ∧ Below B w w' := Tryz.Builder_String B b l w h hBw
theorem iw {B b : Nat} {l : List UInt8} {w w' : World} (h : mg B b l w) (hb : Below w.heap.size w w') : mg B b l w' := by
 rcases h with ⟨h1, v, h2, h3, h4⟩ | ⟨h1, v, h2, h3, h4⟩
 ·exact Or.inl ⟨h1, v, (hb.block _ (Array.getElem?_eq_some_iff.1 h2).1).trans h2, aK h3 hb, h4⟩
 ·exact Or.inr ⟨h1, v, (hb.block _ (Array.getElem?_eq_some_iff.1 h2).1).trans h2, aK h3 hb, h4⟩
end Go.Proofs.YtmdofbccebkbiaaGreatDoor.XI
