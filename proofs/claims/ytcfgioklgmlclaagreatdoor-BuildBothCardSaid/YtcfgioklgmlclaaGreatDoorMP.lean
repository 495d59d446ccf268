/- Texts that belong together: aao, UrlB, Uu, UrlE, UrlF, BldK. -/
import Derived.Test.YtcfgioklgmlclaaGreatDoorMA
import Derived.Shelf.Strings.Builder1
import Derived.Test.YtcfgioklgmlclaaGreatDoorME
import Derived.Test.YtcfgioklgmlclaaGreatDoorShelf
import Derived.Deep.DeepCutAuto
import Derived.BigQuiet
set_option linter.unusedSimpArgs false
set_option linter.unusedVariables false
set_option maxRecDepth 100000
set_option maxHeartbeats 64000000
namespace Go.Proofs.YtcfgioklgmlclaaGreatDoor.aao
open Go.RowKit Base aP
theorem sizeB : (Tryz.prog.info? 87).map (·.size) = some 2 := by kernel_rfl
theorem liesB : liesAt Tryz.prog Tryz.prog.depth 87 (2 / Tryz.prog.cellsOf 87) 0 87 1 = true := by kernel_rfl
abbrev AB (B b : Nat) (l : List UInt8) (w : World) : Prop := Lib.IsBuilder 87 5 B b (Lib.byteCells l) w
theorem Hu (b : Nat) (w : World) (h0 : w.cell? ⟨b, 0, none⟩ = some (.pointer (some ⟨b, 0, none⟩))) :
  Calls Tryz.prog 117 #[.pointer (some ⟨b, 0, none⟩)] w fun e w' => e = .returned (.tuple #[]) ∧ w' = w := by
 obtain ⟨j, hj, _⟩ := Option.map_eq_some_iff.1 sizeB
 go_enter Tryz.func117, Tryz.ntmps117
 go_wp2
 rw [Lib.run_neq_ptr_same w _ Tryz.underlying85 hj]
 go_wp2
 go_end0
 exact ⟨rfl, rfl⟩
theorem Fq (b : Nat) (w : World) (h0 : w.cell? ⟨b, 0, none⟩ = some (.pointer none)) (hsh : w.shape? b = some (87, 2)) (hfz : w.frozen? ⟨b, 0, none⟩ = false) :
  Calls Tryz.prog 117 #[.pointer (some ⟨b, 0, none⟩)] w fun e w' => e = .returned (.tuple #[]) ∧ w' = w.setCell ⟨b, 0, none⟩ (.pointer (some ⟨b, 0, none⟩)) := by
 obtain ⟨j, hj, hjs⟩ := Option.map_eq_some_iff.1 sizeB
 go_enter Tryz.func117, Tryz.ntmps117
 go_wp2
 rw [Lib.run_to_unsafe w ⟨b, 0, none⟩ Tryz.underlying85 Tryz.underlying157 hj (by rw [hjs]; decide) hsh (Nat.zero_lt_succ 1)]
 simp only [Result.andThen]
 rw [Oper.upon_value]
 go_wp2
 rw [run_callFunc_extern Tryz.func168 (by kernel_rfl) (by kernel_rfl) (by kernel_rfl) (e := Extern.AbiNoEscape.same) (by kernel_rfl)]
 rw [Lib.run_noEscape]
 simp only [Result.andThen]
 rw [Oper.upon_value]
 go_wp2
 rw [Lib.run_from_unsafe w ⟨b, 0, none⟩ Tryz.underlying157 Tryz.underlying85 hj hsh liesB]
 simp only [Result.andThen]
 rw [Oper.upon_value]
 go_wp2
 go_end0
 exact ⟨rfl, rfl⟩
theorem check_any (B b : Nat) (bs : List Value) (w : World) (h : Lib.IsBuilder 87 5 B b bs w) :
  Calls Tryz.prog 117 #[.pointer (some ⟨b, 0, none⟩)] w fun e w' => e = .returned (.tuple #[]) ∧ (Lib.BuilderAt 87 5 B b (.pointer (some ⟨b, 0, none⟩)) bs w' ∧ Below B w w') := by
 rcases h with h | h
 ·refine (Fq b w h.cell0 h.shape h.frozen0).mono ?_
  rintro e w' ⟨rfl, rfl⟩
  exact ⟨rfl, h.used _, (Below.refl B w).setCell (p := ⟨b, 0, none⟩) h.1 _⟩
 ·refine (Hu b w h.cell0).mono ?_
  rintro e w' ⟨rfl, rfl⟩
  exact ⟨rfl, h, Below.refl B _⟩
theorem write_any (B b : Nat) (l : List UInt8) (s : ByteArray) (w : World) (h : AB B b l w) (hlen : l.length + s.size ≤ 140737488355328) (hBw : B ≤ w.heap.size) :
  Calls Tryz.prog 62 #[.pointer (some ⟨b, 0, none⟩), .string s] w fun e w' => e = .returned (.tuple #[.int .i64 s.size, .nilIface]) ∧ AB B b (l ++ s.data.toList) w' ∧ Below B w w' := by
 obtain ⟨i0, hi, hz0, hz1, hz2⟩ := info_parts jU
 have hlb : (Lib.byteCells l).length = l.length := by simp [Lib.byteCells]
 have Wv := Base.hid hlb
 clear hlb
 go_enter Tryz.func62, Tryz.ntmps62
 go_wp2_with (refine (check_any B b _ _ h).mono ?_)
 rintro e w1 ⟨rfl, h1, hb1⟩
 obtain ⟨hB, v, hbk, hown, hne⟩ := h1
 have c0 : w1.cell? ⟨b, 0, none⟩ = some (.pointer (some ⟨b, 0, none⟩)) := by rw [Lib.cell_of_heap hbk]; rfl
 have c1 : w1.cell? ⟨b, 1, none⟩ = some v := by rw [Lib.cell_of_heap hbk]; rfl
 go_wp2_with (at_builtin; refine Lib.wpList_append_own_string _ rfl _ _ 30 9 rfl B 5 i0 Tryz.underlying30 Tryz.underlying9 hi hz0 hz1 hz2 _ _ _ rfl hown s rfl ?c3 ?c4 ?c5 ?_)
 case c3 => have := Wv.out; unfold maxLen; omega
 case c4 => have := Wv.out; omega
 case c5 => have := hb1.size; omega
 intro v' w2 hown' hgrow _
 have hlt : b < w1.heap.size := (Array.getElem?_eq_some_iff.1 hbk).1
 have hb2 : w2.heap[b]? = some (.cells #[.pointer (some ⟨b, 0, none⟩), v] 87 (0, 0)) := by
  rw [hgrow.block b hlt (fun e => hne e.symm)]
  exact hbk
 have d0 : w2.cell? ⟨b, 0, none⟩ = some (.pointer (some ⟨b, 0, none⟩)) := by rw [Lib.cell_of_heap hb2]; rfl
 have d1 : w2.cell? ⟨b, 1, none⟩ = some v := by rw [Lib.cell_of_heap hb2]; rfl
 have f1 : w2.frozen? ⟨b, 1, none⟩ = false := Lib.frozen_of_heap hb2 1
 obtain ⟨ao, n', cap, rfl⟩ : ∃ ao n' cap, v' = .slice ao n' cap := by
  rcases hown'.2 with ⟨hv, _⟩ | ⟨g, cap, cur, hv, _⟩
  ·exact ⟨_, _, _, hv⟩
  ·exact ⟨_, _, _, hv⟩
 go_wp2
 go_ret2
 refine ⟨rfl, Or.inr ?_, ?_⟩
 ·have hp := Lib.BuilderAt.put (T := 87) (e := 5) hB hb2 (bs' := Lib.byteCells l ++ Lib.strCells s) (by simpa [Lib.strCells_length] using hown') (by decide)
  have e : Lib.byteCells (l ++ s.data.toList) = Lib.byteCells l ++ Lib.strCells s := by simp [Lib.byteCells, Lib.strCells]
  rw [e]
  exact hp
 ·exact (hb1.grown hgrow (by have := hb1.size; omega) (fun k hk => (hown.lt k hk).1)).setCell (p := ⟨b, 1, none⟩) hB _
end Go.Proofs.YtcfgioklgmlclaaGreatDoor.aao
namespace Go.Proofs.YtcfgioklgmlclaaGreatDoor.UrlB
open Go.RowKit Base aP dD aao
theorem qZ (B b : Nat) (l : List UInt8) (w : World) (h : AB B b l w) (hBw : B ≤ w.heap.size) :
  Calls Tryz.prog 66 #[.pointer (some ⟨b, 0, none⟩)] w fun e w' => e = .returned (.string (strOf l)) ∧ Below B w w' := Tryz.Builder_String B b l w h hBw
theorem abm (s0 : ByteArray) (s1 : ByteArray) (s2 : ByteArray) (s3 : ByteArray) (b4 : Bool) (z5 : Int) (b6 : Bool) (s7 : ByteArray) (A : Option Addr) (n cap : Nat) (l : List ByteArray) (b9 : Bool) (b10 : Bool) (s11 : ByteArray) (s12 : ByteArray) (w : World) (h1 : s1.size ≤ 1073741824) (h2 : s2.size ≤ 1073741824) :
  Calls Tryz.prog 63 #[.agg #[.string s0, .string s1, .string s2, .string s3, .bool b4, .int .i64 z5, .bool b6, .string s7, .slice A n cap, .bool b9, .bool b10, .string s11, .string s12]] w fun e w' => e = .returned (.string (strOf (iT s1 s2))) ∧ Below w.heap.size w w' := by
 have hl1 : s1.data.toList.length = s1.size := Array.length_toList
 have hl2 : s2.data.toList.length = s2.size := Array.length_toList
 by_cases e2 : s2.data.toList = []
 ·have q2 : s2.toList = [] := by rw [tl]; exact e2
  have HC : Hid (iT s1 s2 = if s1.data.toList = [] then [] else s1.data.toList ++ [64]) := if_pos e2
  by_cases e1 : s1.data.toList = []
  ·have q1 : s1.toList = [] := by rw [tl]; exact e1
   have HC2 : Hid (iT s1 s2 = []) := HC.out.trans (if_pos e1)
   clear e1 e2 hl1 hl2
   go_enter Tryz.func63, Tryz.ntmps63
   go_wp2
   go_ret
   exact ⟨by rw [HC2.out]; rfl, (Below.refl _ _).alloc (Nat.le_refl _) _⟩
  ·have q1 : (s1.toList == []) = false := by rw [tl]; simpa using e1
   have q1' : s1.toList.isEmpty = false := by rw [tl]; simpa using e1
   have HC2 : Hid (iT s1 s2 = s1.data.toList ++ [64]) := HC.out.trans (if_neg e1)
   have a1 : ∀ w : World, (Op.stringOp .add s1 ⟨#[64]⟩).run Tryz.prog w = .ok (.string (strOf (s1.data.toList ++ [64]))) w := fun w => bf s1 ⟨#[64]⟩ w (by show s1.size + 1 ≤ _; omega)
   clear e1 e2 hl1 hl2
   go_enter Tryz.func63, Tryz.ntmps63
   go_wp2
   go_ret
   exact ⟨by rw [HC2.out]; rfl, (Below.refl _ _).alloc (Nat.le_refl _) _⟩
 ·have q2 : (s2.toList == []) = false := by rw [tl]; simpa using e2
  have q2' : s2.toList.isEmpty = false := by rw [tl]; simpa using e2
  have HC : Hid (iT s1 s2 = s1.data.toList ++ [58] ++ s2.data.toList ++ [64]) := if_neg e2
  obtain ⟨X, hX⟩ : ∃ X, X = strOf (s1.data.toList ++ [58]) := ⟨_, rfl⟩
  obtain ⟨Y, hY⟩ : ∃ Y, Y = strOf (s1.data.toList ++ [58] ++ s2.data.toList) := ⟨_, rfl⟩
  have a1 : ∀ w : World, (Op.stringOp .add s1 ⟨#[58]⟩).run Tryz.prog w = .ok (.string X) w := fun w => by rw [hX]; exact bf s1 ⟨#[58]⟩ w (by show s1.size + 1 ≤ _; omega)
  have a2 : ∀ w : World, (Op.stringOp .add X s2).run Tryz.prog w = .ok (.string Y) w := fun w => by rw [hX, hY]; exact bf _ s2 w (by rw [ah, List.length_append]; simp; omega)
  have a3 : ∀ w : World, (Op.stringOp .add Y ⟨#[64]⟩).run Tryz.prog w = .ok (.string (strOf (iT s1 s2))) w := fun w => by rw [HC.out, hY]; exact bf _ ⟨#[64]⟩ w (by rw [ah]; simp; show _ + 1 ≤ _; omega)
  clear e2 hl1 hl2 hX hY
  go_enter Tryz.func63, Tryz.ntmps63
  go_wp2
  go_ret
  exact ⟨rfl, (Below.refl _ _).alloc (Nat.le_refl _) _⟩
theorem adi (s0 : ByteArray) (s1 : ByteArray) (s2 : ByteArray) (s3 : ByteArray) (b4 : Bool) (z5 : Int) (b6 : Bool) (s7 : ByteArray) (A : Option Addr) (n cap : Nat) (l : List ByteArray) (b9 : Bool) (b10 : Bool) (s11 : ByteArray) (s12 : ByteArray) (w : World) (hR : dS w A n (l.map Value.string)) (hnc : n ≤ cap) (hcm : cap ≤ maxLen) (h7 : s7.size ≤ 1073741824) (hl : (aN l).length ≤ 1073741824) :
  Calls Tryz.prog 65 #[.agg #[.string s0, .string s1, .string s2, .string s3, .bool b4, .int .i64 z5, .bool b6, .string s7, .slice A n cap, .bool b9, .bool b10, .string s11, .string s12]] w fun e w' => e = .returned (.string (strOf (lq b6 s7 l))) ∧ Below w.heap.size w w' := by
 have hn : l.length = n := by rw [← hR.1, List.length_map]
 have hpl := jE l
 unfold maxLen at hcm
 cases b6 with
 | true =>
  clear hn hpl
  have HR := hid hR
  clear hR
  go_enter Tryz.func65, Tryz.ntmps65
  go_wp2
  go_ret
  exact ⟨rfl, (Below.refl _ _).alloc (Nat.le_refl _) _⟩
 | false =>
  have HR := hid hR
  have HN := hid hn
  have JV := hid hpl
  have TI := hid hl
  clear hR hn hpl hl
  go_enter Tryz.func65, Tryz.ntmps65
  go_wp2
  generalize hw1 : w.alloc _ = w1
  have hb1 : Below w.heap.size w w1 := by rw [← hw1]; exact (Below.refl _ _).alloc (Nat.le_refl _) _
  have hs1 : w1.heap.size = w.heap.size + 1 := by rw [← hw1]; simp
  clear hw1
  have HB0 : Hid (AB (w.heap.size + 1) (w.heap.size + 1) [] (w1.alloc (.cells #[.pointer none, .slice none 0 0] 87))) := by
   have h := Lib.fresh_isBuilder 87 5 w1
   rw [hs1] at h
   exact h
  go_loopw [5, 13] (fun _ vk wr => ∃ k : Nat, k ≤ n ∧ vk = .int .i64 (k : Int) ∧ Hid (AB (w.heap.size + 1) (w.heap.size + 1) (aN (l.take k)) wr) ∧ Hid (Below (w.heap.size + 1) w1 wr)) (fun _ vk _ => n - (intOf vk).toNat)
  case atStart => exact ⟨0, Nat.zero_le _, rfl, HB0.out, (Below.refl _ _).alloc (by rw [hs1]; exact Nat.le_refl _) _⟩
  case round =>
   obtain ⟨k, hk, rfl, HB, iM⟩ := hrel
   have hsz : w.heap.size + 1 ≤ wr.heap.size := by have := iM.out.size; rw [hs1] at this; exact this
   by_cases hlt : k < n
   ·have hkl : k < l.length := by rw [HN.out]; exact hlt
    have hRr := HR.out.below (hb1.trans (iM.out.mono (by omega)))
    obtain ⟨g, off, rfl, hg, hcell⟩ := hRr.spot (by omega)
    have hc := hcell k (by rw [List.length_map]; exact hkl)
    rw [List.getElem_map] at hc
    obtain ⟨s, hs⟩ : ∃ s, s = l[k] := ⟨_, rfl⟩
    have HS : Hid (l.take (k + 1) = l.take k ++ [s]) := by rw [hs]; exact take_snoc l k hkl
    rw [← hs] at hc
    have hsum := V5 l k hkl
    have acE := JD l (k + 1)
    have hpk := jE (l.take k)
    rw [List.length_take, Nat.min_eq_left (by omega)] at hpk
    have hpl := JV.out
    have hll := TI.out
    rw [← hs] at hsum
    have hss : s.size ≤ 1073741824 := by omega
    have a1 : ∀ w : World, (Op.stringOp .add ⟨#[47]⟩ s).run Tryz.prog w = .ok (.string (strOf ([47] ++ s.data.toList))) w := fun w => bf ⟨#[47]⟩ s w (by show 1 + s.size ≤ _; omega)
    have HLEN : Hid ((aN (l.take k)).length + (1 + s.size) ≤ 140737488355328) := by show _ ≤ _; omega
    clear hs hsum acE hpk hpl hll hRr hcell hkl
    go_wp2_with (refine (write_any _ _ _ _ _ HB.out (by rw [ah]; have := HLEN.out; simp at this ⊢; omega) hsz).mono ?_; rintro e w3 ⟨rfl, HB3, hb3⟩)
    go_roundw
    case rel => exact ⟨k + 1, by omega, by go_num, by
     rw [HS.out, Je]
     exact HB3, iM.out.trans hb3⟩
    case measure => simp [intOf]; omega
   ·obtain rfl : k = n := by omega
    have HT : Hid (l.take k = l) := List.take_of_length_le (by rw [HN.out]; exact Nat.le_refl _)
    go_wp2_with (refine (qZ _ _ _ _ HB.out hsz).mono ?_; rintro e w3 ⟨rfl, hb3⟩)
    go_ret
    exact ⟨congrArg (fun X => Ending.returned (.string (strOf (aN X)))) HT.out, hb1.trans ((iM.out.trans hb3).mono (by omega))⟩
end Go.Proofs.YtcfgioklgmlclaaGreatDoor.UrlB
namespace Go.Proofs.YtcfgioklgmlclaaGreatDoor.Uu
open Go.RowKit Base aP dD aao UrlB fZ
def Box (w : World) (b : Nat) (c : Array Value) : Prop := w.heap[b]? = some (.cells c 24 (0, 0))
theorem Box.cell {w : World} {b : Nat} {c : Array Value} (h : Box w b c) (i : Nat) : w.cell? ⟨b, i, none⟩ = c[i]? := cell_of_row w b i _ _ _ h
theorem Box.below {w w' : World} {B b : Nat} {c : Array Value} (h : Box w b c) (hb : Below B w w') (hB : b < B) : Box w' b c := (hb.block b hB).trans h
theorem jB {w : World} {b : Nat} {v0 v1 v2 v3 v4 v5 v6 v7 v8 v9 v10 v11 v12 : Value} (h : Box w b #[v0, v1, v2, v3, v4, v5, v6, v7, v8, v9, v10, v11, v12]) :
  w.cell? ⟨b, 0, none⟩ = some v0 ∧ w.cell? ⟨b, 1, none⟩ = some v1 ∧ w.cell? ⟨b, 2, none⟩ = some v2 ∧ w.cell? ⟨b, 3, none⟩ = some v3 ∧ w.cell? ⟨b, 4, none⟩ = some v4 ∧ w.cell? ⟨b, 5, none⟩ = some v5 ∧ w.cell? ⟨b, 6, none⟩ = some v6 ∧ w.cell? ⟨b, 7, none⟩ = some v7 ∧ w.cell? ⟨b, 8, none⟩ = some v8 ∧ w.cell? ⟨b, 9, none⟩ = some v9 ∧ w.cell? ⟨b, 10, none⟩ = some v10 ∧ w.cell? ⟨b, 11, none⟩ = some v11 ∧ w.cell? ⟨b, 12, none⟩ = some v12 :=
 ⟨(h.cell 0).trans rfl, (h.cell 1).trans rfl, (h.cell 2).trans rfl, (h.cell 3).trans rfl, (h.cell 4).trans rfl, (h.cell 5).trans rfl, (h.cell 6).trans rfl, (h.cell 7).trans rfl, (h.cell 8).trans rfl, (h.cell 9).trans rfl, (h.cell 10).trans rfl, (h.cell 11).trans rfl, (h.cell 12).trans rfl⟩
theorem acP (z : Int) (h0 : -9223372036854775808 ≤ z) (h1 : z ≤ 9223372036854775807) (w : World) (hT : Tab.Pow w) :
  Calls Tryz.prog 64 #[.int .i64 z] w fun e w' => e = .returned (.string (strOf (Lib.itoa z))) ∧ Below w.heap.size w w' :=
 (Tryz.strconv_Itoa z h0 h1 w hT).mono fun e w' ⟨he, k, os, hw⟩ => ⟨he, by rw [hw]; exact Tab.below_grow w k os⟩
theorem og (k : Nat) : ∀ n, n < 10 ^ (k + 1) → (Lib.decDigits n).length ≤ k + 1 := by
 induction k with
 | zero => intro n h; rw [Lib.decDigits, dif_pos (by omega)]; simp
 | succ k ih =>
  intro n h
  rw [Lib.decDigits]
  split
  ·simp
  ·have := ih (n / 10) (by rw [Nat.pow_succ] at h; omega)
   rw [List.length_append]
   simp
   omega
theorem IE (z : Int) (h0 : -9223372036854775808 ≤ z) (h1 : z ≤ 9223372036854775807) : (Lib.itoa z).length ≤ 20 := by
 unfold Lib.itoa
 split
 ·have := og 18 z.natAbs (by omega)
  simp
  omega
 ·have := og 18 z.toNat (by omega)
  omega
theorem QN (s1 s2 : ByteArray) (h1 : s1.size ≤ 1073741824) (h2 : s2.size ≤ 1073741824) : (iT s1 s2).length ≤ 2147483650 := by
 have hl1 : s1.data.toList.length = s1.size := Array.length_toList
 have hl2 : s2.data.toList.length = s2.size := Array.length_toList
 unfold iT
 split
 ·split
  ·simp
  ·rw [List.length_append]; simp; omega
 ·rw [List.length_append, List.length_append, List.length_append]; simp; omega
theorem Jb (z5 : Int) (h0 : -9223372036854775808 ≤ z5) (h1 : z5 ≤ 9223372036854775807) : (iI z5).length ≤ 21 := by
 have := IE z5 h0 h1
 unfold iI
 split <;> simp <;> omega
theorem OE (s1 s2 s3 : ByteArray) (b4 : Bool) (z5 : Int) (b6 : Bool) (l : List ByteArray) (h1 : s1.size ≤ 1073741824) (h2 : s2.size ≤ 1073741824) (h3 : s3.size ≤ 1073741824) (h0 : -9223372036854775808 ≤ z5) (h5 : z5 ≤ 9223372036854775807) : (kF s1 s2 s3 b4 z5 b6 l).length ≤ 4294967296 := by
 have := QN s1 s2 h1 h2
 have := Jb z5 h0 h5
 have hl3 : s3.data.toList.length = s3.size := Array.length_toList
 unfold kF
 split
 ·rw [List.length_append, List.length_append, List.length_append]; simp; omega
 ·split <;> simp
theorem ou {B b : Nat} {l : List UInt8} {w w' : World} (h : AB B b l w) (hb : Below w.heap.size w w') : AB B b l w' := by
 rcases h with ⟨h1, v, h2, h3, h4⟩ | ⟨h1, v, h2, h3, h4⟩
 ·exact Or.inl ⟨h1, v, (hb.block _ (Array.getElem?_eq_some_iff.1 h2).1).trans h2, aI h3 hb, h4⟩
 ·exact Or.inr ⟨h1, v, (hb.block _ (Array.getElem?_eq_some_iff.1 h2).1).trans h2, aI h3 hb, h4⟩
theorem QI (s0 : ByteArray) (s1 : ByteArray) (s2 : ByteArray) (s3 : ByteArray) (b4 : Bool) (z5 : Int) (b6 : Bool) (s7 : ByteArray) (A : Option Addr) (n cap : Nat) (l : List ByteArray) (b9 : Bool) (b10 : Bool) (s11 : ByteArray) (s12 : ByteArray) (w : World) (hR : dS w A n (l.map Value.string)) (hnc : n ≤ cap) (hcm : cap ≤ maxLen) (hs0 : s0.size ≤ 1073741824) (hs1 : s1.size ≤ 1073741824) (hs2 : s2.size ≤ 1073741824) (hs3 : s3.size ≤ 1073741824) (hs7 : s7.size ≤ 1073741824) (hs11 : s11.size ≤ 1073741824) (hz : -9223372036854775808 ≤ z5) (hz' : z5 ≤ 9223372036854775807) (hl : (aN l).length ≤ 1073741824) (hT : Tab.Pow w) :
  Calls Tryz.prog 30 #[.agg #[.string s0, .string s1, .string s2, .string s3, .bool b4, .int .i64 z5, .bool b6, .string s7, .slice A n cap, .bool b9, .bool b10, .string s11, .string s12]] w fun e w' => e = .returned (.string (strOf (uG s0 s1 s2 s3 b4 z5 b6 s7 l b9 s11))) ∧ Below w.heap.size w w' := by
 have hl0 : s0.data.toList.length = s0.size := Array.length_toList
 have hl3 : s3.data.toList.length = s3.size := Array.length_toList
 have hl7 : s7.data.toList.length = s7.size := Array.length_toList
 have hl11 : s11.data.toList.length = s11.size := Array.length_toList
 have hn : l.length = n := by rw [← hR.1, List.length_map]
 have HN := hid hn
 have HCL := hid (QN s1 s2 hs1 hs2)
 have HIT := hid (IE z5 hz hz')
 have Yh := hid (OE s1 s2 s3 b4 z5 b6 l hs1 hs2 hs3 hz hz')
 have Ye : Hid ((s0.data.toList ++ [58]).length ≤ 1073741825) := by show _ ≤ _; rw [List.length_append]; simp; omega
 obtain ⟨CA, hCA⟩ : ∃ X, X = [47, 47] ++ iT s1 s2 := ⟨_, rfl⟩
 obtain ⟨CB, hCB⟩ : ∃ X, X = CA ++ s3.data.toList := ⟨_, rfl⟩
 have hCAl : CA.length ≤ 2147483652 := by rw [hCA, List.length_append]; have := HCL.out; simp; omega
 have Wv : Hid (CB.length ≤ 3221225476) := by show _ ≤ _; rw [hCB, List.length_append]; omega
 have a2 : ∀ w : World, (Op.stringOp .add ⟨#[47, 47]⟩ (strOf (iT s1 s2))).run Tryz.prog w = .ok (.string (strOf CA)) w := fun w => by rw [hCA]; exact bf ⟨#[47, 47]⟩ _ w (by rw [ah]; have := HCL.out; show 2 + _ ≤ _; omega)
 have a3 : ∀ w : World, (Op.stringOp .add (strOf CA) s3).run Tryz.prog w = .ok (.string (strOf CB)) w := fun w => by rw [hCB]; exact bf _ s3 w (by rw [ah]; omega)
 have HCB : Hid (CB = [47, 47] ++ iT s1 s2 ++ s3.data.toList) := by show _ = _; rw [hCB, hCA]
 clear hCA hCB hCAl
 have rH : Hid ((lq b6 s7 l).length ≤ 1073741824) := by show _ ≤ _; unfold lq; split <;> omega
 have a1 : ∀ w : World, (Op.stringOp .add s0 ⟨#[58]⟩).run Tryz.prog w = .ok (.string (strOf (s0.data.toList ++ [58]))) w := fun w => bf s0 ⟨#[58]⟩ w (by show s0.size + 1 ≤ _; omega)
 obtain ⟨QL, hQL⟩ : ∃ X, X = [63] ++ s11.data.toList := ⟨_, rfl⟩
 have a5 : ∀ w : World, (Op.stringOp .add ⟨#[63]⟩ s11).run Tryz.prog w = .ok (.string (strOf QL)) w := fun w => by rw [hQL]; exact bf ⟨#[63]⟩ s11 w (by show 1 + s11.size ≤ _; omega)
 have HQLL : Hid (QL.length ≤ 1073741825) := by show _ ≤ _; rw [hQL, List.length_append]; simp; omega
 have HQL := hid hQL
 clear hQL
 clear hl0 hl3 hl7 hl11 hn
 have HR := hid hR
 have TI := hid hl
 have HT := hid hT
 clear hR hl hT
 unfold maxLen at hcm
 go_enter Tryz.func30, Tryz.ntmps30
 go_upto_region 1 with (fail)
 generalize hw1 : w.alloc _ = w1
 have hb1 : Below w.heap.size w w1 := by rw [← hw1]; exact (Below.refl _ _).alloc (Nat.le_refl _) _
 have hs1' : w1.heap.size = w.heap.size + 1 := by rw [← hw1]; simp
 have HBX1 : Hid (Box w1 w.heap.size #[.string s0, .string s1, .string s2, .string s3, .bool b4, .int .i64 z5, .bool b6, .string s7, .slice A n cap, .bool b9, .bool b10, .string s11, .string s12]) := by
  show _ = _
  rw [← hw1]
  exact heap_alloc_new w _
 clear hw1
 go_upto_region 2 with (fail)
 have HB2 : Hid (AB (w.heap.size + 1) (w.heap.size + 1) [] (w1.alloc (.cells #[.pointer none, .slice none 0 0] 87))) := by
  have h := Lib.fresh_isBuilder 87 5 w1
  rw [hs1'] at h
  exact h
 have Om : Below (w.heap.size + 1) w1 (w1.alloc (.cells #[.pointer none, .slice none 0 0] 87)) := (Below.refl _ _).alloc (by rw [hs1']; exact Nat.le_refl _) _
 have hs2' : (w1.alloc (.cells #[.pointer none, .slice none 0 0] 87)).heap.size = w.heap.size + 2 := by simp [hs1']
 generalize hw2 : w1.alloc _ = w2 at HB2 Om hs2' ⊢
 clear hw2
 have aco : Below w.heap.size w w2 := hb1.trans (Om.mono (by omega))
 have hbx := HBX1.out.below Om (by omega)
 have aav := hid hbx
 obtain ⟨c0, c1, c2, c3, c4, c5, c6, c7, c8, c9, c10, c11, c12⟩ := jB hbx
 clear hbx
 have hsz2 : w.heap.size + 1 ≤ w2.heap.size := by omega
 clear hs1' hs2'
 go_wp2_with fail
 refine (write_any _ _ _ _ _ HB2.out (by rw [ah]; have := Ye.out; simp at this ⊢; omega) hsz2).mono ?_
 rintro e w3 ⟨rfl, HB3', Rh⟩
 have HB3 : Hid (AB (w.heap.size + 1) (w.heap.size + 1) (s0.data.toList ++ [58]) w3) := HB3'
 have hsz3 : w.heap.size + 1 ≤ w3.heap.size := by have := Rh.size; omega
 have hbx := aav.out.below Rh (by omega : w.heap.size < w.heap.size + 1)
 have HBX3 := hid hbx
 clear HB3' c0 c1 c2 c3 c4 c5 c6 c7 c8 c9 c10 c11 c12
 obtain ⟨c0, c1, c2, c3, c4, c5, c6, c7, c8, c9, c10, c11, c12⟩ := jB hbx
 clear hbx
 go_upto_if 9 with (fail)
 go_cut [] (fun wx => Hid (AB (w.heap.size + 1) (w.heap.size + 1) (s0.data.toList ++ [58] ++ kF s1 s2 s3 b4 z5 b6 l) wx) ∧ Hid (Below (w.heap.size + 1) w2 wx))
 case first =>
  cases b4 with
  | true =>
   go_wp2_with fail
   clear c0 c1 c2 c3 c4 c5 c6 c7 c8 c9 c10 c11 c12
   refine dG (by kernel_rfl) 6 [is (.agg #[.string s0, .string s1, .string s2, .string s3, .bool true, .int .i64 z5, .bool b6, .string s7, .slice A n cap, .bool b9, .bool b10, .string s11, .string s12]), is (.string (strOf (iT s1 s2))), is (.string (strOf CA)), is (.pointer (some ⟨w.heap.size, 3, none⟩)), is (.string s3), is (.string (strOf CB))] [[], [0], [0, 1], [], [3], [0, 1, 2, 3, 4], [0, 1, 2, 3, 4, 5]] (by kernel_rfl) ?_ ?_
   ·refine ⟨?_, ?_, ?_, ?_, ?_, ?_, trivial⟩
    all_goals (intro t wq hbq hh K hK; simp only [filled, bH, upd, Have, is, any, row, pick, Act.put, List.setIfInBounds_toArray, List.set_cons_zero, List.set_cons_succ, Nat.reduceAdd, Nat.reduceEqDiff, reduceIte, List.tail_cons, List.headD_cons] at hh hK ⊢; (try simp only [hh] at hK ⊢); try clear hh)
    ·have hbx := HBX3.out.below hbq (by omega); obtain ⟨c0, c1, c2, c3, c4, c5, c6, c7, c8, c9, c10, c11, c12⟩ := jB hbx; clear hbx; go_simp; exact hK _ _ (Below.refl _ _) rfl
    ·go_simp; refine (abm s0 s1 s2 s3 true z5 b6 s7 A n cap l b9 b10 s11 s12 _ hs1 hs2).mono ?_; rintro e w5 ⟨rfl, hb5⟩; exact hK _ _ hb5 rfl
    ·have hadd := a2 wq; go_simp; exact hK _ _ (Below.refl _ _) rfl
    ·go_simp; exact hK _ _ (Below.refl _ _) rfl
    ·have hbx := HBX3.out.below hbq (by omega); obtain ⟨c0, c1, c2, c3, c4, c5, c6, c7, c8, c9, c10, c11, c12⟩ := jB hbx; clear hbx; go_simp; exact hK _ _ (Below.refl _ _) rfl
    ·have hadd := a3 wq; go_simp; exact hK _ _ (Below.refl _ _) rfl
   ·intro t wq hbq hh
    have f5 := aS hh 5 (by decide)
    simp only [pick] at f5
    replace f5 : t 5 = (.string (strOf CB)) := f5
    clear hh
    simp only [filled, bH, upd, Have, is, any, row, pick, Act.put, List.setIfInBounds_toArray, List.set_cons_zero, List.set_cons_succ, Nat.reduceAdd, Nat.reduceEqDiff, reduceIte]
    simp only [f5]
    have HB4 := HB3.out
    go_wp2_with fail
    refine (write_any _ _ _ _ _ (ou HB3.out hbq) (by rw [ah]; have := Ye.out; have := Wv.out; omega) (by have := hbq.size; omega)).mono ?_
    rintro e w5 ⟨rfl, mO, hb5⟩
    rw [jV] at mO
    have hb35 := Rh.trans ((hbq.mono (by omega)).trans hb5)
    have hbx := HBX3.out.below ((hbq.mono (by omega)).trans hb5) (by omega : w.heap.size < w.heap.size + 1)
    have HBX5 := hid hbx
    obtain ⟨c0, c1, c2, c3, c4, c5, c6, c7, c8, c9, c10, c11, c12⟩ := jB hbx
    clear hbx HB4
    have hsz5 : w.heap.size + 1 ≤ w5.heap.size := by have := hb35.size; omega
    by_cases hp : z5 = -1
    ·have q1 : (z5 == -1) = true := by simpa using hp
     have q2 : (z5 != -1) = false := by simpa using hp
     have HP : Hid (iI z5 = []) := if_pos hp
     clear hp
     go_wp2
     go_meet
     refine ⟨?_, hb35⟩
     have e : s0.data.toList ++ [58] ++ kF s1 s2 s3 true z5 b6 l = s0.data.toList ++ [58] ++ CB := by unfold kF; rw [if_pos rfl, HP.out, List.append_nil, HCB.out]
     show AB _ _ _ _
     rw [e]
     exact mO
    ·have q1 : (z5 == -1) = false := by simpa using hp
     have q2 : (z5 != -1) = true := by simpa using hp
     have HP : Hid (iI z5 = 58 :: Lib.itoa z5) := if_neg hp
     clear hp
     obtain ⟨IT, hIT⟩ : ∃ X, X = [58] ++ Lib.itoa z5 := ⟨_, rfl⟩
     have a4 : ∀ w : World, (Op.stringOp .add ⟨#[58]⟩ (strOf (Lib.itoa z5))).run Tryz.prog w = .ok (.string (strOf IT)) w := fun w => by rw [hIT]; exact bf ⟨#[58]⟩ _ w (by rw [ah]; have := HIT.out; show 1 + _ ≤ _; omega)
     have HITL : Hid (IT.length ≤ 21) := by show _ ≤ _; rw [hIT, List.length_append]; have := HIT.out; simp; omega
     have HITE := hid hIT
     clear hIT
     go_wp2_with fail
     refine (acP z5 hz hz' _ (HT.out.below (aco.trans (hb35.mono (by omega))))).mono ?_
     rintro e w6 ⟨rfl, hb6⟩
     go_wp2_with fail
     refine (write_any _ _ _ _ _ (ou mO hb6) (by rw [ah, List.length_append]; have := HITL.out; have := Ye.out; have := Wv.out; omega) (by have := hb6.size; omega)).mono ?_
     rintro e w7 ⟨rfl, rD, hb7⟩
     rw [jV] at rD
     go_wp2
     go_meet
     refine ⟨?_, hb35.trans ((hb6.mono hsz5).trans hb7)⟩
     have e : s0.data.toList ++ [58] ++ kF s1 s2 s3 true z5 b6 l = s0.data.toList ++ [58] ++ CB ++ IT := by unfold kF; rw [if_pos rfl, HP.out, HCB.out, HITE.out]; simp
     show AB _ _ _ _
     rw [e]
     exact rD
  | false =>
   cases b6 with
   | true =>
    go_wp2
    go_meet
    refine ⟨?_, Rh⟩
    show AB _ _ (_ ++ []) _
    rw [List.append_nil]
    exact HB3.out
   | false =>
    by_cases h1n : 1 < n
    ·obtain ⟨x, y, r, hlx⟩ : ∃ x y r, l = x :: y :: r := by
      have := HN.out
      match l, this with
      | x :: y :: r, _ => exact ⟨x, y, r, rfl⟩
      | [_], h => simp at h; omega
      | [], h => simp at h; omega
     have hRr := HR.out.below (aco.trans (Rh.mono (by omega)))
     obtain ⟨g, off, rfl, hg, hcell⟩ := hRr.spot (by omega)
     have hc := hcell 0 (by rw [List.length_map, HN.out]; omega)
     have e0 : (l.map Value.string)[0]'(by rw [List.length_map, HN.out]; omega) = .string x := by simp [hlx]
     rw [e0, Nat.add_zero] at hc
     have HD : Hid (dotted false l = decide (x.data.toList = [])) := by show _ = _; rw [hlx]; rfl
     clear hRr hcell e0 hlx
     by_cases hx : x.data.toList = []
     ·have q1 : x.toList = [] := by rw [tl]; exact hx
      have GH : Hid (dotted false l = true) := HD.out.trans (decide_eq_true hx)
      clear hx
      go_wp2_with fail
      refine (write_any _ _ _ _ _ HB3.out (by have := Ye.out; show _ + 2 ≤ _; omega) hsz3).mono ?_
      rintro e w5 ⟨rfl, mO, hb5⟩
      go_wp2
      go_meet
      refine ⟨?_, Rh.trans hb5⟩
      have e : s0.data.toList ++ [58] ++ kF s1 s2 s3 false z5 false l = s0.data.toList ++ [58] ++ [47, 46] := by unfold kF; rw [if_neg (by decide), if_pos GH.out]
      show AB _ _ _ _
      rw [e]
      exact mO
     ·have q1 : (x.toList == []) = false := by rw [tl]; simpa using hx
      have q1' : x.toList.isEmpty = false := by rw [tl]; simpa using hx
      have GH : Hid (¬ dotted false l = true) := by show ¬ _; rw [HD.out]; simpa using hx
      clear hx
      go_wp2
      go_meet
      refine ⟨?_, Rh⟩
      have e : s0.data.toList ++ [58] ++ kF s1 s2 s3 false z5 false l = s0.data.toList ++ [58] := by unfold kF; rw [if_neg (by decide), if_neg GH.out, List.append_nil]
      show AB _ _ _ _
      rw [e]
      exact HB3.out
    ·have GH : Hid (¬ dotted false l = true) := by
      have := HN.out
      match l, this with
      | x :: y :: r, h => simp at h; omega
      | [_], h => simp [dotted, Hid]
      | [], h => simp [dotted, Hid]
     go_wp2
     go_meet
     refine ⟨?_, Rh⟩
     have e : s0.data.toList ++ [58] ++ kF s1 s2 s3 false z5 false l = s0.data.toList ++ [58] := by unfold kF; rw [if_neg (by decide), if_neg GH.out, List.append_nil]
     show AB _ _ _ _
     rw [e]
     exact HB3.out
 case rest =>
 obtain ⟨HB4, HB24⟩ := hcut
 clear c0 c1 c2 c3 c4 c5 c6 c7 c8 c9 c10 c11 c12
 have hbx := aav.out.below HB24.out (by omega : w.heap.size < w.heap.size + 1)
 have HBX4 := hid hbx
 obtain ⟨c0, c1, c2, c3, c4, c5, c6, c7, c8, c9, c10, c11, c12⟩ := jB hbx
 clear hbx
 have hsz4 : w.heap.size + 1 ≤ wc.heap.size := by have := HB24.out.size; omega
 go_wp2_with fail
 refine (adi s0 s1 s2 s3 b4 z5 b6 s7 A n cap l b9 b10 s11 s12 _ (HR.out.below (aco.trans (HB24.out.mono (by omega)))) hnc (by unfold maxLen; omega) hs7 TI.out).mono ?_
 rintro e w5 ⟨rfl, hb5⟩
 go_wp2_with fail
 have hml := Yh.out
 have hla := Ye.out
 have hpa := rH.out
 have HLC : Hid ((s0.data.toList ++ [58] ++ kF s1 s2 s3 b4 z5 b6 l).length ≤ 5368709121) := by show _ ≤ _; rw [List.length_append]; omega
 have HLD : Hid ((s0.data.toList ++ [58] ++ kF s1 s2 s3 b4 z5 b6 l ++ lq b6 s7 l).length ≤ 6442450945) := by show _ ≤ _; rw [List.length_append]; have := HLC.out; omega
 clear hml hla hpa
 refine (write_any _ _ _ _ _ (ou HB4.out hb5) (by rw [ah]; have := HLC.out; have := rH.out; omega) (by have := hb5.size; omega)).mono ?_
 rintro e w6 ⟨rfl, sW, hb6⟩
 rw [jV] at sW
 have hb26 := HB24.out.trans ((hb5.mono hsz4).trans hb6)
 have hsz6 : w.heap.size + 1 ≤ w6.heap.size := by have := hb26.size; omega
 clear c0 c1 c2 c3 c4 c5 c6 c7 c8 c9 c10 c11 c12
 have hbx := aav.out.below hb26 (by omega : w.heap.size < w.heap.size + 1)
 obtain ⟨c0, c1, c2, c3, c4, c5, c6, c7, c8, c9, c10, c11, c12⟩ := jB hbx
 clear hbx
 have HB6' := hid sW
 clear sW
 cases b9 with
 | false =>
  go_wp2_with fail
  refine (qZ _ _ _ _ HB6'.out hsz6).mono ?_
  rintro e w7 ⟨rfl, hb7⟩
  go_wp2
  go_ret
  refine ⟨?_, aco.trans ((hb26.trans hb7).mono (by omega))⟩
  have e : uG s0 s1 s2 s3 b4 z5 b6 s7 l false s11 = s0.data.toList ++ [58] ++ kF s1 s2 s3 b4 z5 b6 l ++ lq b6 s7 l := by unfold uG; rw [if_neg (by decide), List.append_nil]
  refine congrArg (fun X => Ending.returned (.string (strOf X))) ?_
  rw [e]
  simp
 | true =>
  go_wp2_with fail
  refine (write_any _ _ _ _ _ HB6'.out (by rw [ah]; have := HLD.out; have := HQLL.out; omega) hsz6).mono ?_
  rintro e w7 ⟨rfl, rD, hb7⟩
  rw [jV] at rD
  go_wp2_with fail
  refine (qZ _ _ _ _ rD (by have := hb7.size; omega)).mono ?_
  rintro e w8 ⟨rfl, hb8⟩
  go_wp2
  go_ret
  refine ⟨?_, aco.trans (((hb26.trans hb7).trans hb8).mono (by omega))⟩
  have e : uG s0 s1 s2 s3 b4 z5 b6 s7 l true s11 = s0.data.toList ++ [58] ++ kF s1 s2 s3 b4 z5 b6 l ++ lq b6 s7 l ++ QL := by unfold uG; rw [if_pos rfl, HQL.out]; rfl
  refine congrArg (fun X => Ending.returned (.string (strOf X))) ?_
  rw [e]
  simp
end Go.Proofs.YtcfgioklgmlclaaGreatDoor.Uu
namespace Go.Proofs.YtcfgioklgmlclaaGreatDoor.UrlE
open Go.RowKit Base aP dD ng
theorem below_drewN' (w : World) (k : Nat) : Below w.heap.size w (w.drewN k) := Base.below_drewN (Below.refl _ _) k
theorem str_ext {s t : ByteArray} : s.data.toList = t.data.toList ↔ s = t := ⟨fun h => ext_str h, fun h => by rw [h]⟩
theorem ZA (A A2 : Option Addr) (n n2 cap cap2 : Nat) (l m : List ByteArray) (w : World) (hR : dS w A n (l.map Value.string)) (hR2 : dS w A2 n2 (m.map Value.string)) (hc : n ≤ cap) (hm : cap ≤ maxLen) (hc2 : n2 ≤ cap2) (hm2 : cap2 ≤ maxLen) :
  Calls Tryz.prog 48 #[.slice A n cap, .slice A2 n2 cap2] w fun e w' => e = .returned (.bool (decide (l = m))) ∧ Below w.heap.size w w' := by
 unfold maxLen at hm hm2
 have hn : l.length = n := by rw [← hR.1, List.length_map]
 have hn2 : m.length = n2 := by rw [← hR2.1, List.length_map]
 have HN := hid hn
 have xk := hid hn2
 have HR := hid hR
 have HR2 := hid hR2
 clear hR hR2 hn hn2
 by_cases he : n = n2
 ·obtain rfl := he
  have q1 : ((n : Int) == (n : Int)) = true := by simp
  have q2 : ((n : Int) != (n : Int)) = false := by simp
  go_enter Tryz.func48, Tryz.ntmps48
  go_wp2
  go_loopw [5, 13] (fun _ vk wr => ∃ k : Nat, k ≤ n ∧ vk = .int .i64 (k : Int) ∧ Hid (l.take k = m.take k) ∧ Hid (Below w.heap.size w wr)) (fun _ vk _ => n - (intOf vk).toNat)
  case atStart => exact ⟨0, Nat.zero_le _, rfl, rfl, Below.refl _ _⟩
  case round =>
   obtain ⟨k, hk, rfl, HT, iM⟩ := hrel
   by_cases hlt : k < n
   ·have hkl : k < l.length := by rw [HN.out]; exact hlt
    have hkm : k < m.length := by rw [xk.out]; exact hlt
    obtain ⟨g, off, rfl, hg, hcell⟩ := (HR.out.below iM.out).spot (by omega)
    obtain ⟨g2, off2, rfl, hg2, hcell2⟩ := (HR2.out.below iM.out).spot (by omega)
    have hc1 := hcell k (by rw [List.length_map]; exact hkl)
    have hc3 := hcell2 k (by rw [List.length_map]; exact hkm)
    rw [List.getElem_map] at hc1 hc3
    obtain ⟨s, hs⟩ : ∃ s, s = l[k] := ⟨_, rfl⟩
    obtain ⟨t, ht⟩ : ∃ t, t = m[k] := ⟨_, rfl⟩
    have HS : Hid (l.take (k + 1) = l.take k ++ [s]) := by rw [hs]; exact take_snoc l k hkl
    have HS2 : Hid (m.take (k + 1) = m.take k ++ [t]) := by rw [ht]; exact take_snoc m k hkm
    have HX : Hid (s ≠ t → l ≠ m) := by
     intro h1 h2
     subst h2
     exact h1 (hs.trans ht.symm)
    rw [← hs] at hc1
    rw [← ht] at hc3
    clear hs ht hcell hcell2 hkl hkm
    have hb := rW s t
    by_cases hst : s.data.toList = t.data.toList
    ·rw [decide_eq_true hst] at hb
     have HST := hid (str_ext.1 hst)
     clear hst
     go_wp2_with fail
     go_quiet (fail)
     have hbq := iM.out.trans ((below_drewN' wr nq).mono iM.out.size)
     generalize wr.drewN nq = wq at hbq ⊢
     go_wp2
     go_roundw
     case rel => exact ⟨k + 1, by omega, by go_num, by show _ = _; rw [HS.out, HS2.out, HT.out, HST.out], hbq⟩
     case measure => simp [intOf]; omega
    ·rw [decide_eq_false hst] at hb
     have HE : Hid (decide (l = m) = false) := decide_eq_false (HX.out (fun h => hst (by rw [h])))
     clear hst
     go_wp2_with fail
     go_quiet (fail)
     have hbq := iM.out.trans ((below_drewN' wr nq).mono iM.out.size)
     generalize wr.drewN nq = wq at hbq ⊢
     go_wp2
     go_ret
     exact ⟨aB HE.out.symm, hbq⟩
   ·obtain rfl : k = n := by omega
    have HE : Hid (decide (l = m) = true) := decide_eq_true (by
     have h := HT.out
     rw [List.take_of_length_le (by rw [HN.out]; exact Nat.le_refl _), List.take_of_length_le (by rw [xk.out]; exact Nat.le_refl _)] at h
     exact h)
    go_wp2
    go_ret
    exact ⟨aB HE.out.symm, iM.out⟩
 ·have q1 : ((n : Int) == (n2 : Int)) = false := by simp; omega
  have q2 : ((n : Int) != (n2 : Int)) = true := by simp; omega
  have HE : Hid (decide (l = m) = false) := decide_eq_false (fun h => he (by rw [← HN.out, ← xk.out, h]))
  clear he
  go_enter Tryz.func48, Tryz.ntmps48
  go_wp2
  go_ret
  exact ⟨aB HE.out.symm, Below.refl _ _⟩
def spB (b6 c6 : Bool) (s7 t7 : ByteArray) (l m : List ByteArray) : Bool := if b6 || c6 then (b6 == c6) && decide (s7.data.toList = t7.data.toList) else decide (l = m)
end Go.Proofs.YtcfgioklgmlclaaGreatDoor.UrlE
namespace Go.Proofs.YtcfgioklgmlclaaGreatDoor.UrlF
open Go.RowKit Base aP dD ng UrlE fZ
theorem same_iff (as0 : ByteArray) (PX : ByteArray) (PY : ByteArray) (QH : ByteArray) (x9 : Bool) (PZ : Int) (JX : Bool) (Uz : ByteArray) (aA : Option Addr) (an He : Nat) (al : List ByteArray) (yc : Bool) (ku : Bool) (yg : ByteArray) (yh : ByteArray) (P9 : ByteArray) (Qa : ByteArray) (Qb : ByteArray) (QK : ByteArray) (P7 : Bool) (Qc : Int) (NQ : Bool) (UC : ByteArray) (bA : Option Addr) (bn Hl : Nat) (bl : List ByteArray) (P8 : Bool) (xB : Bool) (yj : ByteArray) (yt : ByteArray) : vG as0 PX PY QH x9 PZ JX Uz al yc ku yg yh = vG P9 Qa Qb QK P7 Qc NQ UC bl P8 xB yj yt ↔ (as0.data.toList = P9.data.toList ∧ PX.data.toList = Qa.data.toList ∧ PY.data.toList = Qb.data.toList ∧ PZ = Qc ∧ txt x9 QH = txt P7 QK ∧ spB JX NQ Uz UC al bl = true ∧ txt yc yg = txt P8 yj ∧ txt ku yh = txt xB yt) := by
 unfold vG
 simp only [Prod.mk.injEq, List.cons.injEq, Option.some.injEq, and_true]
 cases JX <;> cases NQ <;> simp [spB, txt] <;> constructor <;> (intro h; simp [h])
def Bx (w : World) (b : Nat) (c : Array Value) : Prop := w.heap[b]? = some (.cells c 24 (0, 0))
theorem Bx.cell {w : World} {b : Nat} {c : Array Value} (h : Bx w b c) (i : Nat) : w.cell? ⟨b, i, none⟩ = c[i]? := cell_of_row w b i _ _ _ h
theorem jB {w : World} {b : Nat} {v0 v1 v2 v3 v4 v5 v6 v7 v8 v9 v10 v11 v12 : Value} (h : Bx w b #[v0, v1, v2, v3, v4, v5, v6, v7, v8, v9, v10, v11, v12]) :
  w.cell? ⟨b, 0, none⟩ = some v0 ∧ w.cell? ⟨b, 1, none⟩ = some v1 ∧ w.cell? ⟨b, 2, none⟩ = some v2 ∧ w.cell? ⟨b, 3, none⟩ = some v3 ∧ w.cell? ⟨b, 4, none⟩ = some v4 ∧ w.cell? ⟨b, 5, none⟩ = some v5 ∧ w.cell? ⟨b, 6, none⟩ = some v6 ∧ w.cell? ⟨b, 7, none⟩ = some v7 ∧ w.cell? ⟨b, 8, none⟩ = some v8 ∧ w.cell? ⟨b, 9, none⟩ = some v9 ∧ w.cell? ⟨b, 10, none⟩ = some v10 ∧ w.cell? ⟨b, 11, none⟩ = some v11 ∧ w.cell? ⟨b, 12, none⟩ = some v12 :=
 ⟨(h.cell 0).trans rfl, (h.cell 1).trans rfl, (h.cell 2).trans rfl, (h.cell 3).trans rfl, (h.cell 4).trans rfl, (h.cell 5).trans rfl, (h.cell 6).trans rfl, (h.cell 7).trans rfl, (h.cell 8).trans rfl, (h.cell 9).trans rfl, (h.cell 10).trans rfl, (h.cell 11).trans rfl, (h.cell 12).trans rfl⟩
end Go.Proofs.YtcfgioklgmlclaaGreatDoor.UrlF
namespace Go.Proofs.YtcfgioklgmlclaaGreatDoor.BldK
open Go.RowKit Base aP aao
def rQ (b : Nat) (w w' : World) : Prop := ∀ (g : Nat) (C : Array Value) (T : TypeId) (m : Nat × Nat), g ≠ b → T ≠ 5 → w.heap[g]? = some (.cells C T m) → w'.heap[g]? = some (.cells C T m)
theorem rQ.refl (b : Nat) (w : World) : rQ b w w := fun _ _ _ _ _ _ h => h
theorem rQ.trans {b : Nat} {w w1 w2 : World} (h : rQ b w w1) (h2 : rQ b w1 w2) : rQ b w w2 := fun g C T m hg hT e => h2 g C T m hg hT (h g C T m hg hT e)
theorem rQ.set (b : Nat) (w : World) (i : Nat) (v : Value) : rQ b w (w.setCell ⟨b, i, none⟩ v) := fun g C T m hg _ e => (heap_setCell_other w ⟨b, i, none⟩ g v (fun e => hg e)).trans e
theorem UE (B b : Nat) (bs : List Value) (w : World) (h : Lib.IsBuilder 87 5 B b bs w) :
  Calls Tryz.prog 117 #[.pointer (some ⟨b, 0, none⟩)] w fun e w' => e = .returned (.tuple #[]) ∧ (Lib.BuilderAt 87 5 B b (.pointer (some ⟨b, 0, none⟩)) bs w' ∧ Below B w w') ∧ rQ b w w' := by
 rcases h with h | h
 ·refine (Fq b w h.cell0 h.shape h.frozen0).mono ?_
  rintro e w' ⟨rfl, rfl⟩
  exact ⟨rfl, ⟨h.used _, (Below.refl B w).setCell (p := ⟨b, 0, none⟩) h.1 _⟩, rQ.set b w 0 _⟩
 ·refine (Hu b w h.cell0).mono ?_
  rintro e w' ⟨rfl, rfl⟩
  exact ⟨rfl, ⟨h, Below.refl B _⟩, rQ.refl _ _⟩
theorem wV (B b : Nat) (l : List UInt8) (s : ByteArray) (w : World) (h : AB B b l w) (hlen : l.length + s.size ≤ 140737488355328) (hBw : B ≤ w.heap.size) :
  Calls Tryz.prog 62 #[.pointer (some ⟨b, 0, none⟩), .string s] w fun e w' => e = .returned (.tuple #[.int .i64 s.size, .nilIface]) ∧ AB B b (l ++ s.data.toList) w' ∧ Below B w w' ∧ rQ b w w' := by
 obtain ⟨i0, hi, hz0, hz1, hz2⟩ := info_parts jU
 have hlb : (Lib.byteCells l).length = l.length := by simp [Lib.byteCells]
 have Wv := Base.hid hlb
 clear hlb
 go_enter Tryz.func62, Tryz.ntmps62
 go_wp2_with (refine (UE B b _ _ h).mono ?_)
 rintro e w1 ⟨rfl, ⟨h1, hb1⟩, hk1⟩
 have HK1 := Base.hid hk1
 clear hk1
 obtain ⟨hB, v, hbk, hown, hne⟩ := h1
 have c0 : w1.cell? ⟨b, 0, none⟩ = some (.pointer (some ⟨b, 0, none⟩)) := by rw [Lib.cell_of_heap hbk]; rfl
 have c1 : w1.cell? ⟨b, 1, none⟩ = some v := by rw [Lib.cell_of_heap hbk]; rfl
 go_wp2_with (at_builtin; refine Lib.wpList_append_own_string _ rfl _ _ 30 9 rfl B 5 i0 Tryz.underlying30 Tryz.underlying9 hi hz0 hz1 hz2 _ _ _ rfl hown s rfl ?c3 ?c4 ?c5 ?_)
 case c3 => have := Wv.out; unfold maxLen; omega
 case c4 => have := Wv.out; omega
 case c5 => have := hb1.size; omega
 intro v' w2 hown' hgrow _
 have hk2 : rQ b w1 w2 := by
  intro g C T m hg hT e
  have hlt : g < w1.heap.size := (Array.getElem?_eq_some_iff.1 e).1
  rw [hgrow.block g hlt (fun e2 => ?_)]
  ·exact e
  ·rcases hown.2 with ⟨hv, _⟩ | ⟨g', cap, cur, hv, _, hh, _⟩
   ·rw [hv] at e2
    cases e2
   ·rw [hv] at e2
    have e3 : g' = g := by simpa [Value.ownBlock, eq_comm] using e2
    subst e3
    rw [e] at hh
    simp at hh
    exact hT hh.2.1
 have HK2 := Base.hid hk2
 clear hk2
 have hlt : b < w1.heap.size := (Array.getElem?_eq_some_iff.1 hbk).1
 have hb2 : w2.heap[b]? = some (.cells #[.pointer (some ⟨b, 0, none⟩), v] 87 (0, 0)) := by
  rw [hgrow.block b hlt (fun e => hne e.symm)]
  exact hbk
 have d0 : w2.cell? ⟨b, 0, none⟩ = some (.pointer (some ⟨b, 0, none⟩)) := by rw [Lib.cell_of_heap hb2]; rfl
 have d1 : w2.cell? ⟨b, 1, none⟩ = some v := by rw [Lib.cell_of_heap hb2]; rfl
 have f1 : w2.frozen? ⟨b, 1, none⟩ = false := Lib.frozen_of_heap hb2 1
 obtain ⟨ao, n', cap, rfl⟩ : ∃ ao n' cap, v' = .slice ao n' cap := by
  rcases hown'.2 with ⟨hv, _⟩ | ⟨g, cap, cur, hv, _⟩
  ·exact ⟨_, _, _, hv⟩
  ·exact ⟨_, _, _, hv⟩
 go_wp2
 go_ret2
 refine ⟨rfl, Or.inr ?_, ?_, (HK1.out.trans HK2.out).trans (rQ.set b w2 1 _)⟩
 ·have hp := Lib.BuilderAt.put (T := 87) (e := 5) hB hb2 (bs' := Lib.byteCells l ++ Lib.strCells s) (by simpa [Lib.strCells_length] using hown') (by decide)
  have e : Lib.byteCells (l ++ s.data.toList) = Lib.byteCells l ++ Lib.strCells s := by simp [Lib.byteCells, Lib.strCells]
  rw [e]
  exact hp
 ·exact (hb1.grown hgrow (by have := hb1.size; omega) (fun k hk => (hown.lt k hk).1)).setCell (p := ⟨b, 1, none⟩) hB _
theorem qZ (B b : Nat) (l : List UInt8) (w : World) (h : AB B b l w) (hBw : B ≤ w.heap.size) :
  Calls Tryz.prog 66 #[.pointer (some ⟨b, 0, none⟩)] w fun e w' => e = .returned (.string (strOf l)) ∧ Below B w w' := Tryz.Builder_String B b l w h hBw
theorem ou {B b : Nat} {l : List UInt8} {w w' : World} (h : AB B b l w) (hb : Below w.heap.size w w') : AB B b l w' := by
 rcases h with ⟨h1, v, h2, h3, h4⟩ | ⟨h1, v, h2, h3, h4⟩
 ·exact Or.inl ⟨h1, v, (hb.block _ (Array.getElem?_eq_some_iff.1 h2).1).trans h2, aI h3 hb, h4⟩
 ·exact Or.inr ⟨h1, v, (hb.block _ (Array.getElem?_eq_some_iff.1 h2).1).trans h2, aI h3 hb, h4⟩
end Go.Proofs.YtcfgioklgmlclaaGreatDoor.BldK
