/- Texts that belong together: UrlB, UrlC, OpqD. -/
import Derived.Test.YtegpfgccaminkaaGreatDoorUAC
import Derived.Test.YtegpfgccaminkaaGreatDoorUAL
import Derived.Test.YtegpfgccaminkaaGreatDoorShelf
import Derived.Test.YtegpfgccaminkaaGreatDoorUAA
import Derived.Deep.DeepCutAuto
set_option linter.unusedSimpArgs false
set_option linter.unusedVariables false
namespace Go.Proofs.YtegpfgccaminkaaGreatDoor.UrlB
open Go.RowKit Base Base2 UrlP BldA
theorem string_any (B b : Nat) (l : List UInt8) (w : World) (h : IsB B b l w) (hBw : B ≤ w.heap.size) :
  Calls Tryz.prog 124 #[.pointer (some ⟨b, 0, none⟩)] w fun e w' => e = .returned (.string (strOf l)) ∧ Below B w w' := Tryz.Builder_String B b l w h hBw
set_option maxHeartbeats 2000000 in
theorem cred_any (s0 : ByteArray) (s1 : ByteArray) (s2 : ByteArray) (s3 : ByteArray) (b4 : Bool) (z5 : Int) (b6 : Bool) (s7 : ByteArray) (A : Option Addr) (n cap : Nat) (l : List ByteArray) (b9 : Bool) (b10 : Bool) (s11 : ByteArray) (s12 : ByteArray) (w : World) (h1 : s1.size ≤ 1073741824) (h2 : s2.size ≤ 1073741824) :
  Calls Tryz.prog 122 #[.agg #[.string s0, .string s1, .string s2, .string s3, .bool b4, .int .i64 z5, .bool b6, .string s7, .slice A n cap, .bool b9, .bool b10, .string s11, .string s12]] w fun e w' => e = .returned (.string (strOf (credL s1 s2))) ∧ Below w.heap.size w w' := by
 have hl1 : s1.data.toList.length = s1.size := Array.length_toList
 have hl2 : s2.data.toList.length = s2.size := Array.length_toList
 by_cases e2 : s2.data.toList = []
 ·have q2 : s2.toList = [] := by rw [tl]; exact e2
  have HC : Hid (credL s1 s2 = if s1.data.toList = [] then [] else s1.data.toList ++ [64]) := if_pos e2
  by_cases e1 : s1.data.toList = []
  ·have q1 : s1.toList = [] := by rw [tl]; exact e1
   have HC2 : Hid (credL s1 s2 = []) := HC.out.trans (if_pos e1)
   clear e1 e2 hl1 hl2
   go_enter Tryz.func122, Tryz.ntmps122
   go_wp2
   go_ret
   exact ⟨by rw [HC2.out]; rfl, (Below.refl _ _).alloc (Nat.le_refl _) _⟩
  ·have q1 : (s1.toList == []) = false := by rw [tl]; simpa using e1
   have q1' : s1.toList.isEmpty = false := by rw [tl]; simpa using e1
   have HC2 : Hid (credL s1 s2 = s1.data.toList ++ [64]) := HC.out.trans (if_neg e1)
   have a1 : ∀ w : World, (Op.stringOp .add s1 ⟨#[64]⟩).run Tryz.prog w = .ok (.string (strOf (s1.data.toList ++ [64]))) w := fun w => str_add' s1 ⟨#[64]⟩ w (by show s1.size + 1 ≤ _; omega)
   clear e1 e2 hl1 hl2
   go_enter Tryz.func122, Tryz.ntmps122
   go_wp2
   go_ret
   exact ⟨by rw [HC2.out]; rfl, (Below.refl _ _).alloc (Nat.le_refl _) _⟩
 ·have q2 : (s2.toList == []) = false := by rw [tl]; simpa using e2
  have q2' : s2.toList.isEmpty = false := by rw [tl]; simpa using e2
  have HC : Hid (credL s1 s2 = s1.data.toList ++ [58] ++ s2.data.toList ++ [64]) := if_neg e2
  obtain ⟨X, hX⟩ : ∃ X, X = strOf (s1.data.toList ++ [58]) := ⟨_, rfl⟩
  obtain ⟨Y, hY⟩ : ∃ Y, Y = strOf (s1.data.toList ++ [58] ++ s2.data.toList) := ⟨_, rfl⟩
  have a1 : ∀ w : World, (Op.stringOp .add s1 ⟨#[58]⟩).run Tryz.prog w = .ok (.string X) w := fun w => by rw [hX]; exact str_add' s1 ⟨#[58]⟩ w (by show s1.size + 1 ≤ _; omega)
  have a2 : ∀ w : World, (Op.stringOp .add X s2).run Tryz.prog w = .ok (.string Y) w := fun w => by rw [hX, hY]; exact str_add' _ s2 w (by rw [size_strOf, List.length_append]; simp; omega)
  have a3 : ∀ w : World, (Op.stringOp .add Y ⟨#[64]⟩).run Tryz.prog w = .ok (.string (strOf (credL s1 s2))) w := fun w => by rw [HC.out, hY]; exact str_add' _ ⟨#[64]⟩ w (by rw [size_strOf]; simp; show _ + 1 ≤ _; omega)
  clear e2 hl1 hl2 hX hY
  go_enter Tryz.func122, Tryz.ntmps122
  go_wp2
  go_ret
  exact ⟨rfl, (Below.refl _ _).alloc (Nat.le_refl _) _⟩
set_option maxHeartbeats 4000000 in
theorem path_any (s0 : ByteArray) (s1 : ByteArray) (s2 : ByteArray) (s3 : ByteArray) (b4 : Bool) (z5 : Int) (b6 : Bool) (s7 : ByteArray) (A : Option Addr) (n cap : Nat) (l : List ByteArray) (b9 : Bool) (b10 : Bool) (s11 : ByteArray) (s12 : ByteArray) (w : World) (hR : Rds w A n (l.map Value.string)) (hnc : n ≤ cap) (hcm : cap ≤ maxLen) (h7 : s7.size ≤ 1073741824) (hl : (pth l).length ≤ 1073741824) :
  Calls Tryz.prog 123 #[.agg #[.string s0, .string s1, .string s2, .string s3, .bool b4, .int .i64 z5, .bool b6, .string s7, .slice A n cap, .bool b9, .bool b10, .string s11, .string s12]] w fun e w' => e = .returned (.string (strOf (pathL b6 s7 l))) ∧ Below w.heap.size w w' := by
 have hn : l.length = n := by rw [← hR.1, List.length_map]
 have hpl := length_pth l
 unfold maxLen at hcm
 cases b6 with
 | true =>
  clear hn hpl
  have HR := hid hR
  clear hR
  go_enter Tryz.func123, Tryz.ntmps123
  go_wp2
  go_ret
  exact ⟨rfl, (Below.refl _ _).alloc (Nat.le_refl _) _⟩
 | false =>
  have HR := hid hR
  have HN := hid hn
  have HPL := hid hpl
  have HLL := hid hl
  clear hR hn hpl hl
  go_enter Tryz.func123, Tryz.ntmps123
  go_wp2
  generalize hw1 : w.alloc _ = w1
  have hb1 : Below w.heap.size w w1 := by rw [← hw1]; exact (Below.refl _ _).alloc (Nat.le_refl _) _
  have hs1 : w1.heap.size = w.heap.size + 1 := by rw [← hw1]; simp
  clear hw1
  have HB0 : Hid (IsB (w.heap.size + 1) (w.heap.size + 1) [] (w1.alloc (.cells #[.pointer none, .slice none 0 0] 213))) := by
   have h := Lib.fresh_isBuilder 213 5 w1
   rw [hs1] at h
   exact h
  go_loopw [5, 13] (fun _ vk wr => ∃ k : Nat, k ≤ n ∧ vk = .int .i64 (k : Int) ∧ Hid (IsB (w.heap.size + 1) (w.heap.size + 1) (pth (l.take k)) wr) ∧ Hid (Below (w.heap.size + 1) w1 wr)) (fun _ vk _ => n - (intOf vk).toNat)
  case atStart => exact ⟨0, Nat.zero_le _, rfl, HB0.out, (Below.refl _ _).alloc (by rw [hs1]; exact Nat.le_refl _) _⟩
  case round =>
   obtain ⟨k, hk, rfl, HB, HBL⟩ := hrel
   have hsz : w.heap.size + 1 ≤ wr.heap.size := by have := HBL.out.size; rw [hs1] at this; exact this
   by_cases hlt : k < n
   ·have hkl : k < l.length := by rw [HN.out]; exact hlt
    have hRr := HR.out.below (hb1.trans (HBL.out.mono (by omega)))
    obtain ⟨g, off, rfl, hg, hcell⟩ := hRr.spot (by omega)
    have hc := hcell k (by rw [List.length_map]; exact hkl)
    rw [List.getElem_map] at hc
    obtain ⟨s, hs⟩ : ∃ s, s = l[k] := ⟨_, rfl⟩
    have HS : Hid (l.take (k + 1) = l.take k ++ [s]) := by rw [hs]; exact take_snoc l k hkl
    rw [← hs] at hc
    have hsum := sum_at l k hkl
    have hsum2 := sum_take l (k + 1)
    have hpk := length_pth (l.take k)
    rw [List.length_take, Nat.min_eq_left (by omega)] at hpk
    have hpl := HPL.out
    have hll := HLL.out
    rw [← hs] at hsum
    have hss : s.size ≤ 1073741824 := by omega
    have a1 : ∀ w : World, (Op.stringOp .add ⟨#[47]⟩ s).run Tryz.prog w = .ok (.string (strOf ([47] ++ s.data.toList))) w := fun w => str_add' ⟨#[47]⟩ s w (by show 1 + s.size ≤ _; omega)
    have HLEN : Hid ((pth (l.take k)).length + (1 + s.size) ≤ 140737488355328) := by show _ ≤ _; omega
    clear hs hsum hsum2 hpk hpl hll hRr hcell hkl
    go_wp2_with (refine (write_any _ _ _ _ _ HB.out (by rw [size_strOf]; have := HLEN.out; simp at this ⊢; omega) hsz).mono ?_; rintro e w3 ⟨rfl, HB3, hb3⟩)
    go_roundw
    case rel => exact ⟨k + 1, by omega, by go_num, by
     rw [HS.out, pth_snoc]
     exact HB3, HBL.out.trans hb3⟩
    case measure => simp [intOf]; omega
   ·obtain rfl : k = n := by omega
    have HT : Hid (l.take k = l) := List.take_of_length_le (by rw [HN.out]; exact Nat.le_refl _)
    go_wp2_with (refine (string_any _ _ _ _ HB.out hsz).mono ?_; rintro e w3 ⟨rfl, hb3⟩)
    go_ret
    exact ⟨congrArg (fun X => Ending.returned (.string (strOf (pth X)))) HT.out, hb1.trans ((HBL.out.trans hb3).mono (by omega))⟩
end Go.Proofs.YtegpfgccaminkaaGreatDoor.UrlB
namespace Go.Proofs.YtegpfgccaminkaaGreatDoor.UrlC
open Go.RowKit Base Base2 UrlP BldA UrlB Regs
def Box (w : World) (b : Nat) (c : Array Value) : Prop := w.heap[b]? = some (.cells c 52 (0, 0))
theorem Box.cell {w : World} {b : Nat} {c : Array Value} (h : Box w b c) (i : Nat) : w.cell? ⟨b, i, none⟩ = c[i]? := cell_of_row w b i _ _ _ h
theorem Box.below {w w' : World} {B b : Nat} {c : Array Value} (h : Box w b c) (hb : Below B w w') (hB : b < B) : Box w' b c := (hb.block b hB).trans h
theorem cells13 {w : World} {b : Nat} {v0 v1 v2 v3 v4 v5 v6 v7 v8 v9 v10 v11 v12 : Value} (h : Box w b #[v0, v1, v2, v3, v4, v5, v6, v7, v8, v9, v10, v11, v12]) :
  w.cell? ⟨b, 0, none⟩ = some v0 ∧ w.cell? ⟨b, 1, none⟩ = some v1 ∧ w.cell? ⟨b, 2, none⟩ = some v2 ∧ w.cell? ⟨b, 3, none⟩ = some v3 ∧ w.cell? ⟨b, 4, none⟩ = some v4 ∧ w.cell? ⟨b, 5, none⟩ = some v5 ∧ w.cell? ⟨b, 6, none⟩ = some v6 ∧ w.cell? ⟨b, 7, none⟩ = some v7 ∧ w.cell? ⟨b, 8, none⟩ = some v8 ∧ w.cell? ⟨b, 9, none⟩ = some v9 ∧ w.cell? ⟨b, 10, none⟩ = some v10 ∧ w.cell? ⟨b, 11, none⟩ = some v11 ∧ w.cell? ⟨b, 12, none⟩ = some v12 :=
 ⟨(h.cell 0).trans rfl, (h.cell 1).trans rfl, (h.cell 2).trans rfl, (h.cell 3).trans rfl, (h.cell 4).trans rfl, (h.cell 5).trans rfl, (h.cell 6).trans rfl, (h.cell 7).trans rfl, (h.cell 8).trans rfl, (h.cell 9).trans rfl, (h.cell 10).trans rfl, (h.cell 11).trans rfl, (h.cell 12).trans rfl⟩
theorem itoa_int (z : Int) (h0 : -9223372036854775808 ≤ z) (h1 : z ≤ 9223372036854775807) (w : World) (hT : Tab.Pow w) :
  Calls Tryz.prog 100 #[.int .i64 z] w fun e w' => e = .returned (.string (strOf (Lib.itoa z))) ∧ Below w.heap.size w w' :=
 (Tryz.strconv_Itoa z h0 h1 w hT).mono fun e w' ⟨he, k, os, hw⟩ => ⟨he, by rw [hw]; exact Tab.below_grow w k os⟩
theorem digits_len (k : Nat) : ∀ n, n < 10 ^ (k + 1) → (Lib.decDigits n).length ≤ k + 1 := by
 induction k with
 | zero => intro n h; rw [Lib.decDigits, dif_pos (by omega)]; simp
 | succ k ih =>
  intro n h
  rw [Lib.decDigits]
  split
  ·simp
  ·have := ih (n / 10) (by rw [Nat.pow_succ] at h; omega)
   rw [List.length_append]
   simp
   omega
theorem itoa_len (z : Int) (h0 : -9223372036854775808 ≤ z) (h1 : z ≤ 9223372036854775807) : (Lib.itoa z).length ≤ 20 := by
 unfold Lib.itoa
 split
 ·have := digits_len 18 z.natAbs (by omega)
  simp
  omega
 ·have := digits_len 18 z.toNat (by omega)
  omega
theorem cred_len (s1 s2 : ByteArray) (h1 : s1.size ≤ 1073741824) (h2 : s2.size ≤ 1073741824) : (credL s1 s2).length ≤ 2147483650 := by
 have hl1 : s1.data.toList.length = s1.size := Array.length_toList
 have hl2 : s2.data.toList.length = s2.size := Array.length_toList
 unfold credL
 split
 ·split
  ·simp
  ·rw [List.length_append]; simp; omega
 ·rw [List.length_append, List.length_append, List.length_append]; simp; omega
theorem port_len (z5 : Int) (h0 : -9223372036854775808 ≤ z5) (h1 : z5 ≤ 9223372036854775807) : (portL z5).length ≤ 21 := by
 have := itoa_len z5 h0 h1
 unfold portL
 split <;> simp <;> omega
theorem mid_len (s1 s2 s3 : ByteArray) (b4 : Bool) (z5 : Int) (b6 : Bool) (l : List ByteArray) (h1 : s1.size ≤ 1073741824) (h2 : s2.size ≤ 1073741824) (h3 : s3.size ≤ 1073741824) (h0 : -9223372036854775808 ≤ z5) (h5 : z5 ≤ 9223372036854775807) : (midL s1 s2 s3 b4 z5 b6 l).length ≤ 4294967296 := by
 have := cred_len s1 s2 h1 h2
 have := port_len z5 h0 h5
 have hl3 : s3.data.toList.length = s3.size := Array.length_toList
 unfold midL
 split
 ·rw [List.length_append, List.length_append, List.length_append]; simp; omega
 ·split <;> simp
theorem isB_below {B b : Nat} {l : List UInt8} {w w' : World} (h : IsB B b l w) (hb : Below w.heap.size w w') : IsB B b l w' := by
 rcases h with ⟨h1, v, h2, h3, h4⟩ | ⟨h1, v, h2, h3, h4⟩
 ·exact Or.inl ⟨h1, v, (hb.block _ (Array.getElem?_eq_some_iff.1 h2).1).trans h2, owns_below h3 hb, h4⟩
 ·exact Or.inr ⟨h1, v, (hb.block _ (Array.getElem?_eq_some_iff.1 h2).1).trans h2, owns_below h3 hb, h4⟩
set_option maxRecDepth 100000 in
set_option maxHeartbeats 8000000 in
theorem bare_far (s0 : ByteArray) (s1 : ByteArray) (s2 : ByteArray) (s3 : ByteArray) (b4 : Bool) (z5 : Int) (b6 : Bool) (s7 : ByteArray) (A : Option Addr) (n cap : Nat) (l : List ByteArray) (b9 : Bool) (b10 : Bool) (s11 : ByteArray) (s12 : ByteArray) (w : World) (hR : Rds w A n (l.map Value.string)) (hnc : n ≤ cap) (hcm : cap ≤ maxLen) (hs0 : s0.size ≤ 1073741824) (hs1 : s1.size ≤ 1073741824) (hs2 : s2.size ≤ 1073741824) (hs3 : s3.size ≤ 1073741824) (hs7 : s7.size ≤ 1073741824) (hs11 : s11.size ≤ 1073741824) (hz : -9223372036854775808 ≤ z5) (hz' : z5 ≤ 9223372036854775807) (hl : (pth l).length ≤ 1073741824) (hT : Tab.Pow w) :
  Calls Tryz.prog 75 #[.agg #[.string s0, .string s1, .string s2, .string s3, .bool b4, .int .i64 z5, .bool b6, .string s7, .slice A n cap, .bool b9, .bool b10, .string s11, .string s12]] w fun e w' => e = .returned (.string (strOf (bareL s0 s1 s2 s3 b4 z5 b6 s7 l b9 s11))) ∧ Below w.heap.size w w' := by
 have hl0 : s0.data.toList.length = s0.size := Array.length_toList
 have hl3 : s3.data.toList.length = s3.size := Array.length_toList
 have hl7 : s7.data.toList.length = s7.size := Array.length_toList
 have hl11 : s11.data.toList.length = s11.size := Array.length_toList
 have hn : l.length = n := by rw [← hR.1, List.length_map]
 have HN := hid hn
 have HCL := hid (cred_len s1 s2 hs1 hs2)
 have HIT := hid (itoa_len z5 hz hz')
 have HML := hid (mid_len s1 s2 s3 b4 z5 b6 l hs1 hs2 hs3 hz hz')
 have HLA : Hid ((s0.data.toList ++ [58]).length ≤ 1073741825) := by show _ ≤ _; rw [List.length_append]; simp; omega
 obtain ⟨CA, hCA⟩ : ∃ X, X = [47, 47] ++ credL s1 s2 := ⟨_, rfl⟩
 obtain ⟨CB, hCB⟩ : ∃ X, X = CA ++ s3.data.toList := ⟨_, rfl⟩
 have hCAl : CA.length ≤ 2147483652 := by rw [hCA, List.length_append]; have := HCL.out; simp; omega
 have HLB : Hid (CB.length ≤ 3221225476) := by show _ ≤ _; rw [hCB, List.length_append]; omega
 have a2 : ∀ w : World, (Op.stringOp .add ⟨#[47, 47]⟩ (strOf (credL s1 s2))).run Tryz.prog w = .ok (.string (strOf CA)) w := fun w => by rw [hCA]; exact str_add' ⟨#[47, 47]⟩ _ w (by rw [size_strOf]; have := HCL.out; show 2 + _ ≤ _; omega)
 have a3 : ∀ w : World, (Op.stringOp .add (strOf CA) s3).run Tryz.prog w = .ok (.string (strOf CB)) w := fun w => by rw [hCB]; exact str_add' _ s3 w (by rw [size_strOf]; omega)
 have HCB : Hid (CB = [47, 47] ++ credL s1 s2 ++ s3.data.toList) := by show _ = _; rw [hCB, hCA]
 clear hCA hCB hCAl
 have HPA : Hid ((pathL b6 s7 l).length ≤ 1073741824) := by show _ ≤ _; unfold pathL; split <;> omega
 have a1 : ∀ w : World, (Op.stringOp .add s0 ⟨#[58]⟩).run Tryz.prog w = .ok (.string (strOf (s0.data.toList ++ [58]))) w := fun w => str_add' s0 ⟨#[58]⟩ w (by show s0.size + 1 ≤ _; omega)
 obtain ⟨QL, hQL⟩ : ∃ X, X = [63] ++ s11.data.toList := ⟨_, rfl⟩
 have a5 : ∀ w : World, (Op.stringOp .add ⟨#[63]⟩ s11).run Tryz.prog w = .ok (.string (strOf QL)) w := fun w => by rw [hQL]; exact str_add' ⟨#[63]⟩ s11 w (by show 1 + s11.size ≤ _; omega)
 have HQLL : Hid (QL.length ≤ 1073741825) := by show _ ≤ _; rw [hQL, List.length_append]; simp; omega
 have HQL := hid hQL
 clear hQL
 clear hl0 hl3 hl7 hl11 hn
 have HR := hid hR
 have HLL := hid hl
 have HT := hid hT
 clear hR hl hT
 unfold maxLen at hcm
 go_enter Tryz.func75, Tryz.ntmps75
 go_upto_region 1 with (fail)
 generalize hw1 : w.alloc _ = w1
 have hb1 : Below w.heap.size w w1 := by rw [← hw1]; exact (Below.refl _ _).alloc (Nat.le_refl _) _
 have hs1' : w1.heap.size = w.heap.size + 1 := by rw [← hw1]; simp
 have HBX1 : Hid (Box w1 w.heap.size #[.string s0, .string s1, .string s2, .string s3, .bool b4, .int .i64 z5, .bool b6, .string s7, .slice A n cap, .bool b9, .bool b10, .string s11, .string s12]) := by
  show _ = _
  rw [← hw1]
  exact heap_alloc_new w _
 clear hw1
 go_upto_region 2 with (fail)
 have HB2 : Hid (IsB (w.heap.size + 1) (w.heap.size + 1) [] (w1.alloc (.cells #[.pointer none, .slice none 0 0] 213))) := by
  have h := Lib.fresh_isBuilder 213 5 w1
  rw [hs1'] at h
  exact h
 have hb12 : Below (w.heap.size + 1) w1 (w1.alloc (.cells #[.pointer none, .slice none 0 0] 213)) := (Below.refl _ _).alloc (by rw [hs1']; exact Nat.le_refl _) _
 have hs2' : (w1.alloc (.cells #[.pointer none, .slice none 0 0] 213)).heap.size = w.heap.size + 2 := by simp [hs1']
 generalize hw2 : w1.alloc _ = w2 at HB2 hb12 hs2' ⊢
 clear hw2
 have hb02 : Below w.heap.size w w2 := hb1.trans (hb12.mono (by omega))
 have hbx := HBX1.out.below hb12 (by omega)
 have HBX2 := hid hbx
 obtain ⟨c0, c1, c2, c3, c4, c5, c6, c7, c8, c9, c10, c11, c12⟩ := cells13 hbx
 clear hbx
 have hsz2 : w.heap.size + 1 ≤ w2.heap.size := by omega
 clear hs1' hs2'
 go_wp2_with fail
 refine (write_any _ _ _ _ _ HB2.out (by rw [size_strOf]; have := HLA.out; simp at this ⊢; omega) hsz2).mono ?_
 rintro e w3 ⟨rfl, HB3', hb23⟩
 have HB3 : Hid (IsB (w.heap.size + 1) (w.heap.size + 1) (s0.data.toList ++ [58]) w3) := HB3'
 have hsz3 : w.heap.size + 1 ≤ w3.heap.size := by have := hb23.size; omega
 have hbx := HBX2.out.below hb23 (by omega : w.heap.size < w.heap.size + 1)
 have HBX3 := hid hbx
 clear HB3' c0 c1 c2 c3 c4 c5 c6 c7 c8 c9 c10 c11 c12
 obtain ⟨c0, c1, c2, c3, c4, c5, c6, c7, c8, c9, c10, c11, c12⟩ := cells13 hbx
 clear hbx
 go_upto_if 9 with (fail)
 go_cut [] (fun wx => Hid (IsB (w.heap.size + 1) (w.heap.size + 1) (s0.data.toList ++ [58] ++ midL s1 s2 s3 b4 z5 b6 l) wx) ∧ Hid (Below (w.heap.size + 1) w2 wx))
 case first =>
  cases b4 with
  | true =>
   go_wp2_with fail
   clear c0 c1 c2 c3 c4 c5 c6 c7 c8 c9 c10 c11 c12
   refine wp_region_rel_tail (by kernel_rfl) 6 [is (.agg #[.string s0, .string s1, .string s2, .string s3, .bool true, .int .i64 z5, .bool b6, .string s7, .slice A n cap, .bool b9, .bool b10, .string s11, .string s12]), is (.string (strOf (credL s1 s2))), is (.string (strOf CA)), is (.pointer (some ⟨w.heap.size, 3, none⟩)), is (.string s3), is (.string (strOf CB))] [[], [0], [0, 1], [], [3], [0, 1, 2, 3, 4], [0, 1, 2, 3, 4, 5]] (by kernel_rfl) ?_ ?_
   ·refine ⟨?_, ?_, ?_, ?_, ?_, ?_, trivial⟩
    ·intro t wq hbq hh K hK
     clear hh
     simp only [filled, filledN, upd, Have, is, any, row, pick, Act.put, List.setIfInBounds_toArray, List.set_cons_zero, List.set_cons_succ, Nat.reduceAdd, Nat.reduceEqDiff, reduceIte] at hK ⊢
     have hbx := HBX3.out.below hbq (by omega)
     obtain ⟨c0, c1, c2, c3, c4, c5, c6, c7, c8, c9, c10, c11, c12⟩ := cells13 hbx
     clear hbx
     go_simp
     exact hK _ _ (Below.refl _ _) rfl
    ·intro t wq hbq hh K hK
     have e0 := hh.1
     simp only [pick] at e0
     replace e0 : t 0 = (.agg #[.string s0, .string s1, .string s2, .string s3, .bool true, .int .i64 z5, .bool b6, .string s7, .slice A n cap, .bool b9, .bool b10, .string s11, .string s12]) := e0
     clear hh
     simp only [filled, filledN, upd, Have, is, any, row, pick, Act.put, List.setIfInBounds_toArray, List.set_cons_zero, List.set_cons_succ, Nat.reduceAdd, Nat.reduceEqDiff, reduceIte] at hK ⊢
     simp only [e0] at hK ⊢
     go_simp
     refine (cred_any s0 s1 s2 s3 true z5 b6 s7 A n cap l b9 b10 s11 s12 _ hs1 hs2).mono ?_
     rintro e w5 ⟨rfl, hb5⟩
     exact hK _ _ hb5 rfl
    ·intro t wq hbq hh K hK
     have e1 := hh.2.1
     simp only [pick] at e1
     replace e1 : t 1 = (.string (strOf (credL s1 s2))) := e1
     clear hh
     simp only [filled, filledN, upd, Have, is, any, row, pick, Act.put, List.setIfInBounds_toArray, List.set_cons_zero, List.set_cons_succ, Nat.reduceAdd, Nat.reduceEqDiff, reduceIte] at hK ⊢
     simp only [e1] at hK ⊢
     have hadd := a2 wq
     go_simp
     exact hK _ _ (Below.refl _ _) rfl
    ·intro t wq hbq hh K hK
     clear hh
     simp only [filled, filledN, upd, Have, is, any, row, pick, Act.put, List.setIfInBounds_toArray, List.set_cons_zero, List.set_cons_succ, Nat.reduceAdd, Nat.reduceEqDiff, reduceIte] at hK ⊢
     go_simp
     exact hK _ _ (Below.refl _ _) rfl
    ·intro t wq hbq hh K hK
     have e3 := hh.1
     simp only [pick] at e3
     replace e3 : t 3 = (.pointer (some ⟨w.heap.size, 3, none⟩)) := e3
     clear hh
     simp only [filled, filledN, upd, Have, is, any, row, pick, Act.put, List.setIfInBounds_toArray, List.set_cons_zero, List.set_cons_succ, Nat.reduceAdd, Nat.reduceEqDiff, reduceIte] at hK ⊢
     simp only [e3] at hK ⊢
     have hbx := HBX3.out.below hbq (by omega)
     obtain ⟨c0, c1, c2, c3, c4, c5, c6, c7, c8, c9, c10, c11, c12⟩ := cells13 hbx
     clear hbx
     go_simp
     exact hK _ _ (Below.refl _ _) rfl
    ·intro t wq hbq hh K hK
     have e2 := hh.2.2.1
     simp only [pick] at e2
     replace e2 : t 2 = (.string (strOf CA)) := e2
     have e4 := hh.2.2.2.2.1
     simp only [pick] at e4
     replace e4 : t 4 = (.string s3) := e4
     clear hh
     simp only [filled, filledN, upd, Have, is, any, row, pick, Act.put, List.setIfInBounds_toArray, List.set_cons_zero, List.set_cons_succ, Nat.reduceAdd, Nat.reduceEqDiff, reduceIte] at hK ⊢
     simp only [e2, e4] at hK ⊢
     have hadd := a3 wq
     go_simp
     exact hK _ _ (Below.refl _ _) rfl
   ·intro t wq hbq hh
    have f5 := have_get hh 5 (by decide)
    simp only [pick] at f5
    replace f5 : t 5 = (.string (strOf CB)) := f5
    clear hh
    simp only [filled, filledN, upd, Have, is, any, row, pick, Act.put, List.setIfInBounds_toArray, List.set_cons_zero, List.set_cons_succ, Nat.reduceAdd, Nat.reduceEqDiff, reduceIte]
    simp only [f5]
    have HB4 := HB3.out
    go_wp2_with fail
    refine (write_any _ _ _ _ _ (isB_below HB3.out hbq) (by rw [size_strOf]; have := HLA.out; have := HLB.out; omega) (by have := hbq.size; omega)).mono ?_
    rintro e w5 ⟨rfl, HB5, hb5⟩
    rw [length_strOf_data] at HB5
    have hb35 := hb23.trans ((hbq.mono (by omega)).trans hb5)
    have hbx := HBX3.out.below ((hbq.mono (by omega)).trans hb5) (by omega : w.heap.size < w.heap.size + 1)
    have HBX5 := hid hbx
    obtain ⟨c0, c1, c2, c3, c4, c5, c6, c7, c8, c9, c10, c11, c12⟩ := cells13 hbx
    clear hbx HB4
    have hsz5 : w.heap.size + 1 ≤ w5.heap.size := by have := hb35.size; omega
    by_cases hp : z5 = -1
    ·have q1 : (z5 == -1) = true := by simpa using hp
     have q2 : (z5 != -1) = false := by simpa using hp
     have HP : Hid (portL z5 = []) := if_pos hp
     clear hp
     go_wp2
     go_meet
     refine ⟨?_, hb35⟩
     have e : s0.data.toList ++ [58] ++ midL s1 s2 s3 true z5 b6 l = s0.data.toList ++ [58] ++ CB := by unfold midL; rw [if_pos rfl, HP.out, List.append_nil, HCB.out]
     show IsB _ _ _ _
     rw [e]
     exact HB5
    ·have q1 : (z5 == -1) = false := by simpa using hp
     have q2 : (z5 != -1) = true := by simpa using hp
     have HP : Hid (portL z5 = 58 :: Lib.itoa z5) := if_neg hp
     clear hp
     obtain ⟨IT, hIT⟩ : ∃ X, X = [58] ++ Lib.itoa z5 := ⟨_, rfl⟩
     have a4 : ∀ w : World, (Op.stringOp .add ⟨#[58]⟩ (strOf (Lib.itoa z5))).run Tryz.prog w = .ok (.string (strOf IT)) w := fun w => by rw [hIT]; exact str_add' ⟨#[58]⟩ _ w (by rw [size_strOf]; have := HIT.out; show 1 + _ ≤ _; omega)
     have HITL : Hid (IT.length ≤ 21) := by show _ ≤ _; rw [hIT, List.length_append]; have := HIT.out; simp; omega
     have HITE := hid hIT
     clear hIT
     go_wp2_with fail
     refine (itoa_int z5 hz hz' _ (HT.out.below (hb02.trans (hb35.mono (by omega))))).mono ?_
     rintro e w6 ⟨rfl, hb6⟩
     go_wp2_with fail
     refine (write_any _ _ _ _ _ (isB_below HB5 hb6) (by rw [size_strOf, List.length_append]; have := HITL.out; have := HLA.out; have := HLB.out; omega) (by have := hb6.size; omega)).mono ?_
     rintro e w7 ⟨rfl, HB7, hb7⟩
     rw [length_strOf_data] at HB7
     go_wp2
     go_meet
     refine ⟨?_, hb35.trans ((hb6.mono hsz5).trans hb7)⟩
     have e : s0.data.toList ++ [58] ++ midL s1 s2 s3 true z5 b6 l = s0.data.toList ++ [58] ++ CB ++ IT := by unfold midL; rw [if_pos rfl, HP.out, HCB.out, HITE.out]; simp
     show IsB _ _ _ _
     rw [e]
     exact HB7
  | false =>
   cases b6 with
   | true =>
    go_wp2
    go_meet
    refine ⟨?_, hb23⟩
    show IsB _ _ (_ ++ []) _
    rw [List.append_nil]
    exact HB3.out
   | false =>
    by_cases h1n : 1 < n
    ·obtain ⟨x, y, r, hlx⟩ : ∃ x y r, l = x :: y :: r := by
      have := HN.out
      match l, this with
      | x :: y :: r, _ => exact ⟨x, y, r, rfl⟩
      | [_], h => simp at h; omega
      | [], h => simp at h; omega
     have hRr := HR.out.below (hb02.trans (hb23.mono (by omega)))
     obtain ⟨g, off, rfl, hg, hcell⟩ := hRr.spot (by omega)
     have hc := hcell 0 (by rw [List.length_map, HN.out]; omega)
     have e0 : (l.map Value.string)[0]'(by rw [List.length_map, HN.out]; omega) = .string x := by simp [hlx]
     rw [e0, Nat.add_zero] at hc
     have HD : Hid (dotted false l = decide (x.data.toList = [])) := by show _ = _; rw [hlx]; rfl
     clear hRr hcell e0 hlx
     by_cases hx : x.data.toList = []
     ·have q1 : x.toList = [] := by rw [tl]; exact hx
      have HDD : Hid (dotted false l = true) := HD.out.trans (decide_eq_true hx)
      clear hx
      go_wp2_with fail
      refine (write_any _ _ _ _ _ HB3.out (by have := HLA.out; show _ + 2 ≤ _; omega) hsz3).mono ?_
      rintro e w5 ⟨rfl, HB5, hb5⟩
      go_wp2
      go_meet
      refine ⟨?_, hb23.trans hb5⟩
      have e : s0.data.toList ++ [58] ++ midL s1 s2 s3 false z5 false l = s0.data.toList ++ [58] ++ [47, 46] := by unfold midL; rw [if_neg (by decide), if_pos HDD.out]
      show IsB _ _ _ _
      rw [e]
      exact HB5
     ·have q1 : (x.toList == []) = false := by rw [tl]; simpa using hx
      have q1' : x.toList.isEmpty = false := by rw [tl]; simpa using hx
      have HDD : Hid (¬ dotted false l = true) := by show ¬ _; rw [HD.out]; simpa using hx
      clear hx
      go_wp2
      go_meet
      refine ⟨?_, hb23⟩
      have e : s0.data.toList ++ [58] ++ midL s1 s2 s3 false z5 false l = s0.data.toList ++ [58] := by unfold midL; rw [if_neg (by decide), if_neg HDD.out, List.append_nil]
      show IsB _ _ _ _
      rw [e]
      exact HB3.out
    ·have HDD : Hid (¬ dotted false l = true) := by
      have := HN.out
      match l, this with
      | x :: y :: r, h => simp at h; omega
      | [_], h => simp [dotted, Hid]
      | [], h => simp [dotted, Hid]
     go_wp2
     go_meet
     refine ⟨?_, hb23⟩
     have e : s0.data.toList ++ [58] ++ midL s1 s2 s3 false z5 false l = s0.data.toList ++ [58] := by unfold midL; rw [if_neg (by decide), if_neg HDD.out, List.append_nil]
     show IsB _ _ _ _
     rw [e]
     exact HB3.out
 case rest =>
 obtain ⟨HB4, HB24⟩ := hcut
 clear c0 c1 c2 c3 c4 c5 c6 c7 c8 c9 c10 c11 c12
 have hbx := HBX2.out.below HB24.out (by omega : w.heap.size < w.heap.size + 1)
 have HBX4 := hid hbx
 obtain ⟨c0, c1, c2, c3, c4, c5, c6, c7, c8, c9, c10, c11, c12⟩ := cells13 hbx
 clear hbx
 have hsz4 : w.heap.size + 1 ≤ wc.heap.size := by have := HB24.out.size; omega
 go_wp2_with fail
 refine (path_any s0 s1 s2 s3 b4 z5 b6 s7 A n cap l b9 b10 s11 s12 _ (HR.out.below (hb02.trans (HB24.out.mono (by omega)))) hnc (by unfold maxLen; omega) hs7 HLL.out).mono ?_
 rintro e w5 ⟨rfl, hb5⟩
 go_wp2_with fail
 have hml := HML.out
 have hla := HLA.out
 have hpa := HPA.out
 have HLC : Hid ((s0.data.toList ++ [58] ++ midL s1 s2 s3 b4 z5 b6 l).length ≤ 5368709121) := by show _ ≤ _; rw [List.length_append]; omega
 have HLD : Hid ((s0.data.toList ++ [58] ++ midL s1 s2 s3 b4 z5 b6 l ++ pathL b6 s7 l).length ≤ 6442450945) := by show _ ≤ _; rw [List.length_append]; have := HLC.out; omega
 clear hml hla hpa
 refine (write_any _ _ _ _ _ (isB_below HB4.out hb5) (by rw [size_strOf]; have := HLC.out; have := HPA.out; omega) (by have := hb5.size; omega)).mono ?_
 rintro e w6 ⟨rfl, HB6, hb6⟩
 rw [length_strOf_data] at HB6
 have hb26 := HB24.out.trans ((hb5.mono hsz4).trans hb6)
 have hsz6 : w.heap.size + 1 ≤ w6.heap.size := by have := hb26.size; omega
 clear c0 c1 c2 c3 c4 c5 c6 c7 c8 c9 c10 c11 c12
 have hbx := HBX2.out.below hb26 (by omega : w.heap.size < w.heap.size + 1)
 obtain ⟨c0, c1, c2, c3, c4, c5, c6, c7, c8, c9, c10, c11, c12⟩ := cells13 hbx
 clear hbx
 have HB6' := hid HB6
 clear HB6
 cases b9 with
 | false =>
  go_wp2_with fail
  refine (string_any _ _ _ _ HB6'.out hsz6).mono ?_
  rintro e w7 ⟨rfl, hb7⟩
  go_wp2
  go_ret
  refine ⟨?_, hb02.trans ((hb26.trans hb7).mono (by omega))⟩
  have e : bareL s0 s1 s2 s3 b4 z5 b6 s7 l false s11 = s0.data.toList ++ [58] ++ midL s1 s2 s3 b4 z5 b6 l ++ pathL b6 s7 l := by unfold bareL; rw [if_neg (by decide), List.append_nil]
  refine congrArg (fun X => Ending.returned (.string (strOf X))) ?_
  rw [e]
  simp
 | true =>
  go_wp2_with fail
  refine (write_any _ _ _ _ _ HB6'.out (by rw [size_strOf]; have := HLD.out; have := HQLL.out; omega) hsz6).mono ?_
  rintro e w7 ⟨rfl, HB7, hb7⟩
  rw [length_strOf_data] at HB7
  go_wp2_with fail
  refine (string_any _ _ _ _ HB7 (by have := hb7.size; omega)).mono ?_
  rintro e w8 ⟨rfl, hb8⟩
  go_wp2
  go_ret
  refine ⟨?_, hb02.trans (((hb26.trans hb7).trans hb8).mono (by omega))⟩
  have e : bareL s0 s1 s2 s3 b4 z5 b6 s7 l true s11 = s0.data.toList ++ [58] ++ midL s1 s2 s3 b4 z5 b6 l ++ pathL b6 s7 l ++ QL := by unfold bareL; rw [if_pos rfl, HQL.out]; rfl
  refine congrArg (fun X => Ending.returned (.string (strOf X))) ?_
  rw [e]
  simp
theorem bare_any (s0 : ByteArray) (s1 : ByteArray) (s2 : ByteArray) (s3 : ByteArray) (b4 : Bool) (z5 : Int) (b6 : Bool) (s7 : ByteArray) (A : Option Addr) (n cap : Nat) (l : List ByteArray) (b9 : Bool) (b10 : Bool) (s11 : ByteArray) (s12 : ByteArray) (w : World) (hR : Rds w A n (l.map Value.string)) (hnc : n ≤ cap) (hcm : cap ≤ maxLen) (hs0 : s0.size ≤ 1073741824) (hs1 : s1.size ≤ 1073741824) (hs2 : s2.size ≤ 1073741824) (hs3 : s3.size ≤ 1073741824) (hs7 : s7.size ≤ 1073741824) (hs11 : s11.size ≤ 1073741824) (hs12 : s12.size ≤ 1073741824) (hz : -9223372036854775808 ≤ z5) (hz' : z5 ≤ 9223372036854775807) (hl : (pth l).length ≤ 1073741824) (hT : Tab.Pow w) :
  Calls Tryz.prog 75 #[.agg #[.string s0, .string s1, .string s2, .string s3, .bool b4, .int .i64 z5, .bool b6, .string s7, .slice A n cap, .bool b9, .bool b10, .string s11, .string s12]] w fun e w' => e = .returned (.string (strOf (bareL s0 s1 s2 s3 b4 z5 b6 s7 l b9 s11))) ∧ Below w.heap.size w w' :=
 bare_far s0 s1 s2 s3 b4 z5 b6 s7 A n cap l b9 b10 s11 s12 w hR hnc hcm hs0 hs1 hs2 hs3 hs7 hs11 hz hz' hl hT
theorem bare_len (s0 : ByteArray) (s1 : ByteArray) (s2 : ByteArray) (s3 : ByteArray) (b4 : Bool) (z5 : Int) (b6 : Bool) (s7 : ByteArray) (A : Option Addr) (n cap : Nat) (l : List ByteArray) (b9 : Bool) (b10 : Bool) (s11 : ByteArray) (s12 : ByteArray) (hs0 : s0.size ≤ 1073741824) (hs1 : s1.size ≤ 1073741824) (hs2 : s2.size ≤ 1073741824) (hs3 : s3.size ≤ 1073741824) (hs7 : s7.size ≤ 1073741824) (hs11 : s11.size ≤ 1073741824) (hs12 : s12.size ≤ 1073741824) (hz : -9223372036854775808 ≤ z5) (hz' : z5 ≤ 9223372036854775807) (hl : (pth l).length ≤ 1073741824) : (bareL s0 s1 s2 s3 b4 z5 b6 s7 l b9 s11).length ≤ 8589934592 := by
 have hl0 : s0.data.toList.length = s0.size := Array.length_toList
 have hl7 : s7.data.toList.length = s7.size := Array.length_toList
 have hl11 : s11.data.toList.length = s11.size := Array.length_toList
 have := mid_len s1 s2 s3 b4 z5 b6 l hs1 hs2 hs3 hz hz'
 unfold bareL pathL
 rw [List.length_append, List.length_append, List.length_append, List.length_append]
 split <;> split <;> simp <;> omega
set_option maxRecDepth 100000 in
set_option maxHeartbeats 8000000 in
theorem print_any (s0 : ByteArray) (s1 : ByteArray) (s2 : ByteArray) (s3 : ByteArray) (b4 : Bool) (z5 : Int) (b6 : Bool) (s7 : ByteArray) (A : Option Addr) (n cap : Nat) (l : List ByteArray) (b9 : Bool) (b10 : Bool) (s11 : ByteArray) (s12 : ByteArray) (w : World) (hR : Rds w A n (l.map Value.string)) (hnc : n ≤ cap) (hcm : cap ≤ maxLen) (hs0 : s0.size ≤ 1073741824) (hs1 : s1.size ≤ 1073741824) (hs2 : s2.size ≤ 1073741824) (hs3 : s3.size ≤ 1073741824) (hs7 : s7.size ≤ 1073741824) (hs11 : s11.size ≤ 1073741824) (hs12 : s12.size ≤ 1073741824) (hz : -9223372036854775808 ≤ z5) (hz' : z5 ≤ 9223372036854775807) (hl : (pth l).length ≤ 1073741824) (hT : Tab.Pow w) :
  Calls Tryz.prog 59 #[.agg #[.string s0, .string s1, .string s2, .string s3, .bool b4, .int .i64 z5, .bool b6, .string s7, .slice A n cap, .bool b9, .bool b10, .string s11, .string s12]] w fun e w' => e = .returned (.string (strOf (printL s0 s1 s2 s3 b4 z5 b6 s7 l b9 b10 s11 s12))) ∧ Below w.heap.size w w' := by
 have hcm' := hcm
 unfold maxLen at hcm
 have hl12 : s12.data.toList.length = s12.size := Array.length_toList
 obtain ⟨BL, hBL⟩ : ∃ X, X = bareL s0 s1 s2 s3 b4 z5 b6 s7 l b9 s11 := ⟨_, rfl⟩
 have hbl : BL.length ≤ 8589934592 := by rw [hBL]; exact bare_len s0 s1 s2 s3 b4 z5 b6 s7 A n cap l b9 b10 s11 s12 hs0 hs1 hs2 hs3 hs7 hs11 hs12 hz hz' hl
 have HBL := hid hBL
 obtain ⟨BM, hBM⟩ : ∃ X, X = BL ++ [35] := ⟨_, rfl⟩
 obtain ⟨BN, hBN⟩ : ∃ X, X = BM ++ s12.data.toList := ⟨_, rfl⟩
 have a1 : ∀ w : World, (Op.stringOp .add (strOf BL) ⟨#[35]⟩).run Tryz.prog w = .ok (.string (strOf BM)) w := fun w => by rw [hBM]; exact str_add' _ ⟨#[35]⟩ w (by rw [size_strOf]; show _ + 1 ≤ _; omega)
 have a2 : ∀ w : World, (Op.stringOp .add (strOf BM) s12).run Tryz.prog w = .ok (.string (strOf BN)) w := fun w => by rw [hBN]; exact str_add' _ s12 w (by rw [size_strOf, hBM, List.length_append]; simp; omega)
 have HBN : Hid (BN = BL ++ [35] ++ s12.data.toList) := by show _ = _; rw [hBN, hBM]
 clear hBL hBM hBN hl12 hbl
 have HR := hid hR
 have HLL := hid hl
 have HT := hid hT
 clear hR hl hT
 cases b10 with
 | true =>
  go_enter Tryz.func59, Tryz.ntmps59
  go_upto_region 1 with (fail)
  generalize hw1 : w.alloc _ = w1
  have hb1 : Below w.heap.size w w1 := by rw [← hw1]; exact (Below.refl _ _).alloc (Nat.le_refl _) _
  have hlt1 : w.heap.size < w1.heap.size := by rw [← hw1]; simp
  have HBX1 : Hid (Box w1 w.heap.size #[.string s0, .string s1, .string s2, .string s3, .bool b4, .int .i64 z5, .bool b6, .string s7, .slice A n cap, .bool b9, .bool true, .string s11, .string s12]) := by
   show _ = _
   rw [← hw1]
   exact heap_alloc_new w _
  clear hw1
  obtain ⟨c0, c1, c2, c3, c4, c5, c6, c7, c8, c9, c10, c11, c12⟩ := cells13 HBX1.out
  go_wp2_with fail
  clear c0 c1 c2 c3 c4 c5 c6 c7 c8 c9 c10 c11 c12
  refine wp_region_rel (by kernel_rfl) [is (.agg #[.string s0, .string s1, .string s2, .string s3, .bool b4, .int .i64 z5, .bool b6, .string s7, .slice A n cap, .bool b9, .bool true, .string s11, .string s12]), is (.string (strOf BL)), is (.string (strOf BM)), is (.pointer (some ⟨w.heap.size, 12, none⟩)), is (.string s12), is (.string (strOf BN)), is (.string (strOf BN))] [[], [0], [1], [], [3], [2, 4], [5]] (by kernel_rfl) ?_ ?_
  ·refine ⟨?_, ?_, ?_, ?_, ?_, ?_, ?_, trivial⟩
   ·intro t wq hbq hh K hK
    clear hh
    simp only [filled, upd, Have, is, any, row, pick, Act.put, List.setIfInBounds_toArray, List.set_cons_zero, List.set_cons_succ, Nat.reduceAdd, Nat.reduceEqDiff, reduceIte] at hK ⊢
    have hbx := HBX1.out.below hbq hlt1
    obtain ⟨c0, c1, c2, c3, c4, c5, c6, c7, c8, c9, c10, c11, c12⟩ := cells13 hbx
    clear hbx
    go_simp
    exact hK _ _ (Below.refl _ _) rfl
   ·intro t wq hbq hh K hK
    have e0 := hh.1
    simp only [pick] at e0
    replace e0 : t 0 = (.agg #[.string s0, .string s1, .string s2, .string s3, .bool b4, .int .i64 z5, .bool b6, .string s7, .slice A n cap, .bool b9, .bool true, .string s11, .string s12]) := e0
    clear hh
    simp only [filled, upd, Have, is, any, row, pick, Act.put, List.setIfInBounds_toArray, List.set_cons_zero, List.set_cons_succ, Nat.reduceAdd, Nat.reduceEqDiff, reduceIte] at hK ⊢
    simp only [e0] at hK ⊢
    go_simp
    refine (bare_any s0 s1 s2 s3 b4 z5 b6 s7 A n cap l b9 true s11 s12 _ (HR.out.below (hb1.trans (hbq.mono (by omega)))) hnc hcm' hs0 hs1 hs2 hs3 hs7 hs11 hs12 hz hz' HLL.out ((HT.out.below (hb1.trans (hbq.mono (by omega)))))).mono ?_
    rintro e w5 ⟨rfl, hb5⟩
    rw [← HBL.out]
    exact hK _ _ hb5 rfl
   ·intro t wq hbq hh K hK
    have e1 := hh.1
    simp only [pick] at e1
    replace e1 : t 1 = (.string (strOf BL)) := e1
    clear hh
    simp only [filled, upd, Have, is, any, row, pick, Act.put, List.setIfInBounds_toArray, List.set_cons_zero, List.set_cons_succ, Nat.reduceAdd, Nat.reduceEqDiff, reduceIte] at hK ⊢
    simp only [e1] at hK ⊢
    have hadd := a1 wq
    go_simp
    exact hK _ _ (Below.refl _ _) rfl
   ·intro t wq hbq hh K hK
    clear hh
    simp only [filled, upd, Have, is, any, row, pick, Act.put, List.setIfInBounds_toArray, List.set_cons_zero, List.set_cons_succ, Nat.reduceAdd, Nat.reduceEqDiff, reduceIte] at hK ⊢
    go_simp
    exact hK _ _ (Below.refl _ _) rfl
   ·intro t wq hbq hh K hK
    have e3 := hh.1
    simp only [pick] at e3
    replace e3 : t 3 = (.pointer (some ⟨w.heap.size, 12, none⟩)) := e3
    clear hh
    simp only [filled, upd, Have, is, any, row, pick, Act.put, List.setIfInBounds_toArray, List.set_cons_zero, List.set_cons_succ, Nat.reduceAdd, Nat.reduceEqDiff, reduceIte] at hK ⊢
    simp only [e3] at hK ⊢
    have hbx := HBX1.out.below hbq hlt1
    obtain ⟨c0, c1, c2, c3, c4, c5, c6, c7, c8, c9, c10, c11, c12⟩ := cells13 hbx
    clear hbx
    go_simp
    exact hK _ _ (Below.refl _ _) rfl
   ·intro t wq hbq hh K hK
    have e2 := hh.1
    simp only [pick] at e2
    replace e2 : t 2 = (.string (strOf BM)) := e2
    have e4 := hh.2.1
    simp only [pick] at e4
    replace e4 : t 4 = (.string s12) := e4
    clear hh
    simp only [filled, upd, Have, is, any, row, pick, Act.put, List.setIfInBounds_toArray, List.set_cons_zero, List.set_cons_succ, Nat.reduceAdd, Nat.reduceEqDiff, reduceIte] at hK ⊢
    simp only [e2, e4] at hK ⊢
    have hadd := a2 wq
    go_simp
    exact hK _ _ (Below.refl _ _) rfl
   ·intro t wq hbq hh K hK
    have e5 := hh.1
    simp only [pick] at e5
    replace e5 : t 5 = (.string (strOf BN)) := e5
    clear hh
    simp only [filled, upd, Have, is, any, row, pick, Act.put, List.setIfInBounds_toArray, List.set_cons_zero, List.set_cons_succ, Nat.reduceAdd, Nat.reduceEqDiff, reduceIte] at hK ⊢
    simp only [e5] at hK ⊢
    go_simp
    exact hK _ _ (Below.refl _ _) rfl
  ·intro t wq hbq hh
   have f6 := have_get hh 6 (by decide)
   simp only [pick] at f6
   replace f6 : t 6 = (.string (strOf BN)) := f6
   clear hh
   simp only [filled, upd, Have, is, any, row, pick, Act.put, List.setIfInBounds_toArray, List.set_cons_zero, List.set_cons_succ, Nat.reduceAdd, Nat.reduceEqDiff, reduceIte]
   simp only [f6]
   go_wp2
   go_ret
   refine ⟨?_, hb1.trans (hbq.mono (by omega))⟩
   have e : printL s0 s1 s2 s3 b4 z5 b6 s7 l b9 true s11 s12 = BN := by unfold printL; rw [if_pos rfl, HBN.out, ← HBL.out]; simp
   exact congrArg (fun X => Ending.returned (.string (strOf X))) e.symm
 | false =>
  clear a1 a2
  go_enter Tryz.func59, Tryz.ntmps59
  go_upto_region 1 with (fail)
  generalize hw1 : w.alloc _ = w1
  have hb1 : Below w.heap.size w w1 := by rw [← hw1]; exact (Below.refl _ _).alloc (Nat.le_refl _) _
  have HBX1 : Hid (Box w1 w.heap.size #[.string s0, .string s1, .string s2, .string s3, .bool b4, .int .i64 z5, .bool b6, .string s7, .slice A n cap, .bool b9, .bool false, .string s11, .string s12]) := by
   show _ = _
   rw [← hw1]
   exact heap_alloc_new w _
  clear hw1
  obtain ⟨c0, c1, c2, c3, c4, c5, c6, c7, c8, c9, c10, c11, c12⟩ := cells13 HBX1.out
  go_wp2_with fail
  refine (bare_any s0 s1 s2 s3 b4 z5 b6 s7 A n cap l b9 false s11 s12 _ (HR.out.below hb1) hnc hcm' hs0 hs1 hs2 hs3 hs7 hs11 hs12 hz hz' HLL.out (HT.out.below hb1)).mono ?_
  rintro e w5 ⟨rfl, hb5⟩
  go_wp2
  go_ret
  refine ⟨?_, bel hb1 hb5⟩
  have e : printL s0 s1 s2 s3 b4 z5 b6 s7 l b9 false s11 s12 = bareL s0 s1 s2 s3 b4 z5 b6 s7 l b9 s11 := by unfold printL; rw [if_neg (by decide), List.append_nil]
  exact congrArg (fun X => Ending.returned (.string (strOf X))) e.symm
end Go.Proofs.YtegpfgccaminkaaGreatDoor.UrlC
namespace Go.Proofs.YtegpfgccaminkaaGreatDoor.OpqD
open Go.RowKit Base Base2 UtfA UtfL UrlA PrsP Ubx Pbx PrsC PrsD HstC Spl PrsG PrsR PrsT PrsX PrsY OrgP OpqC
def fineC (c : UInt8) : Bool := decide (c ≠ 63) && (decide (c ≠ 35) && (decide (33 ≤ c.toNat) && decide (c.toNat ≤ 126)))
theorem fineC_of {c : UInt8} (h : fineC c = true) : c ≠ 63 ∧ c ≠ 35 ∧ 33 ≤ c.toNat ∧ c.toNat ≤ 126 := by simpa [fineC] using h
structure Fine (S R : List UInt8) : Prop where
 sch : S.all schC = true
 let0 : isSch S = true
 low : UtfL.lower S = S
 fs : S.all fineC = true
 no58 : ∀ c ∈ S, c ≠ 58
 file : S ≠ FILE
 spc : special S = false
 r : R.all fineC = true
 r0 : R ≠ []
 r47 : Lib.hasPrefix R [47] = false
theorem suffix_fine {R : List UInt8} (h : R.all fineC = true) : Lib.hasSuffix R [32] = false := by
 rcases snoc_cases R with e | ⟨M, d, e⟩
 ·rw [e]; rfl
 ·rw [e, suffix_snoc]
  rw [e, List.all_append, Bool.and_eq_true] at h
  have := fineC_of (by simpa using h.2 : fineC d = true)
  rw [decide_eq_false_iff_not]
  rintro rfl
  exact absurd this.2.2.1 (by decide)
theorem all_fine {S R F : List UInt8} (h : Fine S R) (hf : F.all fineC = true) : (∀ c ∈ S ++ 58 :: R ++ F, 33 ≤ c.toNat ∧ c.toNat ≤ 126) := by
 intro c hc
 simp only [List.mem_append, List.mem_cons] at hc
 rcases hc with (hc | rfl | hc) | hc
 ·have := fineC_of (List.all_eq_true.1 h.fs c hc); exact this.2.2
 ·decide
 ·have := fineC_of (List.all_eq_true.1 h.r c hc); exact this.2.2
 ·have := fineC_of (List.all_eq_true.1 hf c hc); exact this.2.2
theorem clean_fine {T : List UInt8} (h0 : T ≠ []) (h : ∀ c ∈ T, 33 ≤ c.toNat ∧ c.toNat ≤ 126) : clean T = T := by
 refine clean_plain (fun c hc => ⟨by have := h c hc; omega, (h c hc).2⟩) ?_ ?_
 ·match T, h0, h with
  | c :: t, _, h =>
   refine ⟨c, t, rfl, ?_⟩
   have := h c (List.mem_cons_self ..)
   simp only [low32, decide_eq_false_iff_not]; omega
 ·rcases snoc_cases T with e | ⟨M, d, e⟩
  ·rw [e]; rfl
  ·rw [e, suffix_snoc, decide_eq_false_iff_not]
   rintro rfl
   have := h 32 (by rw [e]; simp)
   exact absurd this.1 (by decide)
theorem apart_plain {S R : List UInt8} (h : Fine S R) : PrsP.apart (S ++ 58 :: R) = ⟨S, R, [], [], false, false⟩ := by
 have hall : ∀ d ∈ S ++ 58 :: R, d ≠ 63 ∧ d ≠ 35 := by
  intro d hd
  simp only [List.mem_append, List.mem_cons] at hd
  rcases hd with hd | rfl | hd
  ·have := fineC_of (List.all_eq_true.1 h.fs d hd); exact ⟨this.1, this.2.1⟩
  ·decide
  ·have := fineC_of (List.all_eq_true.1 h.r d hd); exact ⟨this.1, this.2.1⟩
 unfold PrsP.apart
 simp only
 rw [cutB_none 35 _ fun d hd => (hall d hd).2]
 simp only
 rw [cutB_none 63 _ fun d hd => (hall d hd).1]
 simp only
 rw [cutB_at 58 S R h.no58]
 simp only
 rw [if_pos (by rw [h.let0]; rfl), h.low]
theorem apart_frag {S R F : List UInt8} (h : Fine S R) : PrsP.apart (S ++ 58 :: R ++ 35 :: F) = ⟨S, R, [], F, false, true⟩ := by
 have hall : ∀ d ∈ S ++ 58 :: R, d ≠ 63 ∧ d ≠ 35 := by
  intro d hd
  simp only [List.mem_append, List.mem_cons] at hd
  rcases hd with hd | rfl | hd
  ·have := fineC_of (List.all_eq_true.1 h.fs d hd); exact ⟨this.1, this.2.1⟩
  ·decide
  ·have := fineC_of (List.all_eq_true.1 h.r d hd); exact ⟨this.1, this.2.1⟩
 unfold PrsP.apart
 simp only
 rw [cutB_at 35 _ F fun d hd => (hall d hd).2]
 simp only
 rw [cutB_none 63 _ fun d hd => (hall d hd).1]
 simp only
 rw [cutB_at 58 S R h.no58]
 simp only
 rw [if_pos (by rw [h.let0]; rfl), h.low]
theorem enc0_fine {R : List UInt8} (h : R.all fineC = true) : EscE.enc 0 R = R := EscP.enc_fix 0 _ fun d hd => by
 have := fineC_of (List.all_eq_true.1 h d hd)
 exact in0 d (by omega) this.2.2.2
def opU (S R : List UInt8) : U := { U0 with sch := S, port := -1, opq := true, txt := R }
def opF (S R F : List UInt8) : U := { opU S R with hf := true, frg := EscE.enc 1 F }
structure EnvO (w : World) : Prop where
 pow : Tab.Pow w
 max : Max w
 utab : Utab w
theorem EnvO.below {w w' : World} (h : EnvO w) (hb : Below w.heap.size w w') : EnvO w' := ⟨pow_below h.pow hb, h.max.below hb, h.utab.below hb⟩
theorem parse_p {S R : List UInt8} (h : Fine S R) (hl : (S ++ 58 :: R).length ≤ 65536) (w : World) (E : EnvO w) : Calls Tryz.prog 45 #[.string (strOf (S ++ 58 :: R)), .pointer none] w (AnsP w (some (opU S R))) := by
 have hp : PrsP.apart (clean (S ++ 58 :: R)) = ⟨S, R, [], [], false, false⟩ := by
  rw [clean_fine (by simp) fun c hc => all_fine (F := []) h rfl c (by simpa using hc), apart_plain h]
 have hS : S ≠ [] := by rintro rfl; exact absurd h.let0 (by decide)
 have := parse_opq (S ++ 58 :: R) ⟨S, R, [], [], false, false⟩ w hp.symm hl h.file h.spc hS h.r47 (by show Lib.hasSuffix (EscE.enc 0 R) [32] = false; rw [enc0_fine h.r]; exact suffix_fine h.r) E.max E.utab
 have e : PrsP.finish { U0 with sch := S, port := -1, opq := true, txt := EscE.enc 0 R } ⟨S, R, [], [], false, false⟩ = opU S R := by unfold PrsP.finish opU; simp [enc0_fine h.r]
 simp only at this
 rw [e] at this
 exact this
theorem parse_f {S R F : List UInt8} (h : Fine S R) (hf : F.all fineC = true) (hl : (S ++ 58 :: R ++ 35 :: F).length ≤ 65536) (w : World) (E : EnvO w) : Calls Tryz.prog 45 #[.string (strOf (S ++ 58 :: R ++ 35 :: F)), .pointer none] w (AnsP w (some (opF S R F))) := by
 have hp : PrsP.apart (clean (S ++ 58 :: R ++ 35 :: F)) = ⟨S, R, [], F, false, true⟩ := by
  rw [clean_fine (by simp) fun c hc => ?_, apart_frag h]
  simp only [List.mem_append, List.mem_cons] at hc
  rcases hc with hc | rfl | hc
  ·exact all_fine (F := []) h rfl c (by simpa using hc)
  ·decide
  ·have := fineC_of (List.all_eq_true.1 hf c hc); exact this.2.2
 have hS : S ≠ [] := by rintro rfl; exact absurd h.let0 (by decide)
 have := parse_opq (S ++ 58 :: R ++ 35 :: F) ⟨S, R, [], F, false, true⟩ w hp.symm hl h.file h.spc hS h.r47 (by show Lib.hasSuffix (EscE.enc 0 R) [32] = false; rw [enc0_fine h.r]; exact suffix_fine h.r) E.max E.utab
 have e : PrsP.finish { U0 with sch := S, port := -1, opq := true, txt := EscE.enc 0 R } ⟨S, R, [], F, false, true⟩ = opF S R F := by unfold PrsP.finish opF opU; simp [enc0_fine h.r]
 simp only at this
 rw [e] at this
 exact this
theorem bare_o {S R F : List UInt8} {b : Bool} (hS : S.length ≤ 1000) (hR : R.length ≤ 1000000) (hF : F.length ≤ 1000000) (A : Option Addr) (n c : Nat) (w : World) (hP : PthIs w { opU S R with hf := b, frg := F } A n c) (hT : Tab.Pow w) : Calls Tryz.prog 75 #[.agg (cells { opU S R with hf := b, frg := F } (.slice A n c))] w fun e w' => e = .returned (.string (strOf (S ++ 58 :: R))) ∧ Below w.heap.size w w' := by
 have hq := hP
 have h := UrlC.bare_any (strOf S) (strOf []) (strOf []) (strOf []) false (-1) true (strOf R) A n c [] false b (strOf []) (strOf F) w hq.1 hq.2.1 hq.2.2 (by rw [size_strOf]; omega) (by decide) (by decide) (by decide) (by rw [size_strOf]; omega) (by decide) (by rw [size_strOf]; omega) (by omega) (by omega) (by decide) hT
 have e : UrlP.bareL (strOf S) (strOf []) (strOf []) (strOf []) false (-1) true (strOf R) [] false (strOf []) = S ++ 58 :: R := by
  show S ++ [58] ++ [] ++ R ++ [] = _
  simp
 rw [e] at h
 exact h
theorem parse_c {T : List UInt8} {u : U} {w : World} (h : Calls Tryz.prog 45 #[.string (strOf T), .pointer none] w (AnsP w (some u))) : Calls Tryz.prog 45 #[.string (strOf T), .pointer none] w fun e w' => ∃ A n c, e = .returned (.tuple #[.agg (cells u (.slice A n c)), .int .i64 0]) ∧ PthIs w' u A n c ∧ Below w.heap.size w w' :=
 h.mono fun e w' ⟨h1, A, n, c, h2, h3⟩ => ⟨A, n, c, h2, h3.pth, h1⟩
end Go.Proofs.YtegpfgccaminkaaGreatDoor.OpqD
