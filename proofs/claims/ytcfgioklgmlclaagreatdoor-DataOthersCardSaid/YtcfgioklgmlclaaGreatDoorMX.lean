/- Texts that belong together: UrlD. -/
import Derived.Test.YtcfgioklgmlclaaGreatDoorMP
set_option linter.unusedSimpArgs false
set_option linter.unusedVariables false
set_option maxRecDepth 100000
set_option maxHeartbeats 64000000
namespace Go.Proofs.YtcfgioklgmlclaaGreatDoor.UrlD
open Go.RowKit Base aP dD Uu fZ
theorem Wh (n : Nat) : ((UInt8.ofNat (48 + n % 10)).toNat : Int) = 48 + (n : Int) % 10 := by simp; omega
theorem one_row (c : UInt8) (w : World) : dS (w.alloc (.cells #[.int .u8 (c.toNat : Int)] 5)) (some ⟨w.heap.size, 0, none⟩) 1 (ak [c]) := vg w [c] 5 (0, 0)
theorem lu (n : Nat) (h : n ≤ 18446744073709551615) : (Lib.decDigits n).length ≤ 20 := og 19 n (by omega)
theorem o9 : ∀ (N n : Nat), n < N → n ≤ 18446744073709551615 → ∀ w : World, Calls Tryz.prog 105 #[.int .u64 (n : Int)] w fun e w' => e = .returned (.string (strOf (Lib.decDigits n))) ∧ Below w.heap.size w w'
 | 0, n, h, _, w => absurd h (by omega)
 | N + 1, n, hN, hn, w => by
  obtain ⟨c, hc⟩ : ∃ c : UInt8, c = UInt8.ofNat (48 + n % 10) := ⟨_, rfl⟩
  have hcn : (c.toNat : Int) = 48 + (n : Int) % 10 := by rw [hc]; exact Wh n
  have q1 : (n : Int).tmod 10 = (n : Int) % 10 := Int.tmod_eq_emod_of_nonneg (by omega)
  have q2 : IntKind.u8.wrap ((n : Int) % 10) = (n : Int) % 10 := by rw [IntKind.wrap_u8]; omega
  have q3 : IntKind.u8.wrap (48 + (n : Int) % 10) = (c.toNat : Int) := by rw [IntKind.wrap_u8, hcn]; omega
  have q4 : 48 + (n : Int) % 10 = (c.toNat : Int) := hcn.symm
  have hst := fun w : World => aQ (P := Tryz.prog) (w := w.alloc (.cells #[.int .u8 (c.toNat : Int)] 5)) 30 9 5 Tryz.underlying30 Tryz.underlying5 Tryz.underlying9 [c] 1 (one_row c w)
  by_cases h9 : n < 10
  ·have HD : Hid (Lib.decDigits n = [c]) := by rw [Lib.decDigits, dif_pos h9, hc, Nat.mod_eq_of_lt h9]; rfl
   have h9' : (n : Int) ≤ 9 := by omega
   clear hc hcn
   go_enter Tryz.func105, Tryz.ntmps105
   go_wp2
   go_ret
   exact ⟨by rw [HD.out]; rfl, (Below.refl _ _).alloc (Nat.le_refl _) _⟩
  ·have h9' : 9 < (n : Int) := by omega
   obtain ⟨m, hm⟩ : ∃ m, m = n / 10 := ⟨_, rfl⟩
   have HD : Hid (Lib.decDigits n = Lib.decDigits m ++ [c]) := by rw [Lib.decDigits, dif_neg h9, hc, hm]; rfl
   have q5 : (n : Int) / 10 = (m : Int) := by omega
   have q6 : (n : Int).tdiv 10 = (m : Int) := by rw [Int.tdiv_eq_ediv_of_nonneg (by omega)]; exact q5
   have hml := lu m (by omega)
   have Yh := hid hml
   have ih := o9 N m (by omega) (by omega)
   have HIH := hid ih
   have a1 : ∀ w : World, (Op.stringOp .add (strOf (Lib.decDigits m)) (strOf [c])).run Tryz.prog w = .ok (.string (strOf (Lib.decDigits m ++ [c]))) w := fun w => gK _ _ w (by have := Yh.out; simp; omega)
   clear hc hcn hm hml ih
   go_enter Tryz.func105, Tryz.ntmps105
   go_wp2_with fail
   refine (HIH.out _).mono ?_
   rintro e w2 ⟨rfl, hb2⟩
   go_wp2
   go_ret
   exact ⟨by rw [HD.out]; rfl, bel ((Below.refl _ _).alloc (Nat.le_refl _) _) hb2⟩
theorem uV (z : Int) (w : World) (h0 : -9223372036854775808 ≤ z) (h1 : z ≤ 9223372036854775807) : Calls Tryz.prog 51 #[.int .i64 z] w fun e w' => e = .returned (.string (strOf (Lib.itoa z))) ∧ Below w.heap.size w w' := by
 by_cases hz : z < 0
 ·obtain ⟨m, hm⟩ : ∃ m : Nat, m = z.natAbs := ⟨_, rfl⟩
  have HI : Hid (Lib.itoa z = [45] ++ Lib.decDigits m) := by show _ = _; unfold Lib.itoa; rw [if_pos hz, hm]; rfl
  have q1 : IntKind.i64.wrap (-(z + 1)) = (m : Int) - 1 := by rw [IntKind.wrap_i64]; omega
  have q1' : -(z + 1) = (m : Int) - 1 := by omega
  have q2 : IntKind.u64.wrap ((m : Int) - 1) = (m : Int) - 1 := by rw [IntKind.wrap_u64]; omega
  have q3 : IntKind.u64.wrap ((m : Int) - 1 + 1) = (m : Int) := by rw [IntKind.wrap_u64]; omega
  have q3' : (m : Int) - 1 + 1 = (m : Int) := by omega
  have Yh := hid (lu m (by omega))
  obtain ⟨X, hX⟩ : ∃ X, X = [45] ++ Lib.decDigits m := ⟨_, rfl⟩
  have a1 : ∀ w : World, (Op.stringOp .add ⟨#[45]⟩ (strOf (Lib.decDigits m))).run Tryz.prog w = .ok (.string (strOf X)) w := fun w => by rw [hX]; exact bf ⟨#[45]⟩ _ w (by rw [ah]; have := Yh.out; show 1 + _ ≤ _; omega)
  have HX := hid hX
  have hmm : m ≤ 9223372036854775808 := by omega
  clear hm hX
  go_enter Tryz.func51, Tryz.ntmps51
  go_wp2_with fail
  refine (o9 (m + 1) m (by omega) (by omega) _).mono ?_
  rintro e w2 ⟨rfl, hb2⟩
  go_wp2
  go_ret
  exact ⟨by rw [HI.out, ← HX.out]; rfl, hb2⟩
 ·obtain ⟨m, rfl⟩ : ∃ m : Nat, z = (m : Int) := ⟨z.toNat, by omega⟩
  have HI : Hid (Lib.itoa (m : Int) = Lib.decDigits m) := Tab.Rw m
  have q2 : IntKind.u64.wrap (m : Int) = (m : Int) := by rw [IntKind.wrap_u64]; omega
  go_enter Tryz.func51, Tryz.ntmps51
  go_wp2_with fail
  refine (o9 (m + 1) m (by omega) (by omega) _).mono ?_
  rintro e w2 ⟨rfl, hb2⟩
  go_wp2
  go_ret
  exact ⟨by rw [HI.out]; rfl, hb2⟩
theorem Sv (s0 : ByteArray) (s1 : ByteArray) (s2 : ByteArray) (s3 : ByteArray) (b4 : Bool) (z5 : Int) (b6 : Bool) (s7 : ByteArray) (A : Option Addr) (n cap : Nat) (l : List ByteArray) (b9 : Bool) (b10 : Bool) (s11 : ByteArray) (s12 : ByteArray) (w : World) (hR : dS w A n (l.map Value.string)) (hnc : n ≤ cap) (hcm : cap ≤ maxLen) (h7 : s7.size ≤ 1073741824) (hl : (aN l).length ≤ 1073741824) :
  Calls Tryz.prog 52 #[.agg #[.string s0, .string s1, .string s2, .string s3, .bool b4, .int .i64 z5, .bool b6, .string s7, .slice A n cap, .bool b9, .bool b10, .string s11, .string s12]] w fun e w' => e = .returned (.string (strOf (lq b6 s7 l))) ∧ Below w.heap.size w w' := by
 have hn : l.length = n := by rw [← hR.1, List.length_map]
 have hpl := jE l
 unfold maxLen at hcm
 cases b6 with
 | true =>
  clear hn hpl
  have HR := hid hR
  clear hR
  go_enter Tryz.func52, Tryz.ntmps52
  go_wp2
  go_ret
  exact ⟨rfl, (Below.refl _ _).alloc (Nat.le_refl _) _⟩
 | false =>
  have HR := hid hR
  have HN := hid hn
  have JV := hid hpl
  have TI := hid hl
  clear hR hn hpl hl
  go_enter Tryz.func52, Tryz.ntmps52
  go_upto_region 1 with (fail)
  generalize hw1 : w.alloc _ = w1
  have hb1 : Below w.heap.size w w1 := by rw [← hw1]; exact (Below.refl _ _).alloc (Nat.le_refl _) _
  have Qi : Hid (Box w1 w.heap.size #[.string s0, .string s1, .string s2, .string s3, .bool b4, .int .i64 z5, .bool false, .string s7, .slice A n cap, .bool b9, .bool b10, .string s11, .string s12]) := by
   show _ = _
   rw [← hw1]
   exact heap_alloc_new w _
  have hlt1 : w.heap.size < w1.heap.size := by rw [← hw1]; simp
  clear hw1
  obtain ⟨c0, c1, c2, c3, c4, c5, c6, c7, c8, c9, c10, c11, c12⟩ := jB Qi.out
  go_wp2
  go_loopw [3, 4, 12] (fun vs _ vk wr => ∃ k : Nat, k ≤ n ∧ vk = .int .i64 (k : Int) ∧ vs = .string (strOf (aN (l.take k))) ∧ wr = w1) (fun _ _ vk _ => n - (intOf vk).toNat)
  case atStart => exact ⟨0, Nat.zero_le _, rfl, rfl, rfl⟩
  case round =>
   obtain ⟨k, hk, rfl, rfl, hwr⟩ := hrel
   subst hwr
   by_cases hlt : k < n
   ·have hkl : k < l.length := by rw [HN.out]; exact hlt
    have hRr := HR.out.below hb1
    obtain ⟨g, off, rfl, hg, hcell⟩ := hRr.spot (by omega)
    have hc := hcell k (by rw [List.length_map]; exact hkl)
    rw [List.getElem_map] at hc
    obtain ⟨s, hs⟩ : ∃ s, s = l[k] := ⟨_, rfl⟩
    have HS : Hid (l.take (k + 1) = l.take k ++ [s]) := by rw [hs]; exact take_snoc l k hkl
    rw [← hs] at hc
    have hsum := V5 l k hkl
    have acE := JD l (k + 1)
    have hpk := jE (l.take k)
    rw [List.length_take, Nat.min_eq_left (by omega)] at hpk
    have hpl := JV.out
    have hll := TI.out
    rw [← hs] at hsum
    obtain ⟨X, hX⟩ : ∃ X, X = aN (l.take k) := ⟨_, rfl⟩
    rw [← hX]
    have hXl : X.length ≤ 1073741824 := by rw [hX]; omega
    obtain ⟨Y, hY⟩ : ∃ Y, Y = X ++ [47] := ⟨_, rfl⟩
    obtain ⟨Z, hZ⟩ : ∃ Z, Z = Y ++ s.data.toList := ⟨_, rfl⟩
    have a1 : ∀ w : World, (Op.stringOp .add (strOf X) ⟨#[47]⟩).run Tryz.prog w = .ok (.string (strOf Y)) w := fun w => by rw [hY]; exact bf _ ⟨#[47]⟩ w (by rw [ah]; show _ + 1 ≤ _; omega)
    have a2 : ∀ w : World, (Op.stringOp .add (strOf Y) s).run Tryz.prog w = .ok (.string (strOf Z)) w := fun w => by rw [hZ]; exact bf _ s w (by rw [ah, hY, List.length_append]; simp; omega)
    have HZ : Hid (aN (l.take (k + 1)) = Z) := by show _ = _; rw [HS.out, Je, hZ, hY, hX]; simp
    clear hs hsum acE hpk hpl hll hRr hcell hkl hX hY hZ hXl
    go_wp2
    go_roundw
    case rel => exact ⟨k + 1, by omega, by go_num, by rw [HZ.out], by first | rfl | trivial⟩
    case measure => simp [intOf]; omega
   ·obtain rfl : k = n := by omega
    have HT : Hid (l.take k = l) := List.take_of_length_le (by rw [HN.out]; exact Nat.le_refl _)
    go_wp2
    go_ret
    exact ⟨congrArg (fun X => Ending.returned (.string (strOf (aN X)))) HT.out, hb1⟩
theorem Oh (s0 : ByteArray) (s1 : ByteArray) (s2 : ByteArray) (s3 : ByteArray) (b4 : Bool) (z5 : Int) (b6 : Bool) (s7 : ByteArray) (A : Option Addr) (n cap : Nat) (l : List ByteArray) (b9 : Bool) (b10 : Bool) (s11 : ByteArray) (s12 : ByteArray) (w : World) (hR : dS w A n (l.map Value.string)) (hnc : n ≤ cap) (hcm : cap ≤ maxLen) (hs0 : s0.size ≤ 140737488351232) (hs1 : s1.size ≤ 140737488351232) (hs2 : s2.size ≤ 140737488351232) (hs3 : s3.size ≤ 140737488351232) (hs7 : s7.size ≤ 140737488351232) (hs11 : s11.size ≤ 140737488351232) (Ou : s12.size ≤ 140737488351232) (hel : ∀ s ∈ l, s.size ≤ 140737488351232) :
  Calls Tryz.prog 12 #[.agg #[.string s0, .string s1, .string s2, .string s3, .bool b4, .int .i64 z5, .bool b6, .string s7, .slice A n cap, .bool b9, .bool b10, .string s11, .string s12]] w fun e w' => e = .returned (.bool (decide (Dp s0 s1 s2 s3 s7 s11 s12 l ≤ 1000 ∧ n ≤ 50))) ∧ Below w.heap.size w w' := by
 have hn : l.length = n := by rw [← hR.1, List.length_map]
 unfold maxLen at hcm
 have HR := hid hR
 have HN := hid hn
 have HEL := hid hel
 obtain ⟨S, hS⟩ : ∃ S : Nat, S = s0.size + s1.size + s2.size + s3.size + s7.size + s11.size + s12.size := ⟨_, rfl⟩
 have hSb : S ≤ 985162418458624 := by omega
 have HF : Hid (Dp s0 s1 s2 s3 s7 s11 s12 l = S + (l.map (·.size)).sum) := by show _ = _; unfold Dp; rw [hS]
 have hSi : ((s0.size : Int) + (s1.size : Int) + (s2.size : Int) + (s3.size : Int) + (s7.size : Int) + (s11.size : Int) + (s12.size : Int)) = (S : Int) := by omega
 have HSI := hid hSi
 obtain ⟨FB, YX⟩ : ∃ b, b = decide (Dp s0 s1 s2 s3 s7 s11 s12 l ≤ 1000 ∧ n ≤ 50) := ⟨_, rfl⟩
 rw [← YX]
 have HFB := hid YX
 clear hR hn hel hS hSi YX
 by_cases hn50 : n ≤ 50
 all_goals
  go_enter Tryz.func12, Tryz.ntmps12
  go_upto_region 1 with (fail)
  generalize hw1 : w.alloc _ = w1
  have hb1 : Below w.heap.size w w1 := by rw [← hw1]; exact (Below.refl _ _).alloc (Nat.le_refl _) _
  have Qi : Hid (Box w1 w.heap.size #[.string s0, .string s1, .string s2, .string s3, .bool b4, .int .i64 z5, .bool b6, .string s7, .slice A n cap, .bool b9, .bool b10, .string s11, .string s12]) := by
   show _ = _
   rw [← hw1]
   exact heap_alloc_new w _
  have hlt1 : w.heap.size < w1.heap.size := by rw [← hw1]; simp
  clear hw1
  obtain ⟨c0, c1, c2, c3, c4, c5, c6, c7, c8, c9, c10, c11, c12⟩ := jB Qi.out
  go_wp2
  rw [HSI.out]
 ·go_loopw [3, 4, 35] (fun vs _ vk wr => ∃ k : Nat, k ≤ n ∧ vk = .int .i64 (k : Int) ∧ vs = .int .i64 ((S + ((l.take k).map (·.size)).sum : Nat) : Int) ∧ ((l.take k).map (·.size)).sum ≤ k * 140737488351232 ∧ wr = w1) (fun _ _ vk _ => n - (intOf vk).toNat)
  case atStart => exact ⟨0, Nat.zero_le _, rfl, by simp, by simp, rfl⟩
  case round =>
   obtain ⟨k, hk, rfl, hvs, hks, hwr⟩ := hrel
   subst hwr
   obtain ⟨q, hq⟩ : ∃ q, q = ((l.take k).map (·.size)).sum := ⟨_, rfl⟩
   rw [← hq] at hvs hks
   subst hvs
   by_cases hlt : k < n
   ·have hkl : k < l.length := by rw [HN.out]; exact hlt
    obtain ⟨g, off, rfl, hg, hcell⟩ := (HR.out.below hb1).spot (by omega)
    have hc := hcell k (by rw [List.length_map]; exact hkl)
    rw [List.getElem_map] at hc
    obtain ⟨s, hs⟩ : ∃ s, s = l[k] := ⟨_, rfl⟩
    have hsb : s.size ≤ 140737488351232 := HEL.out s (by rw [hs]; exact List.getElem_mem _)
    have HQ : Hid (((l.take (k + 1)).map (·.size)).sum = q + s.size) := by show _ = _; rw [V5 l k hkl, ← hq, hs]
    rw [← hs] at hc
    have hk50 : k ≤ 49 := by omega
    have hqb : q ≤ 6896136929210368 := by omega
    have HKS := hid hks
    clear hks
    clear hs hcell hkl hq
    go_wp2
    go_roundw
    case rel => exact ⟨k + 1, by omega, int_eq (by omega), by rw [HQ.out]; exact int_eq (by omega), by rw [HQ.out]; have := HKS.out; omega, by first | rfl | trivial⟩
    case measure => simp [intOf]; omega
   ·obtain rfl : k = n := by omega
    have HT : Hid (l.take k = l) := List.take_of_length_le (by rw [HN.out]; exact Nat.le_refl _)
    have HE : Hid (FB = decide (S + q ≤ 1000)) := by
     show _ = _
     rw [HFB.out]
     refine decide_eq_decide.2 ?_
     rw [HF.out, hq, HT.out]
     exact ⟨fun h => h.1, fun h => ⟨h, hn50⟩⟩
    have hk50 : (k : Int) ≤ 50 := by omega
    clear hq hn50
    by_cases hle : S + q ≤ 1000
    ·have HL : Hid (decide (S + q ≤ 1000) = true) := decide_eq_true hle
     go_wp2
     go_ret
     exact ⟨aB (by rw [HE.out, HL.out]), hb1⟩
    ·have HL : Hid (decide (S + q ≤ 1000) = false) := decide_eq_false hle
     have hle' : 1000 < (S : Int) + (q : Int) := by omega
     go_wp2
     go_ret
     exact ⟨aB (by rw [HE.out, HL.out]), hb1⟩
 ·have hn50' : (50 : Int) < (n : Int) := by omega
  have HE : Hid (FB = false) := by show _ = _; rw [HFB.out]; exact decide_eq_false (fun h => hn50 h.2)
  clear hn50
  go_loopw [3, 4, 35] (fun vs _ vk wr => ∃ (k : Nat) (z : Int), k ≤ n ∧ vk = .int .i64 (k : Int) ∧ vs = .int .i64 z ∧ wr = w1) (fun _ _ vk _ => n - (intOf vk).toNat)
  case atStart => exact ⟨0, _, Nat.zero_le _, rfl, rfl, rfl⟩
  case round =>
   obtain ⟨k, z, hk, rfl, rfl, hwr⟩ := hrel
   subst hwr
   by_cases hlt : k < n
   ·have hkl : k < l.length := by rw [HN.out]; exact hlt
    obtain ⟨g, off, rfl, hg, hcell⟩ := (HR.out.below hb1).spot (by omega)
    have hc := hcell k (by rw [List.length_map]; exact hkl)
    rw [List.getElem_map] at hc
    obtain ⟨s, hs⟩ : ∃ s, s = l[k] := ⟨_, rfl⟩
    rw [← hs] at hc
    clear hs hcell hkl
    go_wp2
    go_roundw
    case rel => exact ⟨k + 1, _, by omega, by go_num, rfl, by first | rfl | trivial⟩
    case measure => simp [intOf]; omega
   ·obtain rfl : k = n := by omega
    have hk51 : ¬ (k : Int) ≤ 50 := by omega
    by_cases hle : z ≤ 1000
    ·go_wp2
     go_ret
     exact ⟨aB HE.out.symm, hb1⟩
    ·go_wp2
     go_ret
     exact ⟨aB HE.out.symm, hb1⟩
end Go.Proofs.YtcfgioklgmlclaaGreatDoor.UrlD
