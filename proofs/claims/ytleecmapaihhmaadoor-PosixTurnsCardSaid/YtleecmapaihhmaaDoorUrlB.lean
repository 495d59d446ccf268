/- URLs: what is written of a path, and ahead of a host. -/
import Derived.Test.YtleecmapaihhmaaDoorUrlP
import Derived.Test.YtleecmapaihhmaaDoorMZ
import Derived.Test.YtleecmapaihhmaaDoorShelf
set_option linter.unusedSimpArgs false
set_option linter.unusedVariables false
namespace Go.Proofs.YtleecmapaihhmaaDoor.UrlB
open Go.RowKit Go.Proofs.YtleecmapaihhmaaDoor.Base Go.Proofs.YtleecmapaihhmaaDoor.Base2 Go.Proofs.YtleecmapaihhmaaDoor.UrlP Go.Proofs.YtleecmapaihhmaaDoor.BldA

theorem string_any (B b : Nat) (l : List UInt8) (w : World) (h : IsB B b l w) (hBw : B ≤ w.heap.size) :
    Calls Tryd.prog 29 #[.pointer (some ⟨b, 0, none⟩)] w fun e w' => e = .returned (.string (strOf l)) ∧ Below B w w' := Tryd.Builder_String B b l w h hBw
set_option maxHeartbeats 2000000 in
theorem cred_any (s0 : ByteArray) (s1 : ByteArray) (s2 : ByteArray) (s3 : ByteArray) (b4 : Bool) (z5 : Int) (b6 : Bool) (s7 : ByteArray) (A : Option Addr) (n cap : Nat) (l : List ByteArray) (b9 : Bool) (b10 : Bool) (s11 : ByteArray) (s12 : ByteArray) (w : World) (h1 : s1.size ≤ 1073741824) (h2 : s2.size ≤ 1073741824) :
    Calls Tryd.prog 47 #[.agg #[.string s0, .string s1, .string s2, .string s3, .bool b4, .int .i64 z5, .bool b6, .string s7, .slice A n cap, .bool b9, .bool b10, .string s11, .string s12]] w fun e w' => e = .returned (.string (strOf (credL s1 s2))) ∧ Below w.heap.size w w' := by
  have hl1 : s1.data.toList.length = s1.size := Array.length_toList
  have hl2 : s2.data.toList.length = s2.size := Array.length_toList
  by_cases e2 : s2.data.toList = []
  · have q2 : s2.toList = [] := by rw [tl]; exact e2
    have HC : Hid (credL s1 s2 = if s1.data.toList = [] then [] else s1.data.toList ++ [64]) := if_pos e2
    by_cases e1 : s1.data.toList = []
    · have q1 : s1.toList = [] := by rw [tl]; exact e1
      have HC2 : Hid (credL s1 s2 = []) := HC.out.trans (if_pos e1)
      clear e1 e2 hl1 hl2
      go_enter Tryd.func47, Tryd.ntmps47
      go_wp2
      go_ret
      exact ⟨by rw [HC2.out]; rfl, (Below.refl _ _).alloc (Nat.le_refl _) _⟩
    · have q1 : (s1.toList == []) = false := by rw [tl]; simpa using e1
      have q1' : s1.toList.isEmpty = false := by rw [tl]; simpa using e1
      have HC2 : Hid (credL s1 s2 = s1.data.toList ++ [64]) := HC.out.trans (if_neg e1)
      have a1 : ∀ w : World, (Op.stringOp .add s1 ⟨#[64]⟩).run Tryd.prog w = .ok (.string (strOf (s1.data.toList ++ [64]))) w := fun w => str_add' s1 ⟨#[64]⟩ w (by show s1.size + 1 ≤ _; omega)
      clear e1 e2 hl1 hl2
      go_enter Tryd.func47, Tryd.ntmps47
      go_wp2
      go_ret
      exact ⟨by rw [HC2.out]; rfl, (Below.refl _ _).alloc (Nat.le_refl _) _⟩
  · have q2 : (s2.toList == []) = false := by rw [tl]; simpa using e2
    have q2' : s2.toList.isEmpty = false := by rw [tl]; simpa using e2
    have HC : Hid (credL s1 s2 = s1.data.toList ++ [58] ++ s2.data.toList ++ [64]) := if_neg e2
    obtain ⟨X, hX⟩ : ∃ X, X = strOf (s1.data.toList ++ [58]) := ⟨_, rfl⟩
    obtain ⟨Y, hY⟩ : ∃ Y, Y = strOf (s1.data.toList ++ [58] ++ s2.data.toList) := ⟨_, rfl⟩
    have a1 : ∀ w : World, (Op.stringOp .add s1 ⟨#[58]⟩).run Tryd.prog w = .ok (.string X) w := fun w => by rw [hX]; exact str_add' s1 ⟨#[58]⟩ w (by show s1.size + 1 ≤ _; omega)
    have a2 : ∀ w : World, (Op.stringOp .add X s2).run Tryd.prog w = .ok (.string Y) w := fun w => by rw [hX, hY]; exact str_add' _ s2 w (by rw [size_strOf, List.length_append]; simp; omega)
    have a3 : ∀ w : World, (Op.stringOp .add Y ⟨#[64]⟩).run Tryd.prog w = .ok (.string (strOf (credL s1 s2))) w := fun w => by rw [HC.out, hY]; exact str_add' _ ⟨#[64]⟩ w (by rw [size_strOf]; simp; show _ + 1 ≤ _; omega)
    clear e2 hl1 hl2 hX hY
    go_enter Tryd.func47, Tryd.ntmps47
    go_wp2
    go_ret
    exact ⟨rfl, (Below.refl _ _).alloc (Nat.le_refl _) _⟩
set_option maxHeartbeats 4000000 in
theorem path_any (s0 : ByteArray) (s1 : ByteArray) (s2 : ByteArray) (s3 : ByteArray) (b4 : Bool) (z5 : Int) (b6 : Bool) (s7 : ByteArray) (A : Option Addr) (n cap : Nat) (l : List ByteArray) (b9 : Bool) (b10 : Bool) (s11 : ByteArray) (s12 : ByteArray) (w : World) (hR : Rds w A n (l.map Value.string)) (hnc : n ≤ cap) (hcm : cap ≤ maxLen) (h7 : s7.size ≤ 1073741824) (hl : (pth l).length ≤ 1073741824) :
    Calls Tryd.prog 49 #[.agg #[.string s0, .string s1, .string s2, .string s3, .bool b4, .int .i64 z5, .bool b6, .string s7, .slice A n cap, .bool b9, .bool b10, .string s11, .string s12]] w fun e w' => e = .returned (.string (strOf (pathL b6 s7 l))) ∧ Below w.heap.size w w' := by
  have hn : l.length = n := by rw [← hR.1, List.length_map]
  have hpl := length_pth l
  unfold maxLen at hcm
  cases b6 with
  | true =>
    clear hn hpl
    have HR := hid hR
    clear hR
    go_enter Tryd.func49, Tryd.ntmps49
    go_wp2
    go_ret
    exact ⟨rfl, (Below.refl _ _).alloc (Nat.le_refl _) _⟩
  | false =>
    have HR := hid hR
    have HN := hid hn
    have HPL := hid hpl
    have HLL := hid hl
    clear hR hn hpl hl
    go_enter Tryd.func49, Tryd.ntmps49
    go_wp2
    generalize hw1 : w.alloc _ = w1
    have hb1 : Below w.heap.size w w1 := by rw [← hw1]; exact (Below.refl _ _).alloc (Nat.le_refl _) _
    have hs1 : w1.heap.size = w.heap.size + 1 := by rw [← hw1]; simp
    clear hw1
    have HB0 : Hid (IsB (w.heap.size + 1) (w.heap.size + 1) [] (w1.alloc (.cells #[.pointer none, .slice none 0 0] 49))) := by
      have h := Lib.fresh_isBuilder 49 5 w1
      rw [hs1] at h
      exact h
    go_loopw [5, 13] (fun _ vk wr => ∃ k : Nat, k ≤ n ∧ vk = .int .i64 (k : Int) ∧ Hid (IsB (w.heap.size + 1) (w.heap.size + 1) (pth (l.take k)) wr) ∧ Hid (Below (w.heap.size + 1) w1 wr)) (fun _ vk _ => n - (intOf vk).toNat)
    case atStart => exact ⟨0, Nat.zero_le _, rfl, HB0.out, (Below.refl _ _).alloc (by rw [hs1]; exact Nat.le_refl _) _⟩
    case round =>
      obtain ⟨k, hk, rfl, HB, HBL⟩ := hrel
      have hsz : w.heap.size + 1 ≤ wr.heap.size := by have := HBL.out.size; rw [hs1] at this; exact this
      by_cases hlt : k < n
      · have hkl : k < l.length := by rw [HN.out]; exact hlt
        have hRr := HR.out.below (hb1.trans (HBL.out.mono (by omega)))
        obtain ⟨g, off, rfl, hg, hcell⟩ := hRr.spot (by omega)
        have hc := hcell k (by rw [List.length_map]; exact hkl)
        rw [List.getElem_map] at hc
        obtain ⟨s, hs⟩ : ∃ s, s = l[k] := ⟨_, rfl⟩
        have HS : Hid (l.take (k + 1) = l.take k ++ [s]) := by rw [hs]; exact take_snoc l k hkl
        rw [← hs] at hc
        have hsum := sum_at l k hkl
        have hsum2 := sum_take l (k + 1)
        have hpk := length_pth (l.take k)
        rw [List.length_take, Nat.min_eq_left (by omega)] at hpk
        have hpl := HPL.out
        have hll := HLL.out
        rw [← hs] at hsum
        have hss : s.size ≤ 1073741824 := by omega
        have a1 : ∀ w : World, (Op.stringOp .add ⟨#[47]⟩ s).run Tryd.prog w = .ok (.string (strOf ([47] ++ s.data.toList))) w := fun w => str_add' ⟨#[47]⟩ s w (by show 1 + s.size ≤ _; omega)
        have HLEN : Hid ((pth (l.take k)).length + (1 + s.size) ≤ 140737488355328) := by show _ ≤ _; omega
        clear hs hsum hsum2 hpk hpl hll hRr hcell hkl
        go_wp2_with (refine (write_any _ _ _ _ _ HB.out (by rw [size_strOf]; have := HLEN.out; simp at this ⊢; omega) hsz).mono ?_; rintro e w3 ⟨rfl, HB3, hb3⟩)
        go_roundw
        case rel => exact ⟨k + 1, by omega, by go_num, by
          rw [HS.out, pth_snoc]
          exact HB3, HBL.out.trans hb3⟩
        case measure => simp [intOf]; omega
      · obtain rfl : k = n := by omega
        have HT : Hid (l.take k = l) := List.take_of_length_le (by rw [HN.out]; exact Nat.le_refl _)
        go_wp2_with (refine (string_any _ _ _ _ HB.out hsz).mono ?_; rintro e w3 ⟨rfl, hb3⟩)
        go_ret
        exact ⟨congrArg (fun X => Ending.returned (.string (strOf (pth X)))) HT.out, hb1.trans ((HBL.out.trans hb3).mono (by omega))⟩
end Go.Proofs.YtleecmapaihhmaaDoor.UrlB
