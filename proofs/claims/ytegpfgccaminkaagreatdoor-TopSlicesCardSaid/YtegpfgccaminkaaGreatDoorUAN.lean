/- Texts that belong together: IdnA, IdnP, IdnQ, StoR. -/
import Derived.Test.YtegpfgccaminkaaGreatDoorUAA
import Derived.Test.YtegpfgccaminkaaGreatDoorUAC
import Derived.Test.YtegpfgccaminkaaGreatDoorUAF
import Derived.Test.YtegpfgccaminkaaGreatDoorUAM
set_option linter.unusedSimpArgs false
set_option linter.unusedVariables false
namespace Go.Proofs.YtegpfgccaminkaaGreatDoor.IdnA
open Go.RowKit Base Base2 Base3 Regs
def dgt (n : Nat) : UInt8 := if n < 10 then UInt8.ofNat (48 + n) else UInt8.ofNat (87 + n)
theorem dgt_at (k : Nat) (h : k < (⟨#[48, 49, 50, 51, 52, 53, 54, 55, 56, 57, 97, 98, 99, 100, 101, 102]⟩ : ByteArray).size) : (⟨#[48, 49, 50, 51, 52, 53, 54, 55, 56, 57, 97, 98, 99, 100, 101, 102]⟩ : ByteArray)[k]'h = dgt k := by
 have h' : k < 16 := h
 have hcase : k = 0 ∨ k = 1 ∨ k = 2 ∨ k = 3 ∨ k = 4 ∨ k = 5 ∨ k = 6 ∨ k = 7 ∨ k = 8 ∨ k = 9 ∨ k = 10 ∨ k = 11 ∨ k = 12 ∨ k = 13 ∨ k = 14 ∨ k = 15 := by omega
 rcases hcase with rfl | rfl | rfl | rfl | rfl | rfl | rfl | rfl | rfl | rfl | rfl | rfl | rfl | rfl | rfl | rfl <;> rfl
def byt (k c : Nat) : Nat := if k = 6 then c % 16 + 64 else if k = 8 then c % 64 + 128 else c
def piece (k c : Nat) : List UInt8 := (if k = 4 ∨ k = 6 ∨ k = 8 ∨ k = 10 then [45] else []) ++ [dgt (byt k c / 16), dgt (byt k c % 16)]
def nm (f : Nat → UInt8) : Nat → List UInt8
 | 0 => []
 | k + 1 => nm f k ++ piece k (f k).toNat
theorem and15 (c : UInt8) : bits .and .u8 (c.toNat : Int) 15 = (c.toNat : Int) % 16 := by
 have H : ∀ n : Fin 256, bits .and .u8 (n.val : Int) 15 = (n.val : Int) % 16 := by decide +kernel
 exact H ⟨c.toNat, c.toNat_lt⟩
theorem and63 (c : UInt8) : bits .and .u8 (c.toNat : Int) 63 = (c.toNat : Int) % 64 := by
 have H : ∀ n : Fin 256, bits .and .u8 (n.val : Int) 63 = (n.val : Int) % 64 := by decide +kernel
 exact H ⟨c.toNat, c.toNat_lt⟩
theorem or64 (c : UInt8) : bits .or .u8 ((c.toNat : Int) % 16) 64 = (c.toNat : Int) % 16 + 64 := by
 have H : ∀ n : Fin 16, bits .or .u8 (n.val : Int) 64 = (n.val : Int) + 64 := by decide +kernel
 have := H ⟨c.toNat % 16, Nat.mod_lt _ (by decide)⟩
 simpa using this
theorem or128 (c : UInt8) : bits .or .u8 ((c.toNat : Int) % 64) 128 = (c.toNat : Int) % 64 + 128 := by
 have H : ∀ n : Fin 64, bits .or .u8 (n.val : Int) 128 = (n.val : Int) + 128 := by decide +kernel
 have := H ⟨c.toNat % 64, Nat.mod_lt _ (by decide)⟩
 simpa using this
theorem two_one (a b : Int) : ∀ u ∈ [Value.int .u8 a, Value.int .u8 b], u.oneCell' = true := by
 intro u hu
 simp at hu
 rcases hu with rfl | rfl <;> rfl
theorem piece_len (k c : Nat) : (piece k c).length ≤ 3 := by unfold piece; split <;> simp
theorem nm_len (f : Nat → UInt8) (k : Nat) : (nm f k).length ≤ 3 * k := by
 induction k with
 | zero => simp [nm]
 | succ k ih => have := piece_len k (f k).toNat; rw [nm, List.length_append]; omega
theorem piece_at (k c : Nat) (d : UInt8) (hd : d.toNat = byt k c) : piece k c = (if k = 4 ∨ k = 6 ∨ k = 8 ∨ k = 10 then [45] else []) ++ [dgt (d.toNat / 16), dgt (d.toNat % 16)] := by rw [hd]; rfl
set_option maxRecDepth 100000 in
set_option maxHeartbeats 16000000 in
theorem of_any (f : Nat → UInt8) (w : World) : Calls Tryz.prog 67 #[.agg #[.int .u8 ((f 0).toNat : Int), .int .u8 ((f 1).toNat : Int), .int .u8 ((f 2).toNat : Int), .int .u8 ((f 3).toNat : Int), .int .u8 ((f 4).toNat : Int), .int .u8 ((f 5).toNat : Int), .int .u8 ((f 6).toNat : Int), .int .u8 ((f 7).toNat : Int), .int .u8 ((f 8).toNat : Int), .int .u8 ((f 9).toNat : Int), .int .u8 ((f 10).toNat : Int), .int .u8 ((f 11).toNat : Int), .int .u8 ((f 12).toNat : Int), .int .u8 ((f 13).toNat : Int), .int .u8 ((f 14).toNat : Int), .int .u8 ((f 15).toNat : Int)]] w fun e w' => e = .returned (.string (strOf (nm f 16))) ∧ Below w.heap.size w w' := by
 obtain ⟨i0, hi, hz0, hz1, hz2⟩ := info_parts info_u8
 have l6 := (f 6).toNat_lt
 have l8 := (f 8).toNat_lt
 obtain ⟨b6, h6⟩ : ∃ b : UInt8, b.toNat = (f 6).toNat % 16 + 64 := ⟨UInt8.ofNat ((f 6).toNat % 16 + 64), by simp; omega⟩
 obtain ⟨b8, h8⟩ : ∃ b : UInt8, b.toNat = (f 8).toNat % 64 + 128 := ⟨UInt8.ofNat ((f 8).toNat % 64 + 128), by simp; omega⟩
 have o1 := and15 (f 6)
 have o2 : bits .or .u8 (((f 6).toNat : Int) % 16) 64 = (b6.toNat : Int) := by rw [or64, h6]; simp
 have o3 := and63 (f 8)
 have o4 : bits .or .u8 (((f 8).toNat : Int) % 64) 128 = (b8.toNat : Int) := by rw [or128, h8]; simp
 have H6 := hid h6
 have H8 := hid h8
 clear h6 h8 l6 l8
 go_enter Tryz.func67, Tryz.ntmps67
 go_wp2
 clear o1 o2 o3 o4
 generalize hw1 : w.alloc _ = w1
 have hbel1 : Below w.heap.size w w1 := by rw [← hw1]; exact (Below.refl _ _).alloc (Nat.le_refl _) _
 clear hw1
 go_loopw [3, 17] (fun v vk wr => ∃ k : Nat, k ≤ 16 ∧ vk = .int .i64 (k : Int) ∧ wr.ownsRow w.heap.size 5 1 v (nm f k).length (bcells (nm f k)) ∧ Below w.heap.size w wr) (fun _ vk _ => 16 - (intOf vk).toNat)
 case atStart => exact ⟨0, by omega, rfl, World.ownsRow_nil _ _ _ _, hbel1⟩
 case round =>
  clear hbel1
  obtain ⟨k, hk, rfl, hown, hbel⟩ := hrel
  have hle := nm_len f k
  obtain ⟨m, hmm⟩ : ∃ m, m = (nm f k).length := ⟨_, rfl⟩
  rw [← hmm] at hle hown
  have HM := hid hmm
  clear hmm
  by_cases hlt : k < 16
  ·have hcase : k = 0 ∨ k = 1 ∨ k = 2 ∨ k = 3 ∨ k = 4 ∨ k = 5 ∨ k = 6 ∨ k = 7 ∨ k = 8 ∨ k = 9 ∨ k = 10 ∨ k = 11 ∨ k = 12 ∨ k = 13 ∨ k = 14 ∨ k = 15 := by omega
   clear hlt hk
   rcases hcase with rfl | rfl | rfl | rfl | rfl | rfl | rfl | rfl | rfl | rfl | rfl | rfl | rfl | rfl | rfl | rfl
   ·have ix : ∀ w : World, (Instr.index 33 (.agg #[.int .u8 ((f 0).toNat : Int), .int .u8 ((f 1).toNat : Int), .int .u8 ((f 2).toNat : Int), .int .u8 ((f 3).toNat : Int), .int .u8 ((f 4).toNat : Int), .int .u8 ((f 5).toNat : Int), .int .u8 (b6.toNat : Int), .int .u8 ((f 7).toNat : Int), .int .u8 (b8.toNat : Int), .int .u8 ((f 9).toNat : Int), .int .u8 ((f 10).toNat : Int), .int .u8 ((f 11).toNat : Int), .int .u8 ((f 12).toNat : Int), .int .u8 ((f 13).toNat : Int), .int .u8 ((f 14).toNat : Int), .int .u8 ((f 15).toNat : Int)]) (.int .i64 0)).run Tryz.prog w = .ok (.int .u8 ((f 0).toNat : Int)) w := fun _ => by kernel_rfl
    have hc0 : ((f 0).toNat : Int) < 256 := by have := (f 0).toNat_lt; omega
    have HP : Hid (piece 0 (f 0).toNat = [] ++ [dgt ((f 0).toNat / 16), dgt ((f 0).toNat % 16)]) := piece_at 0 (f 0).toNat (f 0) rfl
    go_wp2
    have q1 : (0 : Int) ≤ ((f 0).toNat : Int) / 16 := by omega
    have q2 : ((f 0).toNat : Int) / 16 < 16 := by omega
    have q3 : (0 : Int) ≤ ((f 0).toNat : Int) % 16 := by omega
    have q4 : ((f 0).toNat : Int) % 16 < 16 := by omega
    have q5 := and15 (f 0)
    have q6 : ∀ h, (⟨#[48, 49, 50, 51, 52, 53, 54, 55, 56, 57, 97, 98, 99, 100, 101, 102]⟩ : ByteArray)[(((f 0).toNat : Int) / 16).toNat]'h = dgt ((f 0).toNat / 16) := fun h => dgt_at _ h
    have q7 : ∀ h, (⟨#[48, 49, 50, 51, 52, 53, 54, 55, 56, 57, 97, 98, 99, 100, 101, 102]⟩ : ByteArray)[(((f 0).toNat : Int) % 16).toNat]'h = dgt ((f 0).toNat % 16) := fun h => dgt_at _ h
    go_region_held3 (fun _ => True) (trivial) ((refine step_app (by rfl) _ _ 39 (by rfl) w.heap.size 5 i0 (.int .u8 0) 1 Tryz.underlying39 hi hz0 hz1 hz2 (by rfl) _ m _ (by rfl) hown hbel hbel.size [.int .u8 ((dgt ((f 0).toNat / 16)).toNat : Int), .int .u8 ((dgt ((f 0).toNat % 16)).toNat : Int)] 2 (by rfl) (by decide) (by rfl) (two_one _ _) (by unfold maxLen; omega) (by omega) ⟨(Below.refl _ _).drew, fun _ => rfl, by simp⟩ ?_; intro v3 w3 hown3 hbel3))
    all_goals
     clear hown hbel q1 q2 q3 q4 q5 q6 q7
     go_wp2
     go_roundw
     case rel => exact ⟨1, by omega, rfl, by
       rw [show nm f 1 = nm f 0 ++ piece 0 (f 0).toNat from rfl, HP.out, List.length_append, bcells_append, ← HM.out]
       first | exact hown3 | simpa [bcells, List.append_assoc, Nat.add_assoc] using hown3, hbel3⟩
     case measure => simp [intOf]
   ·have ix : ∀ w : World, (Instr.index 33 (.agg #[.int .u8 ((f 0).toNat : Int), .int .u8 ((f 1).toNat : Int), .int .u8 ((f 2).toNat : Int), .int .u8 ((f 3).toNat : Int), .int .u8 ((f 4).toNat : Int), .int .u8 ((f 5).toNat : Int), .int .u8 (b6.toNat : Int), .int .u8 ((f 7).toNat : Int), .int .u8 (b8.toNat : Int), .int .u8 ((f 9).toNat : Int), .int .u8 ((f 10).toNat : Int), .int .u8 ((f 11).toNat : Int), .int .u8 ((f 12).toNat : Int), .int .u8 ((f 13).toNat : Int), .int .u8 ((f 14).toNat : Int), .int .u8 ((f 15).toNat : Int)]) (.int .i64 1)).run Tryz.prog w = .ok (.int .u8 ((f 1).toNat : Int)) w := fun _ => by kernel_rfl
    have hc0 : ((f 1).toNat : Int) < 256 := by have := (f 1).toNat_lt; omega
    have HP : Hid (piece 1 (f 1).toNat = [] ++ [dgt ((f 1).toNat / 16), dgt ((f 1).toNat % 16)]) := piece_at 1 (f 1).toNat (f 1) rfl
    go_wp2
    have q1 : (0 : Int) ≤ ((f 1).toNat : Int) / 16 := by omega
    have q2 : ((f 1).toNat : Int) / 16 < 16 := by omega
    have q3 : (0 : Int) ≤ ((f 1).toNat : Int) % 16 := by omega
    have q4 : ((f 1).toNat : Int) % 16 < 16 := by omega
    have q5 := and15 (f 1)
    have q6 : ∀ h, (⟨#[48, 49, 50, 51, 52, 53, 54, 55, 56, 57, 97, 98, 99, 100, 101, 102]⟩ : ByteArray)[(((f 1).toNat : Int) / 16).toNat]'h = dgt ((f 1).toNat / 16) := fun h => dgt_at _ h
    have q7 : ∀ h, (⟨#[48, 49, 50, 51, 52, 53, 54, 55, 56, 57, 97, 98, 99, 100, 101, 102]⟩ : ByteArray)[(((f 1).toNat : Int) % 16).toNat]'h = dgt ((f 1).toNat % 16) := fun h => dgt_at _ h
    go_region_held3 (fun _ => True) (trivial) ((refine step_app (by rfl) _ _ 39 (by rfl) w.heap.size 5 i0 (.int .u8 0) 1 Tryz.underlying39 hi hz0 hz1 hz2 (by rfl) _ m _ (by rfl) hown hbel hbel.size [.int .u8 ((dgt ((f 1).toNat / 16)).toNat : Int), .int .u8 ((dgt ((f 1).toNat % 16)).toNat : Int)] 2 (by rfl) (by decide) (by rfl) (two_one _ _) (by unfold maxLen; omega) (by omega) ⟨(Below.refl _ _).drew, fun _ => rfl, by simp⟩ ?_; intro v3 w3 hown3 hbel3))
    all_goals
     clear hown hbel q1 q2 q3 q4 q5 q6 q7
     go_wp2
     go_roundw
     case rel => exact ⟨2, by omega, rfl, by
       rw [show nm f 2 = nm f 1 ++ piece 1 (f 1).toNat from rfl, HP.out, List.length_append, bcells_append, ← HM.out]
       first | exact hown3 | simpa [bcells, List.append_assoc, Nat.add_assoc] using hown3, hbel3⟩
     case measure => simp [intOf]
   ·have ix : ∀ w : World, (Instr.index 33 (.agg #[.int .u8 ((f 0).toNat : Int), .int .u8 ((f 1).toNat : Int), .int .u8 ((f 2).toNat : Int), .int .u8 ((f 3).toNat : Int), .int .u8 ((f 4).toNat : Int), .int .u8 ((f 5).toNat : Int), .int .u8 (b6.toNat : Int), .int .u8 ((f 7).toNat : Int), .int .u8 (b8.toNat : Int), .int .u8 ((f 9).toNat : Int), .int .u8 ((f 10).toNat : Int), .int .u8 ((f 11).toNat : Int), .int .u8 ((f 12).toNat : Int), .int .u8 ((f 13).toNat : Int), .int .u8 ((f 14).toNat : Int), .int .u8 ((f 15).toNat : Int)]) (.int .i64 2)).run Tryz.prog w = .ok (.int .u8 ((f 2).toNat : Int)) w := fun _ => by kernel_rfl
    have hc0 : ((f 2).toNat : Int) < 256 := by have := (f 2).toNat_lt; omega
    have HP : Hid (piece 2 (f 2).toNat = [] ++ [dgt ((f 2).toNat / 16), dgt ((f 2).toNat % 16)]) := piece_at 2 (f 2).toNat (f 2) rfl
    go_wp2
    have q1 : (0 : Int) ≤ ((f 2).toNat : Int) / 16 := by omega
    have q2 : ((f 2).toNat : Int) / 16 < 16 := by omega
    have q3 : (0 : Int) ≤ ((f 2).toNat : Int) % 16 := by omega
    have q4 : ((f 2).toNat : Int) % 16 < 16 := by omega
    have q5 := and15 (f 2)
    have q6 : ∀ h, (⟨#[48, 49, 50, 51, 52, 53, 54, 55, 56, 57, 97, 98, 99, 100, 101, 102]⟩ : ByteArray)[(((f 2).toNat : Int) / 16).toNat]'h = dgt ((f 2).toNat / 16) := fun h => dgt_at _ h
    have q7 : ∀ h, (⟨#[48, 49, 50, 51, 52, 53, 54, 55, 56, 57, 97, 98, 99, 100, 101, 102]⟩ : ByteArray)[(((f 2).toNat : Int) % 16).toNat]'h = dgt ((f 2).toNat % 16) := fun h => dgt_at _ h
    go_region_held3 (fun _ => True) (trivial) ((refine step_app (by rfl) _ _ 39 (by rfl) w.heap.size 5 i0 (.int .u8 0) 1 Tryz.underlying39 hi hz0 hz1 hz2 (by rfl) _ m _ (by rfl) hown hbel hbel.size [.int .u8 ((dgt ((f 2).toNat / 16)).toNat : Int), .int .u8 ((dgt ((f 2).toNat % 16)).toNat : Int)] 2 (by rfl) (by decide) (by rfl) (two_one _ _) (by unfold maxLen; omega) (by omega) ⟨(Below.refl _ _).drew, fun _ => rfl, by simp⟩ ?_; intro v3 w3 hown3 hbel3))
    all_goals
     clear hown hbel q1 q2 q3 q4 q5 q6 q7
     go_wp2
     go_roundw
     case rel => exact ⟨3, by omega, rfl, by
       rw [show nm f 3 = nm f 2 ++ piece 2 (f 2).toNat from rfl, HP.out, List.length_append, bcells_append, ← HM.out]
       first | exact hown3 | simpa [bcells, List.append_assoc, Nat.add_assoc] using hown3, hbel3⟩
     case measure => simp [intOf]
   ·have ix : ∀ w : World, (Instr.index 33 (.agg #[.int .u8 ((f 0).toNat : Int), .int .u8 ((f 1).toNat : Int), .int .u8 ((f 2).toNat : Int), .int .u8 ((f 3).toNat : Int), .int .u8 ((f 4).toNat : Int), .int .u8 ((f 5).toNat : Int), .int .u8 (b6.toNat : Int), .int .u8 ((f 7).toNat : Int), .int .u8 (b8.toNat : Int), .int .u8 ((f 9).toNat : Int), .int .u8 ((f 10).toNat : Int), .int .u8 ((f 11).toNat : Int), .int .u8 ((f 12).toNat : Int), .int .u8 ((f 13).toNat : Int), .int .u8 ((f 14).toNat : Int), .int .u8 ((f 15).toNat : Int)]) (.int .i64 3)).run Tryz.prog w = .ok (.int .u8 ((f 3).toNat : Int)) w := fun _ => by kernel_rfl
    have hc0 : ((f 3).toNat : Int) < 256 := by have := (f 3).toNat_lt; omega
    have HP : Hid (piece 3 (f 3).toNat = [] ++ [dgt ((f 3).toNat / 16), dgt ((f 3).toNat % 16)]) := piece_at 3 (f 3).toNat (f 3) rfl
    go_wp2
    have q1 : (0 : Int) ≤ ((f 3).toNat : Int) / 16 := by omega
    have q2 : ((f 3).toNat : Int) / 16 < 16 := by omega
    have q3 : (0 : Int) ≤ ((f 3).toNat : Int) % 16 := by omega
    have q4 : ((f 3).toNat : Int) % 16 < 16 := by omega
    have q5 := and15 (f 3)
    have q6 : ∀ h, (⟨#[48, 49, 50, 51, 52, 53, 54, 55, 56, 57, 97, 98, 99, 100, 101, 102]⟩ : ByteArray)[(((f 3).toNat : Int) / 16).toNat]'h = dgt ((f 3).toNat / 16) := fun h => dgt_at _ h
    have q7 : ∀ h, (⟨#[48, 49, 50, 51, 52, 53, 54, 55, 56, 57, 97, 98, 99, 100, 101, 102]⟩ : ByteArray)[(((f 3).toNat : Int) % 16).toNat]'h = dgt ((f 3).toNat % 16) := fun h => dgt_at _ h
    go_region_held3 (fun _ => True) (trivial) ((refine step_app (by rfl) _ _ 39 (by rfl) w.heap.size 5 i0 (.int .u8 0) 1 Tryz.underlying39 hi hz0 hz1 hz2 (by rfl) _ m _ (by rfl) hown hbel hbel.size [.int .u8 ((dgt ((f 3).toNat / 16)).toNat : Int), .int .u8 ((dgt ((f 3).toNat % 16)).toNat : Int)] 2 (by rfl) (by decide) (by rfl) (two_one _ _) (by unfold maxLen; omega) (by omega) ⟨(Below.refl _ _).drew, fun _ => rfl, by simp⟩ ?_; intro v3 w3 hown3 hbel3))
    all_goals
     clear hown hbel q1 q2 q3 q4 q5 q6 q7
     go_wp2
     go_roundw
     case rel => exact ⟨4, by omega, rfl, by
       rw [show nm f 4 = nm f 3 ++ piece 3 (f 3).toNat from rfl, HP.out, List.length_append, bcells_append, ← HM.out]
       first | exact hown3 | simpa [bcells, List.append_assoc, Nat.add_assoc] using hown3, hbel3⟩
     case measure => simp [intOf]
   ·have ix : ∀ w : World, (Instr.index 33 (.agg #[.int .u8 ((f 0).toNat : Int), .int .u8 ((f 1).toNat : Int), .int .u8 ((f 2).toNat : Int), .int .u8 ((f 3).toNat : Int), .int .u8 ((f 4).toNat : Int), .int .u8 ((f 5).toNat : Int), .int .u8 (b6.toNat : Int), .int .u8 ((f 7).toNat : Int), .int .u8 (b8.toNat : Int), .int .u8 ((f 9).toNat : Int), .int .u8 ((f 10).toNat : Int), .int .u8 ((f 11).toNat : Int), .int .u8 ((f 12).toNat : Int), .int .u8 ((f 13).toNat : Int), .int .u8 ((f 14).toNat : Int), .int .u8 ((f 15).toNat : Int)]) (.int .i64 4)).run Tryz.prog w = .ok (.int .u8 ((f 4).toNat : Int)) w := fun _ => by kernel_rfl
    have hc0 : ((f 4).toNat : Int) < 256 := by have := (f 4).toNat_lt; omega
    have HP : Hid (piece 4 (f 4).toNat = [45] ++ [dgt ((f 4).toNat / 16), dgt ((f 4).toNat % 16)]) := piece_at 4 (f 4).toNat (f 4) rfl
    go_wp2_with (at_builtin; refine wpList_app rfl _ _ 39 rfl w.heap.size 5 i0 (.int .u8 0) 1 Tryz.underlying39 hi hz0 hz1 hz2 rfl _ m _ rfl hown hbel hbel.size [.int .u8 45] 1 rfl rfl (by intro u hu; simp at hu; subst hu; rfl) (by unfold maxLen; omega) (by omega) ?_)
    intro v' w2 hown2 hbel2
    clear hown hbel
    go_wp2
    have q1 : (0 : Int) ≤ ((f 4).toNat : Int) / 16 := by omega
    have q2 : ((f 4).toNat : Int) / 16 < 16 := by omega
    have q3 : (0 : Int) ≤ ((f 4).toNat : Int) % 16 := by omega
    have q4 : ((f 4).toNat : Int) % 16 < 16 := by omega
    have q5 := and15 (f 4)
    have q6 : ∀ h, (⟨#[48, 49, 50, 51, 52, 53, 54, 55, 56, 57, 97, 98, 99, 100, 101, 102]⟩ : ByteArray)[(((f 4).toNat : Int) / 16).toNat]'h = dgt ((f 4).toNat / 16) := fun h => dgt_at _ h
    have q7 : ∀ h, (⟨#[48, 49, 50, 51, 52, 53, 54, 55, 56, 57, 97, 98, 99, 100, 101, 102]⟩ : ByteArray)[(((f 4).toNat : Int) % 16).toNat]'h = dgt ((f 4).toNat % 16) := fun h => dgt_at _ h
    go_region_held3 (fun _ => True) (trivial) ((refine step_app (by rfl) _ _ 39 (by rfl) w.heap.size 5 i0 (.int .u8 0) 1 Tryz.underlying39 hi hz0 hz1 hz2 (by rfl) _ (m + 1) _ (by rfl) hown2 hbel2 hbel2.size [.int .u8 ((dgt ((f 4).toNat / 16)).toNat : Int), .int .u8 ((dgt ((f 4).toNat % 16)).toNat : Int)] 2 (by rfl) (by decide) (by rfl) (two_one _ _) (by unfold maxLen; omega) (by omega) ⟨(Below.refl _ _).drew, fun _ => rfl, by simp⟩ ?_; intro v3 w3 hown3 hbel3))
    all_goals
     clear hown2 hbel2 q1 q2 q3 q4 q5 q6 q7
     go_wp2
     go_roundw
     case rel => exact ⟨5, by omega, rfl, by
       rw [show nm f 5 = nm f 4 ++ piece 4 (f 4).toNat from rfl, HP.out, List.length_append, bcells_append, ← HM.out]
       first | exact hown3 | simpa [bcells, List.append_assoc, Nat.add_assoc] using hown3, hbel3⟩
     case measure => simp [intOf]
   ·have ix : ∀ w : World, (Instr.index 33 (.agg #[.int .u8 ((f 0).toNat : Int), .int .u8 ((f 1).toNat : Int), .int .u8 ((f 2).toNat : Int), .int .u8 ((f 3).toNat : Int), .int .u8 ((f 4).toNat : Int), .int .u8 ((f 5).toNat : Int), .int .u8 (b6.toNat : Int), .int .u8 ((f 7).toNat : Int), .int .u8 (b8.toNat : Int), .int .u8 ((f 9).toNat : Int), .int .u8 ((f 10).toNat : Int), .int .u8 ((f 11).toNat : Int), .int .u8 ((f 12).toNat : Int), .int .u8 ((f 13).toNat : Int), .int .u8 ((f 14).toNat : Int), .int .u8 ((f 15).toNat : Int)]) (.int .i64 5)).run Tryz.prog w = .ok (.int .u8 ((f 5).toNat : Int)) w := fun _ => by kernel_rfl
    have hc0 : ((f 5).toNat : Int) < 256 := by have := (f 5).toNat_lt; omega
    have HP : Hid (piece 5 (f 5).toNat = [] ++ [dgt ((f 5).toNat / 16), dgt ((f 5).toNat % 16)]) := piece_at 5 (f 5).toNat (f 5) rfl
    go_wp2
    have q1 : (0 : Int) ≤ ((f 5).toNat : Int) / 16 := by omega
    have q2 : ((f 5).toNat : Int) / 16 < 16 := by omega
    have q3 : (0 : Int) ≤ ((f 5).toNat : Int) % 16 := by omega
    have q4 : ((f 5).toNat : Int) % 16 < 16 := by omega
    have q5 := and15 (f 5)
    have q6 : ∀ h, (⟨#[48, 49, 50, 51, 52, 53, 54, 55, 56, 57, 97, 98, 99, 100, 101, 102]⟩ : ByteArray)[(((f 5).toNat : Int) / 16).toNat]'h = dgt ((f 5).toNat / 16) := fun h => dgt_at _ h
    have q7 : ∀ h, (⟨#[48, 49, 50, 51, 52, 53, 54, 55, 56, 57, 97, 98, 99, 100, 101, 102]⟩ : ByteArray)[(((f 5).toNat : Int) % 16).toNat]'h = dgt ((f 5).toNat % 16) := fun h => dgt_at _ h
    go_region_held3 (fun _ => True) (trivial) ((refine step_app (by rfl) _ _ 39 (by rfl) w.heap.size 5 i0 (.int .u8 0) 1 Tryz.underlying39 hi hz0 hz1 hz2 (by rfl) _ m _ (by rfl) hown hbel hbel.size [.int .u8 ((dgt ((f 5).toNat / 16)).toNat : Int), .int .u8 ((dgt ((f 5).toNat % 16)).toNat : Int)] 2 (by rfl) (by decide) (by rfl) (two_one _ _) (by unfold maxLen; omega) (by omega) ⟨(Below.refl _ _).drew, fun _ => rfl, by simp⟩ ?_; intro v3 w3 hown3 hbel3))
    all_goals
     clear hown hbel q1 q2 q3 q4 q5 q6 q7
     go_wp2
     go_roundw
     case rel => exact ⟨6, by omega, rfl, by
       rw [show nm f 6 = nm f 5 ++ piece 5 (f 5).toNat from rfl, HP.out, List.length_append, bcells_append, ← HM.out]
       first | exact hown3 | simpa [bcells, List.append_assoc, Nat.add_assoc] using hown3, hbel3⟩
     case measure => simp [intOf]
   ·have ix : ∀ w : World, (Instr.index 33 (.agg #[.int .u8 ((f 0).toNat : Int), .int .u8 ((f 1).toNat : Int), .int .u8 ((f 2).toNat : Int), .int .u8 ((f 3).toNat : Int), .int .u8 ((f 4).toNat : Int), .int .u8 ((f 5).toNat : Int), .int .u8 (b6.toNat : Int), .int .u8 ((f 7).toNat : Int), .int .u8 (b8.toNat : Int), .int .u8 ((f 9).toNat : Int), .int .u8 ((f 10).toNat : Int), .int .u8 ((f 11).toNat : Int), .int .u8 ((f 12).toNat : Int), .int .u8 ((f 13).toNat : Int), .int .u8 ((f 14).toNat : Int), .int .u8 ((f 15).toNat : Int)]) (.int .i64 6)).run Tryz.prog w = .ok (.int .u8 (b6.toNat : Int)) w := fun _ => by kernel_rfl
    have hc0 : (b6.toNat : Int) < 256 := by have := b6.toNat_lt; omega
    have HP : Hid (piece 6 (f 6).toNat = [45] ++ [dgt (b6.toNat / 16), dgt (b6.toNat % 16)]) := piece_at 6 (f 6).toNat b6 H6.out
    go_wp2_with (at_builtin; refine wpList_app rfl _ _ 39 rfl w.heap.size 5 i0 (.int .u8 0) 1 Tryz.underlying39 hi hz0 hz1 hz2 rfl _ m _ rfl hown hbel hbel.size [.int .u8 45] 1 rfl rfl (by intro u hu; simp at hu; subst hu; rfl) (by unfold maxLen; omega) (by omega) ?_)
    intro v' w2 hown2 hbel2
    clear hown hbel
    go_wp2
    have q1 : (0 : Int) ≤ (b6.toNat : Int) / 16 := by omega
    have q2 : (b6.toNat : Int) / 16 < 16 := by omega
    have q3 : (0 : Int) ≤ (b6.toNat : Int) % 16 := by omega
    have q4 : (b6.toNat : Int) % 16 < 16 := by omega
    have q5 := and15 b6
    have q6 : ∀ h, (⟨#[48, 49, 50, 51, 52, 53, 54, 55, 56, 57, 97, 98, 99, 100, 101, 102]⟩ : ByteArray)[((b6.toNat : Int) / 16).toNat]'h = dgt (b6.toNat / 16) := fun h => dgt_at _ h
    have q7 : ∀ h, (⟨#[48, 49, 50, 51, 52, 53, 54, 55, 56, 57, 97, 98, 99, 100, 101, 102]⟩ : ByteArray)[((b6.toNat : Int) % 16).toNat]'h = dgt (b6.toNat % 16) := fun h => dgt_at _ h
    go_region_held3 (fun _ => True) (trivial) ((refine step_app (by rfl) _ _ 39 (by rfl) w.heap.size 5 i0 (.int .u8 0) 1 Tryz.underlying39 hi hz0 hz1 hz2 (by rfl) _ (m + 1) _ (by rfl) hown2 hbel2 hbel2.size [.int .u8 ((dgt (b6.toNat / 16)).toNat : Int), .int .u8 ((dgt (b6.toNat % 16)).toNat : Int)] 2 (by rfl) (by decide) (by rfl) (two_one _ _) (by unfold maxLen; omega) (by omega) ⟨(Below.refl _ _).drew, fun _ => rfl, by simp⟩ ?_; intro v3 w3 hown3 hbel3))
    all_goals
     clear hown2 hbel2 q1 q2 q3 q4 q5 q6 q7
     go_wp2
     go_roundw
     case rel => exact ⟨7, by omega, rfl, by
       rw [show nm f 7 = nm f 6 ++ piece 6 (f 6).toNat from rfl, HP.out, List.length_append, bcells_append, ← HM.out]
       first | exact hown3 | simpa [bcells, List.append_assoc, Nat.add_assoc] using hown3, hbel3⟩
     case measure => simp [intOf]
   ·have ix : ∀ w : World, (Instr.index 33 (.agg #[.int .u8 ((f 0).toNat : Int), .int .u8 ((f 1).toNat : Int), .int .u8 ((f 2).toNat : Int), .int .u8 ((f 3).toNat : Int), .int .u8 ((f 4).toNat : Int), .int .u8 ((f 5).toNat : Int), .int .u8 (b6.toNat : Int), .int .u8 ((f 7).toNat : Int), .int .u8 (b8.toNat : Int), .int .u8 ((f 9).toNat : Int), .int .u8 ((f 10).toNat : Int), .int .u8 ((f 11).toNat : Int), .int .u8 ((f 12).toNat : Int), .int .u8 ((f 13).toNat : Int), .int .u8 ((f 14).toNat : Int), .int .u8 ((f 15).toNat : Int)]) (.int .i64 7)).run Tryz.prog w = .ok (.int .u8 ((f 7).toNat : Int)) w := fun _ => by kernel_rfl
    have hc0 : ((f 7).toNat : Int) < 256 := by have := (f 7).toNat_lt; omega
    have HP : Hid (piece 7 (f 7).toNat = [] ++ [dgt ((f 7).toNat / 16), dgt ((f 7).toNat % 16)]) := piece_at 7 (f 7).toNat (f 7) rfl
    go_wp2
    have q1 : (0 : Int) ≤ ((f 7).toNat : Int) / 16 := by omega
    have q2 : ((f 7).toNat : Int) / 16 < 16 := by omega
    have q3 : (0 : Int) ≤ ((f 7).toNat : Int) % 16 := by omega
    have q4 : ((f 7).toNat : Int) % 16 < 16 := by omega
    have q5 := and15 (f 7)
    have q6 : ∀ h, (⟨#[48, 49, 50, 51, 52, 53, 54, 55, 56, 57, 97, 98, 99, 100, 101, 102]⟩ : ByteArray)[(((f 7).toNat : Int) / 16).toNat]'h = dgt ((f 7).toNat / 16) := fun h => dgt_at _ h
    have q7 : ∀ h, (⟨#[48, 49, 50, 51, 52, 53, 54, 55, 56, 57, 97, 98, 99, 100, 101, 102]⟩ : ByteArray)[(((f 7).toNat : Int) % 16).toNat]'h = dgt ((f 7).toNat % 16) := fun h => dgt_at _ h
    go_region_held3 (fun _ => True) (trivial) ((refine step_app (by rfl) _ _ 39 (by rfl) w.heap.size 5 i0 (.int .u8 0) 1 Tryz.underlying39 hi hz0 hz1 hz2 (by rfl) _ m _ (by rfl) hown hbel hbel.size [.int .u8 ((dgt ((f 7).toNat / 16)).toNat : Int), .int .u8 ((dgt ((f 7).toNat % 16)).toNat : Int)] 2 (by rfl) (by decide) (by rfl) (two_one _ _) (by unfold maxLen; omega) (by omega) ⟨(Below.refl _ _).drew, fun _ => rfl, by simp⟩ ?_; intro v3 w3 hown3 hbel3))
    all_goals
     clear hown hbel q1 q2 q3 q4 q5 q6 q7
     go_wp2
     go_roundw
     case rel => exact ⟨8, by omega, rfl, by
       rw [show nm f 8 = nm f 7 ++ piece 7 (f 7).toNat from rfl, HP.out, List.length_append, bcells_append, ← HM.out]
       first | exact hown3 | simpa [bcells, List.append_assoc, Nat.add_assoc] using hown3, hbel3⟩
     case measure => simp [intOf]
   ·have ix : ∀ w : World, (Instr.index 33 (.agg #[.int .u8 ((f 0).toNat : Int), .int .u8 ((f 1).toNat : Int), .int .u8 ((f 2).toNat : Int), .int .u8 ((f 3).toNat : Int), .int .u8 ((f 4).toNat : Int), .int .u8 ((f 5).toNat : Int), .int .u8 (b6.toNat : Int), .int .u8 ((f 7).toNat : Int), .int .u8 (b8.toNat : Int), .int .u8 ((f 9).toNat : Int), .int .u8 ((f 10).toNat : Int), .int .u8 ((f 11).toNat : Int), .int .u8 ((f 12).toNat : Int), .int .u8 ((f 13).toNat : Int), .int .u8 ((f 14).toNat : Int), .int .u8 ((f 15).toNat : Int)]) (.int .i64 8)).run Tryz.prog w = .ok (.int .u8 (b8.toNat : Int)) w := fun _ => by kernel_rfl
    have hc0 : (b8.toNat : Int) < 256 := by have := b8.toNat_lt; omega
    have HP : Hid (piece 8 (f 8).toNat = [45] ++ [dgt (b8.toNat / 16), dgt (b8.toNat % 16)]) := piece_at 8 (f 8).toNat b8 H8.out
    go_wp2_with (at_builtin; refine wpList_app rfl _ _ 39 rfl w.heap.size 5 i0 (.int .u8 0) 1 Tryz.underlying39 hi hz0 hz1 hz2 rfl _ m _ rfl hown hbel hbel.size [.int .u8 45] 1 rfl rfl (by intro u hu; simp at hu; subst hu; rfl) (by unfold maxLen; omega) (by omega) ?_)
    intro v' w2 hown2 hbel2
    clear hown hbel
    go_wp2
    have q1 : (0 : Int) ≤ (b8.toNat : Int) / 16 := by omega
    have q2 : (b8.toNat : Int) / 16 < 16 := by omega
    have q3 : (0 : Int) ≤ (b8.toNat : Int) % 16 := by omega
    have q4 : (b8.toNat : Int) % 16 < 16 := by omega
    have q5 := and15 b8
    have q6 : ∀ h, (⟨#[48, 49, 50, 51, 52, 53, 54, 55, 56, 57, 97, 98, 99, 100, 101, 102]⟩ : ByteArray)[((b8.toNat : Int) / 16).toNat]'h = dgt (b8.toNat / 16) := fun h => dgt_at _ h
    have q7 : ∀ h, (⟨#[48, 49, 50, 51, 52, 53, 54, 55, 56, 57, 97, 98, 99, 100, 101, 102]⟩ : ByteArray)[((b8.toNat : Int) % 16).toNat]'h = dgt (b8.toNat % 16) := fun h => dgt_at _ h
    go_region_held3 (fun _ => True) (trivial) ((refine step_app (by rfl) _ _ 39 (by rfl) w.heap.size 5 i0 (.int .u8 0) 1 Tryz.underlying39 hi hz0 hz1 hz2 (by rfl) _ (m + 1) _ (by rfl) hown2 hbel2 hbel2.size [.int .u8 ((dgt (b8.toNat / 16)).toNat : Int), .int .u8 ((dgt (b8.toNat % 16)).toNat : Int)] 2 (by rfl) (by decide) (by rfl) (two_one _ _) (by unfold maxLen; omega) (by omega) ⟨(Below.refl _ _).drew, fun _ => rfl, by simp⟩ ?_; intro v3 w3 hown3 hbel3))
    all_goals
     clear hown2 hbel2 q1 q2 q3 q4 q5 q6 q7
     go_wp2
     go_roundw
     case rel => exact ⟨9, by omega, rfl, by
       rw [show nm f 9 = nm f 8 ++ piece 8 (f 8).toNat from rfl, HP.out, List.length_append, bcells_append, ← HM.out]
       first | exact hown3 | simpa [bcells, List.append_assoc, Nat.add_assoc] using hown3, hbel3⟩
     case measure => simp [intOf]
   ·have ix : ∀ w : World, (Instr.index 33 (.agg #[.int .u8 ((f 0).toNat : Int), .int .u8 ((f 1).toNat : Int), .int .u8 ((f 2).toNat : Int), .int .u8 ((f 3).toNat : Int), .int .u8 ((f 4).toNat : Int), .int .u8 ((f 5).toNat : Int), .int .u8 (b6.toNat : Int), .int .u8 ((f 7).toNat : Int), .int .u8 (b8.toNat : Int), .int .u8 ((f 9).toNat : Int), .int .u8 ((f 10).toNat : Int), .int .u8 ((f 11).toNat : Int), .int .u8 ((f 12).toNat : Int), .int .u8 ((f 13).toNat : Int), .int .u8 ((f 14).toNat : Int), .int .u8 ((f 15).toNat : Int)]) (.int .i64 9)).run Tryz.prog w = .ok (.int .u8 ((f 9).toNat : Int)) w := fun _ => by kernel_rfl
    have hc0 : ((f 9).toNat : Int) < 256 := by have := (f 9).toNat_lt; omega
    have HP : Hid (piece 9 (f 9).toNat = [] ++ [dgt ((f 9).toNat / 16), dgt ((f 9).toNat % 16)]) := piece_at 9 (f 9).toNat (f 9) rfl
    go_wp2
    have q1 : (0 : Int) ≤ ((f 9).toNat : Int) / 16 := by omega
    have q2 : ((f 9).toNat : Int) / 16 < 16 := by omega
    have q3 : (0 : Int) ≤ ((f 9).toNat : Int) % 16 := by omega
    have q4 : ((f 9).toNat : Int) % 16 < 16 := by omega
    have q5 := and15 (f 9)
    have q6 : ∀ h, (⟨#[48, 49, 50, 51, 52, 53, 54, 55, 56, 57, 97, 98, 99, 100, 101, 102]⟩ : ByteArray)[(((f 9).toNat : Int) / 16).toNat]'h = dgt ((f 9).toNat / 16) := fun h => dgt_at _ h
    have q7 : ∀ h, (⟨#[48, 49, 50, 51, 52, 53, 54, 55, 56, 57, 97, 98, 99, 100, 101, 102]⟩ : ByteArray)[(((f 9).toNat : Int) % 16).toNat]'h = dgt ((f 9).toNat % 16) := fun h => dgt_at _ h
    go_region_held3 (fun _ => True) (trivial) ((refine step_app (by rfl) _ _ 39 (by rfl) w.heap.size 5 i0 (.int .u8 0) 1 Tryz.underlying39 hi hz0 hz1 hz2 (by rfl) _ m _ (by rfl) hown hbel hbel.size [.int .u8 ((dgt ((f 9).toNat / 16)).toNat : Int), .int .u8 ((dgt ((f 9).toNat % 16)).toNat : Int)] 2 (by rfl) (by decide) (by rfl) (two_one _ _) (by unfold maxLen; omega) (by omega) ⟨(Below.refl _ _).drew, fun _ => rfl, by simp⟩ ?_; intro v3 w3 hown3 hbel3))
    all_goals
     clear hown hbel q1 q2 q3 q4 q5 q6 q7
     go_wp2
     go_roundw
     case rel => exact ⟨10, by omega, rfl, by
       rw [show nm f 10 = nm f 9 ++ piece 9 (f 9).toNat from rfl, HP.out, List.length_append, bcells_append, ← HM.out]
       first | exact hown3 | simpa [bcells, List.append_assoc, Nat.add_assoc] using hown3, hbel3⟩
     case measure => simp [intOf]
   ·have ix : ∀ w : World, (Instr.index 33 (.agg #[.int .u8 ((f 0).toNat : Int), .int .u8 ((f 1).toNat : Int), .int .u8 ((f 2).toNat : Int), .int .u8 ((f 3).toNat : Int), .int .u8 ((f 4).toNat : Int), .int .u8 ((f 5).toNat : Int), .int .u8 (b6.toNat : Int), .int .u8 ((f 7).toNat : Int), .int .u8 (b8.toNat : Int), .int .u8 ((f 9).toNat : Int), .int .u8 ((f 10).toNat : Int), .int .u8 ((f 11).toNat : Int), .int .u8 ((f 12).toNat : Int), .int .u8 ((f 13).toNat : Int), .int .u8 ((f 14).toNat : Int), .int .u8 ((f 15).toNat : Int)]) (.int .i64 10)).run Tryz.prog w = .ok (.int .u8 ((f 10).toNat : Int)) w := fun _ => by kernel_rfl
    have hc0 : ((f 10).toNat : Int) < 256 := by have := (f 10).toNat_lt; omega
    have HP : Hid (piece 10 (f 10).toNat = [45] ++ [dgt ((f 10).toNat / 16), dgt ((f 10).toNat % 16)]) := piece_at 10 (f 10).toNat (f 10) rfl
    go_wp2_with (at_builtin; refine wpList_app rfl _ _ 39 rfl w.heap.size 5 i0 (.int .u8 0) 1 Tryz.underlying39 hi hz0 hz1 hz2 rfl _ m _ rfl hown hbel hbel.size [.int .u8 45] 1 rfl rfl (by intro u hu; simp at hu; subst hu; rfl) (by unfold maxLen; omega) (by omega) ?_)
    intro v' w2 hown2 hbel2
    clear hown hbel
    go_wp2
    have q1 : (0 : Int) ≤ ((f 10).toNat : Int) / 16 := by omega
    have q2 : ((f 10).toNat : Int) / 16 < 16 := by omega
    have q3 : (0 : Int) ≤ ((f 10).toNat : Int) % 16 := by omega
    have q4 : ((f 10).toNat : Int) % 16 < 16 := by omega
    have q5 := and15 (f 10)
    have q6 : ∀ h, (⟨#[48, 49, 50, 51, 52, 53, 54, 55, 56, 57, 97, 98, 99, 100, 101, 102]⟩ : ByteArray)[(((f 10).toNat : Int) / 16).toNat]'h = dgt ((f 10).toNat / 16) := fun h => dgt_at _ h
    have q7 : ∀ h, (⟨#[48, 49, 50, 51, 52, 53, 54, 55, 56, 57, 97, 98, 99, 100, 101, 102]⟩ : ByteArray)[(((f 10).toNat : Int) % 16).toNat]'h = dgt ((f 10).toNat % 16) := fun h => dgt_at _ h
    go_region_held3 (fun _ => True) (trivial) ((refine step_app (by rfl) _ _ 39 (by rfl) w.heap.size 5 i0 (.int .u8 0) 1 Tryz.underlying39 hi hz0 hz1 hz2 (by rfl) _ (m + 1) _ (by rfl) hown2 hbel2 hbel2.size [.int .u8 ((dgt ((f 10).toNat / 16)).toNat : Int), .int .u8 ((dgt ((f 10).toNat % 16)).toNat : Int)] 2 (by rfl) (by decide) (by rfl) (two_one _ _) (by unfold maxLen; omega) (by omega) ⟨(Below.refl _ _).drew, fun _ => rfl, by simp⟩ ?_; intro v3 w3 hown3 hbel3))
    all_goals
     clear hown2 hbel2 q1 q2 q3 q4 q5 q6 q7
     go_wp2
     go_roundw
     case rel => exact ⟨11, by omega, rfl, by
       rw [show nm f 11 = nm f 10 ++ piece 10 (f 10).toNat from rfl, HP.out, List.length_append, bcells_append, ← HM.out]
       first | exact hown3 | simpa [bcells, List.append_assoc, Nat.add_assoc] using hown3, hbel3⟩
     case measure => simp [intOf]
   ·have ix : ∀ w : World, (Instr.index 33 (.agg #[.int .u8 ((f 0).toNat : Int), .int .u8 ((f 1).toNat : Int), .int .u8 ((f 2).toNat : Int), .int .u8 ((f 3).toNat : Int), .int .u8 ((f 4).toNat : Int), .int .u8 ((f 5).toNat : Int), .int .u8 (b6.toNat : Int), .int .u8 ((f 7).toNat : Int), .int .u8 (b8.toNat : Int), .int .u8 ((f 9).toNat : Int), .int .u8 ((f 10).toNat : Int), .int .u8 ((f 11).toNat : Int), .int .u8 ((f 12).toNat : Int), .int .u8 ((f 13).toNat : Int), .int .u8 ((f 14).toNat : Int), .int .u8 ((f 15).toNat : Int)]) (.int .i64 11)).run Tryz.prog w = .ok (.int .u8 ((f 11).toNat : Int)) w := fun _ => by kernel_rfl
    have hc0 : ((f 11).toNat : Int) < 256 := by have := (f 11).toNat_lt; omega
    have HP : Hid (piece 11 (f 11).toNat = [] ++ [dgt ((f 11).toNat / 16), dgt ((f 11).toNat % 16)]) := piece_at 11 (f 11).toNat (f 11) rfl
    go_wp2
    have q1 : (0 : Int) ≤ ((f 11).toNat : Int) / 16 := by omega
    have q2 : ((f 11).toNat : Int) / 16 < 16 := by omega
    have q3 : (0 : Int) ≤ ((f 11).toNat : Int) % 16 := by omega
    have q4 : ((f 11).toNat : Int) % 16 < 16 := by omega
    have q5 := and15 (f 11)
    have q6 : ∀ h, (⟨#[48, 49, 50, 51, 52, 53, 54, 55, 56, 57, 97, 98, 99, 100, 101, 102]⟩ : ByteArray)[(((f 11).toNat : Int) / 16).toNat]'h = dgt ((f 11).toNat / 16) := fun h => dgt_at _ h
    have q7 : ∀ h, (⟨#[48, 49, 50, 51, 52, 53, 54, 55, 56, 57, 97, 98, 99, 100, 101, 102]⟩ : ByteArray)[(((f 11).toNat : Int) % 16).toNat]'h = dgt ((f 11).toNat % 16) := fun h => dgt_at _ h
    go_region_held3 (fun _ => True) (trivial) ((refine step_app (by rfl) _ _ 39 (by rfl) w.heap.size 5 i0 (.int .u8 0) 1 Tryz.underlying39 hi hz0 hz1 hz2 (by rfl) _ m _ (by rfl) hown hbel hbel.size [.int .u8 ((dgt ((f 11).toNat / 16)).toNat : Int), .int .u8 ((dgt ((f 11).toNat % 16)).toNat : Int)] 2 (by rfl) (by decide) (by rfl) (two_one _ _) (by unfold maxLen; omega) (by omega) ⟨(Below.refl _ _).drew, fun _ => rfl, by simp⟩ ?_; intro v3 w3 hown3 hbel3))
    all_goals
     clear hown hbel q1 q2 q3 q4 q5 q6 q7
     go_wp2
     go_roundw
     case rel => exact ⟨12, by omega, rfl, by
       rw [show nm f 12 = nm f 11 ++ piece 11 (f 11).toNat from rfl, HP.out, List.length_append, bcells_append, ← HM.out]
       first | exact hown3 | simpa [bcells, List.append_assoc, Nat.add_assoc] using hown3, hbel3⟩
     case measure => simp [intOf]
   ·have ix : ∀ w : World, (Instr.index 33 (.agg #[.int .u8 ((f 0).toNat : Int), .int .u8 ((f 1).toNat : Int), .int .u8 ((f 2).toNat : Int), .int .u8 ((f 3).toNat : Int), .int .u8 ((f 4).toNat : Int), .int .u8 ((f 5).toNat : Int), .int .u8 (b6.toNat : Int), .int .u8 ((f 7).toNat : Int), .int .u8 (b8.toNat : Int), .int .u8 ((f 9).toNat : Int), .int .u8 ((f 10).toNat : Int), .int .u8 ((f 11).toNat : Int), .int .u8 ((f 12).toNat : Int), .int .u8 ((f 13).toNat : Int), .int .u8 ((f 14).toNat : Int), .int .u8 ((f 15).toNat : Int)]) (.int .i64 12)).run Tryz.prog w = .ok (.int .u8 ((f 12).toNat : Int)) w := fun _ => by kernel_rfl
    have hc0 : ((f 12).toNat : Int) < 256 := by have := (f 12).toNat_lt; omega
    have HP : Hid (piece 12 (f 12).toNat = [] ++ [dgt ((f 12).toNat / 16), dgt ((f 12).toNat % 16)]) := piece_at 12 (f 12).toNat (f 12) rfl
    go_wp2
    have q1 : (0 : Int) ≤ ((f 12).toNat : Int) / 16 := by omega
    have q2 : ((f 12).toNat : Int) / 16 < 16 := by omega
    have q3 : (0 : Int) ≤ ((f 12).toNat : Int) % 16 := by omega
    have q4 : ((f 12).toNat : Int) % 16 < 16 := by omega
    have q5 := and15 (f 12)
    have q6 : ∀ h, (⟨#[48, 49, 50, 51, 52, 53, 54, 55, 56, 57, 97, 98, 99, 100, 101, 102]⟩ : ByteArray)[(((f 12).toNat : Int) / 16).toNat]'h = dgt ((f 12).toNat / 16) := fun h => dgt_at _ h
    have q7 : ∀ h, (⟨#[48, 49, 50, 51, 52, 53, 54, 55, 56, 57, 97, 98, 99, 100, 101, 102]⟩ : ByteArray)[(((f 12).toNat : Int) % 16).toNat]'h = dgt ((f 12).toNat % 16) := fun h => dgt_at _ h
    go_region_held3 (fun _ => True) (trivial) ((refine step_app (by rfl) _ _ 39 (by rfl) w.heap.size 5 i0 (.int .u8 0) 1 Tryz.underlying39 hi hz0 hz1 hz2 (by rfl) _ m _ (by rfl) hown hbel hbel.size [.int .u8 ((dgt ((f 12).toNat / 16)).toNat : Int), .int .u8 ((dgt ((f 12).toNat % 16)).toNat : Int)] 2 (by rfl) (by decide) (by rfl) (two_one _ _) (by unfold maxLen; omega) (by omega) ⟨(Below.refl _ _).drew, fun _ => rfl, by simp⟩ ?_; intro v3 w3 hown3 hbel3))
    all_goals
     clear hown hbel q1 q2 q3 q4 q5 q6 q7
     go_wp2
     go_roundw
     case rel => exact ⟨13, by omega, rfl, by
       rw [show nm f 13 = nm f 12 ++ piece 12 (f 12).toNat from rfl, HP.out, List.length_append, bcells_append, ← HM.out]
       first | exact hown3 | simpa [bcells, List.append_assoc, Nat.add_assoc] using hown3, hbel3⟩
     case measure => simp [intOf]
   ·have ix : ∀ w : World, (Instr.index 33 (.agg #[.int .u8 ((f 0).toNat : Int), .int .u8 ((f 1).toNat : Int), .int .u8 ((f 2).toNat : Int), .int .u8 ((f 3).toNat : Int), .int .u8 ((f 4).toNat : Int), .int .u8 ((f 5).toNat : Int), .int .u8 (b6.toNat : Int), .int .u8 ((f 7).toNat : Int), .int .u8 (b8.toNat : Int), .int .u8 ((f 9).toNat : Int), .int .u8 ((f 10).toNat : Int), .int .u8 ((f 11).toNat : Int), .int .u8 ((f 12).toNat : Int), .int .u8 ((f 13).toNat : Int), .int .u8 ((f 14).toNat : Int), .int .u8 ((f 15).toNat : Int)]) (.int .i64 13)).run Tryz.prog w = .ok (.int .u8 ((f 13).toNat : Int)) w := fun _ => by kernel_rfl
    have hc0 : ((f 13).toNat : Int) < 256 := by have := (f 13).toNat_lt; omega
    have HP : Hid (piece 13 (f 13).toNat = [] ++ [dgt ((f 13).toNat / 16), dgt ((f 13).toNat % 16)]) := piece_at 13 (f 13).toNat (f 13) rfl
    go_wp2
    have q1 : (0 : Int) ≤ ((f 13).toNat : Int) / 16 := by omega
    have q2 : ((f 13).toNat : Int) / 16 < 16 := by omega
    have q3 : (0 : Int) ≤ ((f 13).toNat : Int) % 16 := by omega
    have q4 : ((f 13).toNat : Int) % 16 < 16 := by omega
    have q5 := and15 (f 13)
    have q6 : ∀ h, (⟨#[48, 49, 50, 51, 52, 53, 54, 55, 56, 57, 97, 98, 99, 100, 101, 102]⟩ : ByteArray)[(((f 13).toNat : Int) / 16).toNat]'h = dgt ((f 13).toNat / 16) := fun h => dgt_at _ h
    have q7 : ∀ h, (⟨#[48, 49, 50, 51, 52, 53, 54, 55, 56, 57, 97, 98, 99, 100, 101, 102]⟩ : ByteArray)[(((f 13).toNat : Int) % 16).toNat]'h = dgt ((f 13).toNat % 16) := fun h => dgt_at _ h
    go_region_held3 (fun _ => True) (trivial) ((refine step_app (by rfl) _ _ 39 (by rfl) w.heap.size 5 i0 (.int .u8 0) 1 Tryz.underlying39 hi hz0 hz1 hz2 (by rfl) _ m _ (by rfl) hown hbel hbel.size [.int .u8 ((dgt ((f 13).toNat / 16)).toNat : Int), .int .u8 ((dgt ((f 13).toNat % 16)).toNat : Int)] 2 (by rfl) (by decide) (by rfl) (two_one _ _) (by unfold maxLen; omega) (by omega) ⟨(Below.refl _ _).drew, fun _ => rfl, by simp⟩ ?_; intro v3 w3 hown3 hbel3))
    all_goals
     clear hown hbel q1 q2 q3 q4 q5 q6 q7
     go_wp2
     go_roundw
     case rel => exact ⟨14, by omega, rfl, by
       rw [show nm f 14 = nm f 13 ++ piece 13 (f 13).toNat from rfl, HP.out, List.length_append, bcells_append, ← HM.out]
       first | exact hown3 | simpa [bcells, List.append_assoc, Nat.add_assoc] using hown3, hbel3⟩
     case measure => simp [intOf]
   ·have ix : ∀ w : World, (Instr.index 33 (.agg #[.int .u8 ((f 0).toNat : Int), .int .u8 ((f 1).toNat : Int), .int .u8 ((f 2).toNat : Int), .int .u8 ((f 3).toNat : Int), .int .u8 ((f 4).toNat : Int), .int .u8 ((f 5).toNat : Int), .int .u8 (b6.toNat : Int), .int .u8 ((f 7).toNat : Int), .int .u8 (b8.toNat : Int), .int .u8 ((f 9).toNat : Int), .int .u8 ((f 10).toNat : Int), .int .u8 ((f 11).toNat : Int), .int .u8 ((f 12).toNat : Int), .int .u8 ((f 13).toNat : Int), .int .u8 ((f 14).toNat : Int), .int .u8 ((f 15).toNat : Int)]) (.int .i64 14)).run Tryz.prog w = .ok (.int .u8 ((f 14).toNat : Int)) w := fun _ => by kernel_rfl
    have hc0 : ((f 14).toNat : Int) < 256 := by have := (f 14).toNat_lt; omega
    have HP : Hid (piece 14 (f 14).toNat = [] ++ [dgt ((f 14).toNat / 16), dgt ((f 14).toNat % 16)]) := piece_at 14 (f 14).toNat (f 14) rfl
    go_wp2
    have q1 : (0 : Int) ≤ ((f 14).toNat : Int) / 16 := by omega
    have q2 : ((f 14).toNat : Int) / 16 < 16 := by omega
    have q3 : (0 : Int) ≤ ((f 14).toNat : Int) % 16 := by omega
    have q4 : ((f 14).toNat : Int) % 16 < 16 := by omega
    have q5 := and15 (f 14)
    have q6 : ∀ h, (⟨#[48, 49, 50, 51, 52, 53, 54, 55, 56, 57, 97, 98, 99, 100, 101, 102]⟩ : ByteArray)[(((f 14).toNat : Int) / 16).toNat]'h = dgt ((f 14).toNat / 16) := fun h => dgt_at _ h
    have q7 : ∀ h, (⟨#[48, 49, 50, 51, 52, 53, 54, 55, 56, 57, 97, 98, 99, 100, 101, 102]⟩ : ByteArray)[(((f 14).toNat : Int) % 16).toNat]'h = dgt ((f 14).toNat % 16) := fun h => dgt_at _ h
    go_region_held3 (fun _ => True) (trivial) ((refine step_app (by rfl) _ _ 39 (by rfl) w.heap.size 5 i0 (.int .u8 0) 1 Tryz.underlying39 hi hz0 hz1 hz2 (by rfl) _ m _ (by rfl) hown hbel hbel.size [.int .u8 ((dgt ((f 14).toNat / 16)).toNat : Int), .int .u8 ((dgt ((f 14).toNat % 16)).toNat : Int)] 2 (by rfl) (by decide) (by rfl) (two_one _ _) (by unfold maxLen; omega) (by omega) ⟨(Below.refl _ _).drew, fun _ => rfl, by simp⟩ ?_; intro v3 w3 hown3 hbel3))
    all_goals
     clear hown hbel q1 q2 q3 q4 q5 q6 q7
     go_wp2
     go_roundw
     case rel => exact ⟨15, by omega, rfl, by
       rw [show nm f 15 = nm f 14 ++ piece 14 (f 14).toNat from rfl, HP.out, List.length_append, bcells_append, ← HM.out]
       first | exact hown3 | simpa [bcells, List.append_assoc, Nat.add_assoc] using hown3, hbel3⟩
     case measure => simp [intOf]
   ·have ix : ∀ w : World, (Instr.index 33 (.agg #[.int .u8 ((f 0).toNat : Int), .int .u8 ((f 1).toNat : Int), .int .u8 ((f 2).toNat : Int), .int .u8 ((f 3).toNat : Int), .int .u8 ((f 4).toNat : Int), .int .u8 ((f 5).toNat : Int), .int .u8 (b6.toNat : Int), .int .u8 ((f 7).toNat : Int), .int .u8 (b8.toNat : Int), .int .u8 ((f 9).toNat : Int), .int .u8 ((f 10).toNat : Int), .int .u8 ((f 11).toNat : Int), .int .u8 ((f 12).toNat : Int), .int .u8 ((f 13).toNat : Int), .int .u8 ((f 14).toNat : Int), .int .u8 ((f 15).toNat : Int)]) (.int .i64 15)).run Tryz.prog w = .ok (.int .u8 ((f 15).toNat : Int)) w := fun _ => by kernel_rfl
    have hc0 : ((f 15).toNat : Int) < 256 := by have := (f 15).toNat_lt; omega
    have HP : Hid (piece 15 (f 15).toNat = [] ++ [dgt ((f 15).toNat / 16), dgt ((f 15).toNat % 16)]) := piece_at 15 (f 15).toNat (f 15) rfl
    go_wp2
    have q1 : (0 : Int) ≤ ((f 15).toNat : Int) / 16 := by omega
    have q2 : ((f 15).toNat : Int) / 16 < 16 := by omega
    have q3 : (0 : Int) ≤ ((f 15).toNat : Int) % 16 := by omega
    have q4 : ((f 15).toNat : Int) % 16 < 16 := by omega
    have q5 := and15 (f 15)
    have q6 : ∀ h, (⟨#[48, 49, 50, 51, 52, 53, 54, 55, 56, 57, 97, 98, 99, 100, 101, 102]⟩ : ByteArray)[(((f 15).toNat : Int) / 16).toNat]'h = dgt ((f 15).toNat / 16) := fun h => dgt_at _ h
    have q7 : ∀ h, (⟨#[48, 49, 50, 51, 52, 53, 54, 55, 56, 57, 97, 98, 99, 100, 101, 102]⟩ : ByteArray)[(((f 15).toNat : Int) % 16).toNat]'h = dgt ((f 15).toNat % 16) := fun h => dgt_at _ h
    go_region_held3 (fun _ => True) (trivial) ((refine step_app (by rfl) _ _ 39 (by rfl) w.heap.size 5 i0 (.int .u8 0) 1 Tryz.underlying39 hi hz0 hz1 hz2 (by rfl) _ m _ (by rfl) hown hbel hbel.size [.int .u8 ((dgt ((f 15).toNat / 16)).toNat : Int), .int .u8 ((dgt ((f 15).toNat % 16)).toNat : Int)] 2 (by rfl) (by decide) (by rfl) (two_one _ _) (by unfold maxLen; omega) (by omega) ⟨(Below.refl _ _).drew, fun _ => rfl, by simp⟩ ?_; intro v3 w3 hown3 hbel3))
    all_goals
     clear hown hbel q1 q2 q3 q4 q5 q6 q7
     go_wp2
     go_roundw
     case rel => exact ⟨16, by omega, rfl, by
       rw [show nm f 16 = nm f 15 ++ piece 15 (f 15).toNat from rfl, HP.out, List.length_append, bcells_append, ← HM.out]
       first | exact hown3 | simpa [bcells, List.append_assoc, Nat.add_assoc] using hown3, hbel3⟩
     case measure => simp [intOf]
  ·obtain rfl : k = 16 := by omega
   obtain ⟨A', c', rfl, _, _, hrd⟩ := owns_form hown
   have hst := run_string_of 39 9 5 Tryz.underlying39 Tryz.underlying5 Tryz.underlying9 _ c' hrd
   go_wp2
   go_ret
   exact ⟨rfl, hbel⟩
end Go.Proofs.YtegpfgccaminkaaGreatDoor.IdnA
namespace Go.Proofs.YtegpfgccaminkaaGreatDoor.IdnP
open IdnA
theorem byt_lt (k c : Nat) (h : c < 256) : byt k c < 256 := by unfold byt; split <;> (try split) <;> omega
end Go.Proofs.YtegpfgccaminkaaGreatDoor.IdnP
namespace Go.Proofs.YtegpfgccaminkaaGreatDoor.StoR
open Go.RowKit Base Base2 OrgA IdnA OpqD PrsP OrgP
set_option linter.unusedSimpArgs false
set_option linter.unusedVariables false
theorem no_tuple (h : ByteArray) (p n : Int) (w : World) : Calls Tryz.prog 97 #[.agg #[.string ⟨#[]⟩, .string h, .int .i64 p, .int .i64 n]] w fun e w' => e = .returned (.bool false) ∧ Below w.heap.size w w' := tuple_any ⟨#[]⟩ h p n w
theorem right_null (h : ByteArray) (p n : Int) (w : World) : Calls Tryz.prog 65 #[.agg #[.string ⟨#[]⟩, .string h, .int .i64 p, .int .i64 n]] w fun e w' => e = .returned (.bool true) ∧ Below w.heap.size w w' := by
 go_enter Tryz.func65, Tryz.ntmps65
 go_wp2_with fail
 refine (no_tuple h p n _).mono ?_
 rintro e w2 ⟨rfl, hb⟩
 have HB := hid (bel ((Below.refl _ _).alloc (Nat.le_refl _) _) hb)
 clear hb
 go_wp2
 go_ret
 exact ⟨rfl, HB.out⟩
theorem print_null (h : ByteArray) (p n : Int) (w : World) : Calls Tryz.prog 66 #[.agg #[.string ⟨#[]⟩, .string h, .int .i64 p, .int .i64 n]] w fun e w' => e = .returned (.string (strOf [110, 117, 108, 108])) ∧ Below w.heap.size w w' := by
 go_enter Tryz.func66, Tryz.ntmps66
 go_wp2_with fail
 refine (no_tuple h p n _).mono ?_
 rintro e w2 ⟨rfl, hb⟩
 have HB := hid (bel ((Below.refl _ _).alloc (Nat.le_refl _) _) hb)
 clear hb
 go_wp2
 go_ret
 exact ⟨rfl, HB.out⟩
def rv (f : Nat → UInt8) : Array Value := #[.int .u8 ((f 0).toNat : Int), .int .u8 ((f 1).toNat : Int), .int .u8 ((f 2).toNat : Int), .int .u8 ((f 3).toNat : Int), .int .u8 ((f 4).toNat : Int), .int .u8 ((f 5).toNat : Int), .int .u8 ((f 6).toNat : Int), .int .u8 ((f 7).toNat : Int), .int .u8 ((f 8).toNat : Int), .int .u8 ((f 9).toNat : Int), .int .u8 ((f 10).toNat : Int), .int .u8 ((f 11).toNat : Int), .int .u8 ((f 12).toNat : Int), .int .u8 ((f 13).toNat : Int), .int .u8 ((f 14).toNat : Int), .int .u8 ((f 15).toNat : Int)]
def nameR (f : Nat → UInt8) : List UInt8 := [110, 117, 108, 108, 47] ++ nm f 16
def nameT (f : Nat → UInt8) : List UInt8 := BLOB ++ 58 :: nameR f
theorem nameT_eq (f : Nat → UInt8) : nameT f = [98, 108, 111, 98, 58] ++ [110, 117, 108, 108] ++ [47] ++ nm f 16 := rfl
theorem dgt_fine (n : Nat) (h : n < 16) : fineC (dgt n) = true := by
 have H : ∀ k : Fin 16, fineC (dgt k.val) = true := by decide +kernel
 exact H ⟨n, h⟩
theorem nm_fine (f : Nat → UInt8) : ∀ n, (nm f n).all fineC = true
 | 0 => rfl
 | n + 1 => by
  have hb : byt n (f n).toNat < 256 := IdnP.byt_lt n _ (f n).toNat_lt
  rw [nm, List.all_append, nm_fine f n]
  unfold piece
  rw [List.all_append, List.all_cons, List.all_cons, dgt_fine _ (by omega), dgt_fine _ (by omega)]
  split <;> rfl
theorem nameT_len (f : Nat → UInt8) : (nameT f).length ≤ 100 := by
 have := nm_len f 16
 unfold nameT nameR BLOB
 simp only [List.length_append, List.length_cons, List.length_nil]
 omega
theorem fine_name (f : Nat → UInt8) : Fine BLOB (nameR f) where
 sch := by decide +kernel
 let0 := by decide +kernel
 low := by decide +kernel
 fs := by decide +kernel
 no58 := by decide
 file := by decide
 spc := by decide +kernel
 r := by unfold nameR; rw [List.all_append, nm_fine]; rfl
 r0 := by unfold nameR; simp
 r47 := rfl
open Ubx Regs
theorem pth_any {w w' : World} {u : U} {A : Option Addr} {n c : Nat} (h : u.pth = []) (hp : PthIs w u A n c) : PthIs w' u A n c := by
 obtain ⟨⟨h1, h2⟩, h3, h4⟩ := hp
 rw [h] at h1
 obtain rfl : n = 0 := h1.symm
 exact ⟨⟨by rw [h]; rfl, fun k hk => absurd hk (by rw [h]; exact Nat.not_lt_zero _)⟩, h3, h4⟩
end Go.Proofs.YtegpfgccaminkaaGreatDoor.StoR
