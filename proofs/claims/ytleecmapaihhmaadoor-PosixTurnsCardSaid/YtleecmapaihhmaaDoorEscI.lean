/- Which bytes each set of escape has: escape.In and the document's own In answer the same plain function. -/
import Derived.Test.YtleecmapaihhmaaDoorUtfA
import Derived.Test.YtleecmapaihhmaaDoorShelf
set_option linter.unusedSimpArgs false
set_option linter.unusedVariables false
namespace Go.Proofs.YtleecmapaihhmaaDoor.EscI
open Go.RowKit Go.Proofs.YtleecmapaihhmaaDoor.Base

def P1 (c : Int) : Prop := c = 32 ∨ c = 34 ∨ c = 60 ∨ c = 62 ∨ c = 96
instance (c : Int) : Decidable (P1 c) := by unfold P1; exact inferInstance
def P2 (c : Int) : Prop := c = 32 ∨ c = 34 ∨ c = 35 ∨ c = 60 ∨ c = 62
instance (c : Int) : Decidable (P2 c) := by unfold P2; exact inferInstance
def P3 (c : Int) : Prop := c = 32 ∨ c = 34 ∨ c = 35 ∨ c = 60 ∨ c = 62 ∨ c = 39
instance (c : Int) : Decidable (P3 c) := by unfold P3; exact inferInstance
def P4 (c : Int) : Prop := c = 32 ∨ c = 34 ∨ c = 35 ∨ c = 60 ∨ c = 62 ∨ c = 63 ∨ c = 94 ∨ c = 96 ∨ c = 123 ∨ c = 125
instance (c : Int) : Decidable (P4 c) := by unfold P4; exact inferInstance
def P5 (c : Int) : Prop := c = 32 ∨ c = 34 ∨ c = 35 ∨ c = 60 ∨ c = 62 ∨ c = 63 ∨ c = 94 ∨ c = 96 ∨ c = 123 ∨ c = 125 ∨ c = 47 ∨ c = 58 ∨ c = 59 ∨ c = 61 ∨ c = 64 ∨ c = 91 ∨ c = 92 ∨ c = 93 ∨ c = 124
instance (c : Int) : Decidable (P5 c) := by unfold P5; exact inferInstance
def P6 (c : Int) : Prop := c = 32 ∨ c = 34 ∨ c = 35 ∨ c = 60 ∨ c = 62 ∨ c = 63 ∨ c = 94 ∨ c = 96 ∨ c = 123 ∨ c = 125 ∨ c = 47 ∨ c = 58 ∨ c = 59 ∨ c = 61 ∨ c = 64 ∨ c = 91 ∨ c = 92 ∨ c = 93 ∨ c = 124 ∨ c = 36 ∨ c = 37 ∨ c = 38 ∨ c = 43 ∨ c = 44
instance (c : Int) : Decidable (P6 c) := by unfold P6; exact inferInstance
def inS (k c : Int) : Bool := decide (0 ≤ k ∧ k ≤ 6 ∧ (c < 32 ∨ 126 < c ∨ k = 1 ∧ P1 c ∨ k = 2 ∧ P2 c ∨ k = 3 ∧ P3 c ∨ k = 4 ∧ P4 c ∨ k = 5 ∧ P5 c ∨ k = 6 ∧ P6 c))
def S : Int → List UInt8
  | 1 => [32, 34, 60, 62, 96]
  | 2 => [32, 34, 35, 60, 62]
  | 3 => [32, 34, 35, 60, 62, 39]
  | 4 => [32, 34, 35, 60, 62, 63, 94, 96, 123, 125]
  | 5 => [32, 34, 35, 60, 62, 63, 94, 96, 123, 125, 47, 58, 59, 61, 64, 91, 92, 93, 124]
  | 6 => [32, 34, 35, 60, 62, 63, 94, 96, 123, 125, 47, 58, 59, 61, 64, 91, 92, 93, 124, 36, 37, 38, 43, 44]
  | _ => []
theorem S_in (k : Int) (hk : 0 ≤ k ∧ k ≤ 6) (c : UInt8) (h1 : 32 ≤ (c.toNat : Int)) (h2 : (c.toNat : Int) ≤ 126) : decide (0 ≤ Lib.indexByte (S k) c) = inS k c.toNat := by
  obtain ⟨ha, hb⟩ := hk
  have hcase : k = 0 ∨ k = 1 ∨ k = 2 ∨ k = 3 ∨ k = 4 ∨ k = 5 ∨ k = 6 := by omega
  have H : ∀ n : Fin 256, (32 ≤ n.val ∧ n.val ≤ 126) → ∀ k : Fin 7, decide (0 ≤ Lib.indexByte (S (k.val : Int)) (UInt8.ofNat n.val)) = inS (k.val : Int) (n.val : Int) := by decide +kernel
  have hn := H ⟨c.toNat, c.toNat_lt⟩ ⟨by simp; omega, by simp; omega⟩ ⟨k.toNat, by omega⟩
  simpa [Int.toNat_of_nonneg ha] using hn
theorem inS_out (k : Int) (c : Int) (h : k < 0 ∨ 6 < k) : inS k c = false := by unfold inS; rw [decide_eq_false_iff_not]; omega
theorem inS_far (k : Int) (c : Int) (h1 : 0 ≤ k) (h2 : k ≤ 6) (h : c < 32 ∨ 126 < c) : inS k c = true := by unfold inS; rw [decide_eq_true_iff]; omega
theorem inS_0 (c : Int) : inS 0 c = decide (c < 32 ∨ 126 < c) := by unfold inS; congr 1; simp
theorem inS_1 (c : Int) : inS 1 c = decide (c < 32 ∨ 126 < c ∨ P1 c) := by unfold inS; congr 1; simp
theorem inS_2 (c : Int) : inS 2 c = decide (c < 32 ∨ 126 < c ∨ P2 c) := by unfold inS; congr 1; simp
theorem inS_3 (c : Int) : inS 3 c = decide (c < 32 ∨ 126 < c ∨ P3 c) := by unfold inS; congr 1; simp
theorem inS_4 (c : Int) : inS 4 c = decide (c < 32 ∨ 126 < c ∨ P4 c) := by unfold inS; congr 1; simp
theorem inS_5 (c : Int) : inS 5 c = decide (c < 32 ∨ 126 < c ∨ P5 c) := by unfold inS; congr 1; simp
theorem inS_6 (c : Int) : inS 6 c = decide (c < 32 ∨ 126 < c ∨ P6 c) := by unfold inS; congr 1; simp
theorem printable_any (k : Int) (w : World) (h0 : 0 ≤ k) (h1 : k ≤ 6) : Calls Tryd.prog 56 #[.int .i64 k] w fun e w' => e = .returned (.string (strOf (S k))) ∧ w = w' := by
  have hcase : k = 0 ∨ k = 1 ∨ k = 2 ∨ k = 3 ∨ k = 4 ∨ k = 5 ∨ k = 6 := by omega
  rcases hcase with rfl | rfl | rfl | rfl | rfl | rfl | rfl
  all_goals
    go_enter Tryd.func56, Tryd.ntmps56
    go_wp2
    go_ret
    exact ⟨rfl, rfl⟩
theorem in_any (k : Int) (c : UInt8) (w : World) : Calls Tryd.prog 42 #[.int .i64 k, .int .u8 (c.toNat : Int)] w fun e w' => e = .returned (.bool (inS k c.toNat)) ∧ w = w' := by
  by_cases ho : k < 0 ∨ 6 < k
  · have HE := hid (inS_out k c.toNat ho)
    rcases ho with ho | ho
    all_goals
      go_enter Tryd.func42, Tryd.ntmps42
      go_wp2
      go_ret
      rw [HE.out]
      exact ⟨rfl, rfl⟩
  · have h0 : 0 ≤ k := by omega
    have h1 : k ≤ 6 := by omega
    clear ho
    by_cases hf : (c.toNat : Int) < 32 ∨ 126 < (c.toNat : Int)
    · have HE := hid (inS_far k c.toNat h0 h1 hf)
      rcases hf with hf | hf
      · go_enter Tryd.func42, Tryd.ntmps42
        go_wp2
        go_ret
        rw [HE.out]
        exact ⟨rfl, rfl⟩
      · have hg : ¬ (c.toNat : Int) < 32 := by omega
        go_enter Tryd.func42, Tryd.ntmps42
        go_wp2
        go_ret
        rw [HE.out]
        exact ⟨rfl, rfl⟩
    · have h2 : 32 ≤ (c.toNat : Int) := by omega
      have h3 : (c.toNat : Int) ≤ 126 := by omega
      clear hf
      have HE := hid (S_in k ⟨h0, h1⟩ c h2 h3)
      go_enter Tryd.func42, Tryd.ntmps42
      go_wp2_with fail
      refine (printable_any k _ h0 h1).mono ?_
      rintro e w1 ⟨rfl, rfl⟩
      go_wp2_with fail
      refine (Tryd.strings_IndexByte _ _ _).mono ?_
      rintro e w1 ⟨rfl, rfl⟩
      rw [show (strOf (S k)).data.toList = S k from rfl, show ((c.toNat : Int).toNat).toUInt8 = c by simp]
      go_wp2_with fail
      go_ret
      exact ⟨ret_bool (by rw [← HE.out, decide_eq_false (show ¬ (c.toNat : Int) < 32 by omega), decide_eq_false (show ¬ 126 < (c.toNat : Int) by omega)]; simp), rfl⟩
set_option maxRecDepth 100000 in
theorem ref_out (k c : Int) (w : World) (ho : k < 0 ∨ 6 < k) : Calls Tryd.prog 30 #[.int .i64 k, .int .u8 c] w fun e w' => e = .returned (.bool (inS k c)) ∧ w = w' := by
  have HE := hid (inS_out k c ho)
  rcases ho with ho | ho
  all_goals
    go_enter Tryd.func30, Tryd.ntmps30
    go_wp2
    go_ret
    rw [HE.out]
    exact ⟨rfl, rfl⟩
set_option maxRecDepth 100000 in
theorem ref_far (k c : Int) (w : World) (h0 : 0 ≤ k) (h1 : k ≤ 6) (hf : c < 32 ∨ 126 < c) : Calls Tryd.prog 30 #[.int .i64 k, .int .u8 c] w fun e w' => e = .returned (.bool (inS k c)) ∧ w = w' := by
  have HE := hid (inS_far k c h0 h1 hf)
  rcases hf with hf | hf
  · go_enter Tryd.func30, Tryd.ntmps30
    go_wp2
    go_ret
    rw [HE.out]
    exact ⟨rfl, rfl⟩
  · have hg : ¬ c < 32 := by omega
    go_enter Tryd.func30, Tryd.ntmps30
    go_wp2
    go_ret
    rw [HE.out]
    exact ⟨rfl, rfl⟩
end Go.Proofs.YtleecmapaihhmaaDoor.EscI
