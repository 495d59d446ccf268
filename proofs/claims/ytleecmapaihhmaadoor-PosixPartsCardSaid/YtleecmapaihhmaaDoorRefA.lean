/- Contracts of the document's own Letter, Digit, Hex and Lower of layer 1: they answer what utf's do. -/
import Derived.Test.YtleecmapaihhmaaDoorUtfA
import Derived.Test.YtleecmapaihhmaaDoorUtfL
set_option linter.unusedSimpArgs false
set_option linter.unusedVariables false
namespace Go.Proofs.YtleecmapaihhmaaDoor.RefA
open Go.RowKit Go.Proofs.YtleecmapaihhmaaDoor.Base Go.Proofs.YtleecmapaihhmaaDoor.UtfA Go.Proofs.YtleecmapaihhmaaDoor.UtfL

def dig (k : Nat) : Int := if k < 10 then 48 + k else 87 + k
/-- Is c digit k? -/
def hit (c : Int) (k : Nat) : Prop := dig k = c ∨ 9 < k ∧ dig k - 32 = c
theorem hex_hit (c : Int) (k : Nat) (hk : k < 16) (h : hit c k) : hex c = k := by
  unfold hit dig at h
  unfold hex
  split at h <;> (repeat' split) <;> omega
theorem hex_miss (c : Int) (h : ∀ j, j < 16 → ¬ hit c j) : hex c = -1 := by
  unfold hex
  split
  · rename_i h1
    refine absurd ?_ (h (c - 48).toNat (by omega))
    unfold hit dig
    rw [if_pos (by omega)]
    omega
  · split
    · rename_i h1
      refine absurd ?_ (h (c - 87).toNat (by omega))
      unfold hit dig
      rw [if_neg (by omega)]
      omega
    · split
      · rename_i h1
        refine absurd ?_ (h (c - 55).toNat (by omega))
        unfold hit dig
        rw [if_neg (by omega)]
        omega
      · rfl
def NoHit (c : Int) (k : Nat) : Prop := ∀ j, j < k → ¬ hit c j
theorem dig_at (k : Nat) (h : k < (⟨#[48, 49, 50, 51, 52, 53, 54, 55, 56, 57, 97, 98, 99, 100, 101, 102]⟩ : ByteArray).size) : (((⟨#[48, 49, 50, 51, 52, 53, 54, 55, 56, 57, 97, 98, 99, 100, 101, 102]⟩ : ByteArray)[k]'h).toNat : Int) = dig k := by
  have h' : k < 16 := h
  have hcase : k = 0 ∨ k = 1 ∨ k = 2 ∨ k = 3 ∨ k = 4 ∨ k = 5 ∨ k = 6 ∨ k = 7 ∨ k = 8 ∨ k = 9 ∨ k = 10 ∨ k = 11 ∨ k = 12 ∨ k = 13 ∨ k = 14 ∨ k = 15 := by omega
  rcases hcase with rfl | rfl | rfl | rfl | rfl | rfl | rfl | rfl | rfl | rfl | rfl | rfl | rfl | rfl | rfl | rfl <;> rfl
theorem dig_lo (k : Nat) (h : k < 16) : 48 ≤ dig k ∧ dig k ≤ 102 ∧ (9 < k → 97 ≤ dig k) := by
  unfold dig
  split <;> omega
end Go.Proofs.YtleecmapaihhmaaDoor.RefA
