/- Contracts of the document's own Letter, Digit, Hex and Lower of layer 1: they answer what utf's do. -/
import Derived.Test.YtbjohoocgmfhpaaDoorUtfA
import Derived.Test.YtbjohoocgmfhpaaDoorUtfL
namespace Go.Proofs.YtbjohoocgmfhpaaDoor.RefA
open Go.RowKit Go.Proofs.YtbjohoocgmfhpaaDoor.Base Go.Proofs.YtbjohoocgmfhpaaDoor.UtfA Go.Proofs.YtbjohoocgmfhpaaDoor.UtfL

theorem digit_any (c : Int) (w : World) : Calls Tryd.prog 23 #[.int .u8 c] w fun e w' => e = .returned (.bool (digit c)) ∧ w = w' := by
  go_enter Tryd.func23, Tryd.ntmps23
  go_wp2
  all_goals
    go_ret
    exact ⟨ret_bool (by unfold digit; rw [Bool.eq_iff_iff]; simp; omega), rfl⟩
def dig (k : Nat) : Int := if k < 10 then 48 + k else 87 + k
/-- Is c digit k? -/
def hit (c : Int) (k : Nat) : Prop := dig k = c ∨ 9 < k ∧ dig k - 32 = c
theorem hex_hit (c : Int) (k : Nat) (hk : k < 16) (h : hit c k) : hex c = k := by
  unfold hit dig at h
  unfold hex
  split at h <;> (repeat' split) <;> omega
theorem hex_miss (c : Int) (h : ∀ j, j < 16 → ¬ hit c j) : hex c = -1 := by
  unfold hex
  split
  · rename_i h1
    refine absurd ?_ (h (c - 48).toNat (by omega))
    unfold hit dig
    rw [if_pos (by omega)]
    omega
  · split
    · rename_i h1
      refine absurd ?_ (h (c - 87).toNat (by omega))
      unfold hit dig
      rw [if_neg (by omega)]
      omega
    · split
      · rename_i h1
        refine absurd ?_ (h (c - 55).toNat (by omega))
        unfold hit dig
        rw [if_neg (by omega)]
        omega
      · rfl
def NoHit (c : Int) (k : Nat) : Prop := ∀ j, j < k → ¬ hit c j
theorem dig_at (k : Nat) (h : k < (⟨#[48, 49, 50, 51, 52, 53, 54, 55, 56, 57, 97, 98, 99, 100, 101, 102]⟩ : ByteArray).size) : (((⟨#[48, 49, 50, 51, 52, 53, 54, 55, 56, 57, 97, 98, 99, 100, 101, 102]⟩ : ByteArray)[k]'h).toNat : Int) = dig k := by
  have h' : k < 16 := h
  have hcase : k = 0 ∨ k = 1 ∨ k = 2 ∨ k = 3 ∨ k = 4 ∨ k = 5 ∨ k = 6 ∨ k = 7 ∨ k = 8 ∨ k = 9 ∨ k = 10 ∨ k = 11 ∨ k = 12 ∨ k = 13 ∨ k = 14 ∨ k = 15 := by omega
  rcases hcase with rfl | rfl | rfl | rfl | rfl | rfl | rfl | rfl | rfl | rfl | rfl | rfl | rfl | rfl | rfl | rfl <;> rfl
theorem dig_lo (k : Nat) (h : k < 16) : 48 ≤ dig k ∧ dig k ≤ 102 ∧ (9 < k → 97 ≤ dig k) := by
  unfold dig
  split <;> omega
theorem hex_any (c : Int) (w : World) : Calls Tryd.prog 30 #[.int .u8 c] w fun e w' => e = .returned (.int .i64 (hex c)) ∧ w = w' := by
  go_enter Tryd.func30, Tryd.ntmps30
  go_wp2
  go_loop [4] (fun i => ∃ k : Nat, k ≤ 16 ∧ i = .int .i64 k ∧ NoHit c k) (fun i => 16 - (intOf i).toNat)
  case atStart => exact ⟨0, by omega, rfl, fun j hj => absurd hj (by omega)⟩
  case round =>
    obtain ⟨k, hk, rfl, hno⟩ := hrel
    have HN := hid hno
    clear hno
    by_cases h16 : k < 16
    · have hx := dig_at k h16
      obtain ⟨b1, b2, b3⟩ := dig_lo k h16
      obtain ⟨d, hd⟩ : ∃ d, d = dig k := ⟨_, rfl⟩
      rw [← hd] at hx b1 b2 b3
      have HD := hid hd
      clear hd
      by_cases e1 : d = c
      · have HE : Hid (hex c = k) := hex_hit c k h16 (.inl (by rw [← HD.out]; exact e1))
        have e1' : (d == c) = true := by simpa using e1
        clear e1
        go_wp2
        go_ret
        rw [HE.out]
        exact ⟨rfl, rfl⟩
      · have e1' : (d == c) = false := by simpa using e1
        by_cases h9 : 9 < k
        · have b4 := b3 h9
          by_cases e2 : d - 32 = c
          · have HE : Hid (hex c = k) := hex_hit c k h16 (.inr ⟨h9, by rw [← HD.out]; exact e2⟩)
            have e2' : (d - 32 == c) = true := by simpa using e2
            clear e1 e2 b3
            go_wp2
            go_ret
            rw [HE.out]
            exact ⟨rfl, rfl⟩
          · have HE : Hid (NoHit c (k + 1)) := fun j hj => by
              by_cases e : j = k
              · subst e
                rintro (h | ⟨_, h⟩)
                · exact e1 (by rw [HD.out]; exact h)
                · exact e2 (by rw [HD.out]; exact h)
              · exact HN.out j (by omega)
            have e2' : (d - 32 == c) = false := by simpa using e2
            clear e1 e2 b3
            go_wp2
            go_round
            case rel => exact ⟨k + 1, by omega, by go_num, HE.out⟩
            case measure => simp [intOf]; omega
        · have HE : Hid (NoHit c (k + 1)) := fun j hj => by
            by_cases e : j = k
            · subst e
              rintro (h | ⟨h, _⟩)
              · exact e1 (by rw [HD.out]; exact h)
              · exact h9 h
            · exact HN.out j (by omega)
          clear e1 b3
          go_wp2
          go_round
          case rel => exact ⟨k + 1, by omega, by go_num, HE.out⟩
          case measure => simp [intOf]; omega
    · obtain rfl : k = 16 := by omega
      have HE : Hid (hex c = -1) := hex_miss c HN.out
      go_wp2
      go_ret
      rw [HE.out]
      exact ⟨rfl, rfl⟩

end Go.Proofs.YtbjohoocgmfhpaaDoor.RefA
