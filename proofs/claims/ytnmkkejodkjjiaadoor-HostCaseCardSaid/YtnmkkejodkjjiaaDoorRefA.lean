/- Contracts of the document's own Letter, Digit, Hex and Lower of layer 1: they answer what utf's do. -/
import Derived.Test.YtnmkkejodkjjiaaDoorUtfA
import Derived.Test.YtnmkkejodkjjiaaDoorUtfL
namespace Go.Proofs.YtnmkkejodkjjiaaDoor.RefA
open Go.RowKit Go.Proofs.YtnmkkejodkjjiaaDoor.Base Go.Proofs.YtnmkkejodkjjiaaDoor.UtfA Go.Proofs.YtnmkkejodkjjiaaDoor.UtfL

theorem digit_any (c : Int) (w : World) : Calls Tryd.prog 48 #[.int .u8 c] w fun e w' => e = .returned (.bool (digit c)) ∧ w = w' := by
  go_enter Tryd.func48, Tryd.ntmps48
  go_wp2
  all_goals
    go_ret
    exact ⟨ret_bool (by unfold digit; rw [Bool.eq_iff_iff]; simp; omega), rfl⟩
def dig (k : Nat) : Int := if k < 10 then 48 + k else 87 + k
/-- Is c digit k? -/
def hit (c : Int) (k : Nat) : Prop := dig k = c ∨ 9 < k ∧ dig k - 32 = c
theorem hex_hit (c : Int) (k : Nat) (hk : k < 16) (h : hit c k) : hex c = k := by
  unfold hit dig at h
  unfold hex
  split at h <;> (repeat' split) <;> omega
theorem hex_miss (c : Int) (h : ∀ j, j < 16 → ¬ hit c j) : hex c = -1 := by
  unfold hex
  split
  · rename_i h1
    refine absurd ?_ (h (c - 48).toNat (by omega))
    unfold hit dig
    rw [if_pos (by omega)]
    omega
  · split
    · rename_i h1
      refine absurd ?_ (h (c - 87).toNat (by omega))
      unfold hit dig
      rw [if_neg (by omega)]
      omega
    · split
      · rename_i h1
        refine absurd ?_ (h (c - 55).toNat (by omega))
        unfold hit dig
        rw [if_neg (by omega)]
        omega
      · rfl
def NoHit (c : Int) (k : Nat) : Prop := ∀ j, j < k → ¬ hit c j
theorem dig_at (k : Nat) (h : k < (⟨#[48, 49, 50, 51, 52, 53, 54, 55, 56, 57, 97, 98, 99, 100, 101, 102]⟩ : ByteArray).size) : (((⟨#[48, 49, 50, 51, 52, 53, 54, 55, 56, 57, 97, 98, 99, 100, 101, 102]⟩ : ByteArray)[k]'h).toNat : Int) = dig k := by
  have h' : k < 16 := h
  have hcase : k = 0 ∨ k = 1 ∨ k = 2 ∨ k = 3 ∨ k = 4 ∨ k = 5 ∨ k = 6 ∨ k = 7 ∨ k = 8 ∨ k = 9 ∨ k = 10 ∨ k = 11 ∨ k = 12 ∨ k = 13 ∨ k = 14 ∨ k = 15 := by omega
  rcases hcase with rfl | rfl | rfl | rfl | rfl | rfl | rfl | rfl | rfl | rfl | rfl | rfl | rfl | rfl | rfl | rfl <;> rfl
theorem dig_lo (k : Nat) (h : k < 16) : 48 ≤ dig k ∧ dig k ≤ 102 ∧ (9 < k → 97 ≤ dig k) := by
  unfold dig
  split <;> omega
theorem hex_any (c : Int) (w : World) : Calls Tryd.prog 47 #[.int .u8 c] w fun e w' => e = .returned (.int .i64 (hex c)) ∧ w = w' := by
  go_enter Tryd.func47, Tryd.ntmps47
  go_wp2
  go_loop [4] (fun i => ∃ k : Nat, k ≤ 16 ∧ i = .int .i64 k ∧ NoHit c k) (fun i => 16 - (intOf i).toNat)
  case atStart => exact ⟨0, by omega, rfl, fun j hj => absurd hj (by omega)⟩
  case round =>
    obtain ⟨k, hk, rfl, hno⟩ := hrel
    have HN := hid hno
    clear hno
    by_cases h16 : k < 16
    · have hx := dig_at k h16
      obtain ⟨b1, b2, b3⟩ := dig_lo k h16
      obtain ⟨d, hd⟩ : ∃ d, d = dig k := ⟨_, rfl⟩
      rw [← hd] at hx b1 b2 b3
      have HD := hid hd
      clear hd
      by_cases e1 : d = c
      · have HE : Hid (hex c = k) := hex_hit c k h16 (.inl (by rw [← HD.out]; exact e1))
        have e1' : (d == c) = true := by simpa using e1
        clear e1
        go_wp2
        go_ret
        rw [HE.out]
        exact ⟨rfl, rfl⟩
      · have e1' : (d == c) = false := by simpa using e1
        by_cases h9 : 9 < k
        · have b4 := b3 h9
          by_cases e2 : d - 32 = c
          · have HE : Hid (hex c = k) := hex_hit c k h16 (.inr ⟨h9, by rw [← HD.out]; exact e2⟩)
            have e2' : (d - 32 == c) = true := by simpa using e2
            clear e1 e2 b3
            go_wp2
            go_ret
            rw [HE.out]
            exact ⟨rfl, rfl⟩
          · have HE : Hid (NoHit c (k + 1)) := fun j hj => by
              by_cases e : j = k
              · subst e
                rintro (h | ⟨_, h⟩)
                · exact e1 (by rw [HD.out]; exact h)
                · exact e2 (by rw [HD.out]; exact h)
              · exact HN.out j (by omega)
            have e2' : (d - 32 == c) = false := by simpa using e2
            clear e1 e2 b3
            go_wp2
            go_round
            case rel => exact ⟨k + 1, by omega, by go_num, HE.out⟩
            case measure => simp [intOf]; omega
        · have HE : Hid (NoHit c (k + 1)) := fun j hj => by
            by_cases e : j = k
            · subst e
              rintro (h | ⟨h, _⟩)
              · exact e1 (by rw [HD.out]; exact h)
              · exact h9 h
            · exact HN.out j (by omega)
          clear e1 b3
          go_wp2
          go_round
          case rel => exact ⟨k + 1, by omega, by go_num, HE.out⟩
          case measure => simp [intOf]; omega
    · obtain rfl : k = 16 := by omega
      have HE : Hid (hex c = -1) := hex_miss c HN.out
      go_wp2
      go_ret
      rw [HE.out]
      exact ⟨rfl, rfl⟩

set_option maxRecDepth 100000 in
theorem lower_any (s : ByteArray) (w : World) (hs : s.size ≤ 1073741824) : Calls Tryd.prog 35 #[.string s] w fun e w' => e = .returned (.string (strOf (lower s.data.toList))) ∧ Below w.heap.size w w' := by
  obtain ⟨i0, hi, hz0, hz1, hz2⟩ := info_parts info_u8
  have hl : s.data.toList.length = s.size := Array.length_toList
  have HL := hid hl
  clear hl
  go_enter Tryd.func35, Tryd.ntmps35
  go_wp2
  go_loopw [3, 8] (fun v vk wr => ∃ k : Nat, k ≤ s.size ∧ vk = .int .i64 k ∧ wr.ownsRow w.heap.size 5 1 v k (bcells (lower (s.data.toList.take k))) ∧ Below w.heap.size w wr) (fun _ vk _ => s.size - (intOf vk).toNat)
  case atStart => exact ⟨0, Nat.zero_le _, rfl, World.ownsRow_nil _ _ _ _, Below.refl _ _⟩
  case round =>
    obtain ⟨k, hk, rfl, hown, hbel⟩ := hrel
    by_cases hlt : k < s.size
    · obtain ⟨c, hc⟩ : ∃ c, s[k] = c := ⟨_, rfl⟩
      have HS : Hid (bcells (lower (s.data.toList.take (k + 1))) = bcells (lower (s.data.toList.take k)) ++ [.int .u8 ((low c).toNat : Int)]) := by
        rw [← hc, List.take_succ_eq_append_getElem (by rw [HL.out]; exact hlt)]
        simp [lower, bcells]
        rfl
      by_cases hA : 65 ≤ (c.toNat : Int) ∧ (c.toNat : Int) ≤ 90
      · obtain ⟨hA1, hA2⟩ := hA
        have HC := hid (low_yes c hA1 hA2)
        go_wp2_with (at_builtin; refine wpList_append_own _ rfl _ _ 40 rfl w.heap.size 5 i0 (.int .u8 0) 1 1 Tryd.underlying40 hi hz0 hz1 hz2 rfl (by decide) _ _ _ rfl (hown.alloc _) ⟨wr.heap.size, 0, none⟩ 1 1 [.int .u8 ((c.toNat : Int) + 32)] rfl rfl ?c1 ?c2 ?c3 ?c4 ?c5 ?_)
        case c1 => exact cell_one_new _ _ _
        case c2 => intro u hu; simp at hu; subst hu; rfl
        case c3 => unfold maxLen; omega
        case c4 => omega
        case c5 => have := hbel.size; simp; omega
        intro v' w2 hown2 hg2 _
        have hbel2 : Below w.heap.size w w2 := (hbel.alloc hbel.size _).grown hg2 (by have := hbel.size; simp; omega) (fun g hg => (hown.lt g hg).1)
        clear hown hbel hg2
        go_wp2
        go_roundw
        case rel => exact ⟨k + 1, by omega, by go_num, by rw [HS.out, HC.out]; exact hown2, hbel2⟩
        case measure => simp [intOf]; omega
      · have HC := hid (low_no c hA)
        go_wp2_with (at_builtin; refine wpList_append_own _ rfl _ _ 40 rfl w.heap.size 5 i0 (.int .u8 0) 1 1 Tryd.underlying40 hi hz0 hz1 hz2 rfl (by decide) _ _ _ rfl (hown.alloc _) ⟨wr.heap.size, 0, none⟩ 1 1 [.int .u8 (c.toNat : Int)] rfl rfl (cell_one_new _ _ _) (by intro u hu; simp at hu; subst hu; rfl) (by unfold maxLen; omega) (by omega) (by have := hbel.size; simp; omega) ?_)
        all_goals
          intro v' w2 hown2 hg2 _
          have hbel2 : Below w.heap.size w w2 := (hbel.alloc hbel.size _).grown hg2 (by have := hbel.size; simp; omega) (fun g hg => (hown.lt g hg).1)
          clear hown hbel hg2
          go_wp2
          go_roundw
          case rel => exact ⟨k + 1, by omega, by go_num, by rw [HS.out, HC.out]; exact hown2, hbel2⟩
          case measure => simp [intOf]; omega
    · obtain rfl : k = s.size := by omega
      obtain ⟨A, c, rfl, _, _, hrd⟩ := owns_form hown
      have hst := run_string_of 40 9 5 Tryd.underlying40 Tryd.underlying5 Tryd.underlying9 _ c hrd
      have HE : Hid (s.data.toList.take s.size = s.data.toList) := by
        rw [← HL.out]; exact List.take_length
      rw [HE.out] at hst
      go_wp2
      go_ret
      exact ⟨rfl, hbel⟩
end Go.Proofs.YtnmkkejodkjjiaaDoor.RefA
