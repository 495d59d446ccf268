/- The document's own letters of six bits: letter, number. -/
import Derived.Test.YtflklgcnjliipaaB64E
namespace Go.Proofs.Ytflklgcnjliipaa.B64R
open Go.RowKit Go.Proofs.Ytflklgcnjliipaa.Base Go.Proofs.Ytflklgcnjliipaa.Base2 Go.Proofs.Ytflklgcnjliipaa.B64N Go.Proofs.Ytflklgcnjliipaa.B64E

theorem num_let (k : Nat) (h : k < 64) : num (let64 k) = (k : Int) := by
  have H : ∀ k : Fin 64, num (let64 k.val) = (k.val : Int) := by decide +kernel
  exact H ⟨k, h⟩
theorem let_num (c : UInt8) (h : 0 ≤ num c) : let64 (num c).toNat = c := by
  have H : ∀ n : Fin 256, 0 ≤ num (UInt8.ofNat n.val) → let64 (num (UInt8.ofNat n.val)).toNat = UInt8.ofNat n.val := by decide +kernel
  have := H ⟨c.toNat, c.toNat_lt⟩
  simp only [UInt8.ofNat_toNat] at this
  exact this h
theorem let_val (k : Nat) (h : k < 64) : ((let64 k).toNat : Int) = if k < 26 then 65 + (k : Int) else if k < 52 then 71 + (k : Int) else if k < 62 then (k : Int) - 4 else if k = 62 then 43 else 47 := by
  have H : ∀ k : Fin 64, ((let64 k.val).toNat : Int) = if k.val < 26 then 65 + (k.val : Int) else if k.val < 52 then 71 + (k.val : Int) else if k.val < 62 then (k.val : Int) - 4 else if k.val = 62 then 43 else 47 := by decide +kernel
  exact H ⟨k, h⟩
set_option maxRecDepth 100000 in
theorem letter_any (k : Nat) (h : k < 64) (w : World) : Calls Try.prog 16 #[.int .i64 (k : Int)] w fun e w' => e = .returned (.int .u8 ((let64 k).toNat : Int)) ∧ w = w' := by
  have hv := hid (let_val k h)
  have h0 : (0 : Int) ≤ (k : Int) := by omega
  by_cases a : (k : Int) < 26
  · go_enter Try.func16, Try.ntmps16
    go_wp2
    go_ret
    exact ⟨ret_int (by rw [hv.out]; (repeat' split) <;> omega), rfl⟩
  by_cases b : (k : Int) < 52
  · go_enter Try.func16, Try.ntmps16
    go_wp2
    go_ret
    exact ⟨ret_int (by rw [hv.out]; (repeat' split) <;> omega), rfl⟩
  by_cases c : (k : Int) < 62
  · go_enter Try.func16, Try.ntmps16
    go_wp2
    go_ret
    exact ⟨ret_int (by rw [hv.out]; (repeat' split) <;> omega), rfl⟩
  by_cases d : (k : Int) = 62
  · go_enter Try.func16, Try.ntmps16
    go_wp2
    go_ret
    exact ⟨ret_int (by rw [hv.out]; (repeat' split) <;> omega), rfl⟩
  · go_enter Try.func16, Try.ntmps16
    go_wp2
    go_ret
    exact ⟨ret_int (by rw [hv.out]; (repeat' split) <;> omega), rfl⟩
set_option maxRecDepth 100000 in
theorem number_any (c : UInt8) (w : World) : Calls Try.prog 17 #[.int .u8 (c.toNat : Int)] w fun e w' => e = .returned (.int .i64 (num c)) ∧ Below w.heap.size w w' := by
  go_enter Try.func17, Try.ntmps17
  go_wp2
  go_loopw [3, 4] (fun _ vk wr => ∃ k : Nat, k ≤ 64 ∧ vk = .int .i64 k ∧ Hid (∀ j, j < k → let64 j ≠ c) ∧ Below w.heap.size w wr) (fun _ vk _ => 64 - (intOf vk).toNat)
  case atStart => exact ⟨0, by omega, rfl, (fun j h => absurd h (by omega)), Below.refl _ _⟩
  case round =>
    obtain ⟨k, hk, rfl, HN, hbel⟩ := hrel
    by_cases hlt : k < 64
    · by_cases he : let64 k = c
      · have HV : Hid (num c = (k : Int)) := by
          rw [← he]
          exact num_let k hlt
        have he' : ((let64 k).toNat : Int) = (c.toNat : Int) := by rw [he]
        clear he
        go_wp2_with fail
        refine (letter_any k hlt _).mono ?_
        rintro e w1 ⟨rfl, rfl⟩
        go_wp2
        go_ret
        exact ⟨ret_int (by rw [HV.out]), hbel⟩
      · have he' : ¬ ((let64 k).toNat : Int) = (c.toNat : Int) := fun e => he (UInt8.toNat_inj.1 (Int.ofNat_inj.1 e))
        have HN2 : Hid (∀ j, j < k + 1 → let64 j ≠ c) := fun j hj => by
          by_cases e : j = k
          · subst e; exact he
          · exact HN.out j (by omega)
        clear he
        go_wp2_with fail
        refine (letter_any k hlt _).mono ?_
        rintro e w1 ⟨rfl, rfl⟩
        go_wp2
        go_roundw
        case rel => exact ⟨k + 1, by omega, by go_num, HN2, hbel⟩
        case measure => simp [intOf]; omega
    · obtain rfl : k = 64 := by omega
      have HV : Hid (num c = -1) := by
        have hr := num_range c
        by_cases h0 : 0 ≤ num c
        · exact absurd (let_num c h0) (HN.out _ (by omega))
        · show num c = -1
          omega
      go_wp2
      go_ret
      exact ⟨ret_int (by rw [HV.out]), hbel⟩
end Go.Proofs.Ytflklgcnjliipaa.B64R
