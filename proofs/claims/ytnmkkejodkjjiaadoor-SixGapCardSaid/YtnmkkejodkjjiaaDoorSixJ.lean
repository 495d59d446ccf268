/- IPv6 addresses: the document's digits, the law's own. -/
import Derived.Test.YtnmkkejodkjjiaaDoorSixI
namespace Go.Proofs.YtnmkkejodkjjiaaDoor.SixJ
open Go.RowKit Go.Proofs.YtnmkkejodkjjiaaDoor.Base Go.Proofs.YtnmkkejodkjjiaaDoor.Base2 Go.Proofs.YtnmkkejodkjjiaaDoor.QudP Go.Proofs.YtnmkkejodkjjiaaDoor.SixG Go.Proofs.YtnmkkejodkjjiaaDoor.SixH Go.Proofs.YtnmkkejodkjjiaaDoor.SixI

theorem digs16_at (k : Nat) (hk : k < 16) : (⟨#[48, 49, 50, 51, 52, 53, 54, 55, 56, 57, 97, 98, 99, 100, 101, 102]⟩ : ByteArray).extract k (k + 1) = strOf [hexd k] := by
  have hcase : k = 0 ∨ k = 1 ∨ k = 2 ∨ k = 3 ∨ k = 4 ∨ k = 5 ∨ k = 6 ∨ k = 7 ∨ k = 8 ∨ k = 9 ∨ k = 10 ∨ k = 11 ∨ k = 12 ∨ k = 13 ∨ k = 14 ∨ k = 15 := by omega
  rcases hcase with rfl | rfl | rfl | rfl | rfl | rfl | rfl | rfl | rfl | rfl | rfl | rfl | rfl | rfl | rfl | rfl <;> rfl
set_option maxHeartbeats 1000000 in
set_option maxRecDepth 100000 in
theorem digits_any : ∀ (m n : Nat), n ≤ m → n < 65536 → ∀ w : World, Calls Tryd.prog 29 #[.int .u16 (n : Int)] w fun e w' => e = .returned (.string (strOf (hx n))) ∧ w = w' := by
  intro m
  induction m with
  | zero =>
    intro n hn hn6 w
    obtain rfl : n = 0 := by omega
    have hd := digs16_at 0 (by omega)
    go_enter Tryd.func29, Tryd.ntmps29
    go_wp2
    go_ret
    exact ⟨rfl, rfl⟩
  | succ m ih =>
    intro n hn hn6 w
    obtain ⟨r, hr⟩ : ∃ r, r = n % 16 := ⟨_, rfl⟩
    obtain ⟨q, hq⟩ : ∃ q, q = n / 16 := ⟨_, rfl⟩
    have htm : (n : Int).tmod 16 = (r : Int) := by rw [Int.tmod_eq_emod_of_nonneg (by omega)]; omega
    have htm2 : (n : Int) % 16 = (r : Int) := by omega
    have htd : (n : Int).tdiv 16 = (q : Int) := by rw [Int.tdiv_eq_ediv_of_nonneg (by omega)]; omega
    have htd2 : (n : Int) / 16 = (q : Int) := by omega
    have hr16 : r < 16 := by omega
    have hri : (r : Int) < 16 := by omega
    have hd := digs16_at r hr16
    have hq4 : q < 4096 := by omega
    have hwq : IntKind.u16.wrap (q : Int) = (q : Int) := by simp [IntKind.wrap, IntKind.signed, IntKind.bits]; omega
    by_cases h15 : 15 < n
    · have h15i : (15 : Int) < (n : Int) := by omega
      obtain ⟨Z, hZ⟩ : ∃ Z, Z = strOf (hx n) := ⟨_, rfl⟩
      have a1 : ∀ w : World, (Op.stringOp .add (strOf (hx q)) (strOf [hexd r])).run Tryd.prog w = .ok (.string Z) w := fun w => by
        rw [hZ, hx_big (by omega) hn6, hq, hr]
        refine str_add _ _ w ?_
        have := hx_len (n / 16)
        simp
        omega
      have HI : Hid (∀ w : World, Calls Tryd.prog 29 #[.int .u16 (q : Int)] w fun e w' => e = .returned (.string (strOf (hx q))) ∧ w = w') := ih q (by omega) (by omega)
      have HZ := hid hZ
      clear ih hr hq hZ h15 hn hn6 hq4
      go_enter Tryd.func29, Tryd.ntmps29
      go_wp2_with fail
      refine (HI.out _).mono ?_
      rintro e w2 ⟨rfl, hw2⟩
      subst hw2
      go_wp2
      go_ret
      exact ⟨by rw [← HZ.out]; rfl, rfl⟩
    · have h15i : ¬ (15 : Int) < (n : Int) := by omega
      have HE : Hid (hx n = [hexd r]) := by show _ = _; rw [hx_small (by omega), hr, show n % 16 = n by omega]
      clear ih hr hq h15 hn hn6 hq4
      go_enter Tryd.func29, Tryd.ntmps29
      go_wp2
      go_ret
      exact ⟨by rw [HE.out]; rfl, rfl⟩
set_option maxHeartbeats 1000000 in
set_option maxRecDepth 100000 in
theorem own_any : ∀ (m n : Nat), n ≤ m → n < 65536 → ∀ w : World, Calls Tryd.prog 16 #[.int .u16 (n : Int)] w fun e w' => e = .returned (.string (strOf (hx n))) ∧ w = w' := by
  intro m
  induction m with
  | zero =>
    intro n hn hn6 w
    obtain rfl : n = 0 := by omega
    have hd := digs16_at 0 (by omega)
    go_enter Tryd.func16, Tryd.ntmps16
    go_wp2
    go_ret
    exact ⟨rfl, rfl⟩
  | succ m ih =>
    intro n hn hn6 w
    obtain ⟨r, hr⟩ : ∃ r, r = n % 16 := ⟨_, rfl⟩
    obtain ⟨q, hq⟩ : ∃ q, q = n / 16 := ⟨_, rfl⟩
    have htm : (n : Int).tmod 16 = (r : Int) := by rw [Int.tmod_eq_emod_of_nonneg (by omega)]; omega
    have htm2 : (n : Int) % 16 = (r : Int) := by omega
    have htd : (n : Int).tdiv 16 = (q : Int) := by rw [Int.tdiv_eq_ediv_of_nonneg (by omega)]; omega
    have htd2 : (n : Int) / 16 = (q : Int) := by omega
    have hr16 : r < 16 := by omega
    have hri : (r : Int) < 16 := by omega
    have hd := digs16_at r hr16
    have hq4 : q < 4096 := by omega
    have hwq : IntKind.u16.wrap (q : Int) = (q : Int) := by simp [IntKind.wrap, IntKind.signed, IntKind.bits]; omega
    by_cases h15 : 15 < n
    · have h15i : (15 : Int) < (n : Int) := by omega
      obtain ⟨Z, hZ⟩ : ∃ Z, Z = strOf (hx n) := ⟨_, rfl⟩
      have a1 : ∀ w : World, (Op.stringOp .add (strOf (hx q)) (strOf [hexd r])).run Tryd.prog w = .ok (.string Z) w := fun w => by
        rw [hZ, hx_big (by omega) hn6, hq, hr]
        refine str_add _ _ w ?_
        have := hx_len (n / 16)
        simp
        omega
      have HI : Hid (∀ w : World, Calls Tryd.prog 16 #[.int .u16 (q : Int)] w fun e w' => e = .returned (.string (strOf (hx q))) ∧ w = w') := ih q (by omega) (by omega)
      have HZ := hid hZ
      clear ih hr hq hZ h15 hn hn6 hq4
      go_enter Tryd.func16, Tryd.ntmps16
      go_wp2_with fail
      refine (HI.out _).mono ?_
      rintro e w2 ⟨rfl, hw2⟩
      subst hw2
      go_wp2
      go_ret
      exact ⟨by rw [← HZ.out]; rfl, rfl⟩
    · have h15i : ¬ (15 : Int) < (n : Int) := by omega
      have HE : Hid (hx n = [hexd r]) := by show _ = _; rw [hx_small (by omega), hr, show n % 16 = n by omega]
      clear ih hr hq h15 hn hn6 hq4
      go_enter Tryd.func16, Tryd.ntmps16
      go_wp2
      go_ret
      exact ⟨by rw [HE.out]; rfl, rfl⟩
end Go.Proofs.YtnmkkejodkjjiaaDoor.SixJ
