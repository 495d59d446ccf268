/- The walks of the laws EscapeGrows and EscapeBack: each returns true, whatever it is called with. -/
import Derived.Test.YtllkkcolnjbjhaaEscP
import Derived.Test.YtllkkcolnjbjhaaEscW
namespace Go.Proofs.Ytllkkcolnjbjhaa.Laws
open Go.RowKit Go.Proofs.Ytllkkcolnjbjhaa.Base Go.Proofs.Ytllkkcolnjbjhaa.Base2 Go.Proofs.Ytllkkcolnjbjhaa.EscI

def way : Nat → Int
  | 0 => 0
  | 1 => 2
  | 2 => 4
  | 3 => 5
  | _ => 6
theorem grows (k : Nat) (h : k < 4) (c : Int) (hc : inS (way k) c = true) : inS (way (k + 1)) c = true := by
  have hcase : k = 0 ∨ k = 1 ∨ k = 2 ∨ k = 3 := by omega
  rcases hcase with rfl | rfl | rfl | rfl
  · change inS 0 c = true at hc
    show inS 2 c = true
    rw [inS_0, decide_eq_true_iff] at hc
    rw [inS_2, decide_eq_true_iff]
    omega
  · change inS 2 c = true at hc
    show inS 4 c = true
    rw [inS_2, decide_eq_true_iff] at hc
    rw [inS_4, decide_eq_true_iff]
    unfold P2 at hc
    unfold P4
    omega
  · change inS 4 c = true at hc
    show inS 5 c = true
    rw [inS_4, decide_eq_true_iff] at hc
    rw [inS_5, decide_eq_true_iff]
    unfold P4 at hc
    unfold P5
    omega
  · change inS 5 c = true at hc
    show inS 6 c = true
    rw [inS_5, decide_eq_true_iff] at hc
    rw [inS_6, decide_eq_true_iff]
    unfold P5 at hc
    unfold P6
    omega
theorem grows3 (c : Int) (hc : inS 2 c = true) : inS 3 c = true := by
  unfold inS at hc ⊢
  rw [decide_eq_true_iff] at hc ⊢
  unfold P1 P2 P3 P4 P5 P6 at *
  omega
theorem grows1 (c : Int) (hc : inS 0 c = true) : inS 1 c = true := by
  unfold inS at hc ⊢
  rw [decide_eq_true_iff] at hc ⊢
  unfold P1 P2 P3 P4 P5 P6 at *
  omega
set_option maxHeartbeats 2000000 in
theorem EscapeGrows_any (c : Int) (w : World) (hc : 0 ≤ c ∧ c ≤ 255) :
    Calls Try.prog 6 #[.int .u8 c] w fun e w' => e = .returned (.bool true) ∧ Below w.heap.size w w' := by
  obtain ⟨x, hx⟩ : ∃ x : UInt8, (x.toNat : Int) = c := ⟨UInt8.ofNat c.toNat, by simp; omega⟩
  subst hx
  clear hc
  have hcell : ∀ j, j < 5 → (w.alloc (.cells #[.int .i64 0, .int .i64 2, .int .i64 4, .int .i64 5, .int .i64 6] 3)).cell? ⟨w.heap.size, j, none⟩ = some (.int .i64 (way j)) := by
    intro j hj
    rw [World.cell?_alloc_mark]
    have hcase : j = 0 ∨ j = 1 ∨ j = 2 ∨ j = 3 ∨ j = 4 := by omega
    rcases hcase with rfl | rfl | rfl | rfl | rfl <;> rfl
  have HC := hid hcell
  clear hcell
  go_enter Try.func6, Try.ntmps6
  go_wp2
  go_loop [4] (fun vk => ∃ k : Nat, 1 ≤ k ∧ k ≤ 5 ∧ vk = .int .i64 k) (fun vk => 5 - (intOf vk).toNat)
  case atStart => exact ⟨1, by omega, by omega, rfl⟩
  case round =>
    obtain ⟨k, hk1, hk2, rfl⟩ := hrel
    by_cases hlt : k < 5
    · obtain ⟨j, rfl⟩ : ∃ j, k = j + 1 := ⟨k - 1, by omega⟩
      have c1 := HC.out j (by omega)
      have c2 := HC.out (j + 1) (by omega)
      obtain ⟨a, ha⟩ : ∃ a, a = way j := ⟨_, rfl⟩
      obtain ⟨b, hb⟩ : ∃ b, b = way (j + 1) := ⟨_, rfl⟩
      rw [← ha] at c1
      rw [← hb] at c2
      have HG : Hid (inS a x.toNat = true → inS b x.toNat = true) := by rw [ha, hb]; exact grows j (by omega) _
      clear ha hb
      cases hin : inS a x.toNat
      · have HI := hid hin
        clear hin
        go_wp2_with fail
        refine (in_any _ _ _).mono ?_
        rintro e w2 ⟨rfl, rfl⟩
        rw [HI.out]
        go_wp2_with fail
        go_round
        case rel => exact ⟨j + 1 + 1, by omega, by omega, by go_num⟩
        case measure => simp [intOf]; omega
      · have HI := hid hin
        clear hin
        go_wp2_with fail
        refine (in_any _ _ _).mono ?_
        rintro e w2 ⟨rfl, rfl⟩
        rw [HI.out]
        go_wp2_with fail
        refine (in_any _ _ _).mono ?_
        rintro e w2 ⟨rfl, rfl⟩
        rw [HG.out HI.out]
        go_wp2_with fail
        go_round
        case rel => exact ⟨j + 1 + 1, by omega, by omega, by go_num⟩
        case measure => simp [intOf]; omega
    · obtain rfl : k = 5 := by omega
      have H3 := hid (grows3 x.toNat)
      have H1 := hid (grows1 x.toNat)
      cases h2 : inS 2 x.toNat
      · have HI := hid h2
        clear h2
        cases h0 : inS 0 x.toNat
        · have HJ := hid h0
          clear h0
          go_wp2_with fail
          refine (EscW.awake_any _).mono ?_
          rintro e w2 ⟨rfl, hb2⟩
          go_wp2_with fail
          refine (in_any _ _ _).mono ?_
          rintro e w3 ⟨rfl, rfl⟩
          rw [HI.out]
          go_wp2_with fail
          refine (in_any _ _ _).mono ?_
          rintro e w3 ⟨rfl, rfl⟩
          rw [HJ.out]
          go_wp2_with fail
          go_ret
          exact ⟨rfl, ((Below.refl _ _).alloc (Nat.le_refl _) _).trans (hb2.mono (by simp))⟩
        · have HJ := hid h0
          clear h0
          go_wp2_with fail
          refine (EscW.awake_any _).mono ?_
          rintro e w2 ⟨rfl, hb2⟩
          go_wp2_with fail
          refine (in_any _ _ _).mono ?_
          rintro e w3 ⟨rfl, rfl⟩
          rw [HI.out]
          go_wp2_with fail
          refine (in_any _ _ _).mono ?_
          rintro e w3 ⟨rfl, rfl⟩
          rw [HJ.out]
          go_wp2_with fail
          refine (in_any _ _ _).mono ?_
          rintro e w3 ⟨rfl, rfl⟩
          rw [H1.out HJ.out]
          go_wp2_with fail
          go_ret
          exact ⟨rfl, ((Below.refl _ _).alloc (Nat.le_refl _) _).trans (hb2.mono (by simp))⟩
      · have HI := hid h2
        clear h2
        cases h0 : inS 0 x.toNat
        · have HJ := hid h0
          clear h0
          go_wp2_with fail
          refine (EscW.awake_any _).mono ?_
          rintro e w2 ⟨rfl, hb2⟩
          go_wp2_with fail
          refine (in_any _ _ _).mono ?_
          rintro e w3 ⟨rfl, rfl⟩
          rw [HI.out]
          go_wp2_with fail
          refine (in_any _ _ _).mono ?_
          rintro e w3 ⟨rfl, rfl⟩
          rw [H3.out HI.out]
          go_wp2_with fail
          refine (in_any _ _ _).mono ?_
          rintro e w3 ⟨rfl, rfl⟩
          rw [HJ.out]
          go_wp2_with fail
          go_ret
          exact ⟨rfl, ((Below.refl _ _).alloc (Nat.le_refl _) _).trans (hb2.mono (by simp))⟩
        · have HJ := hid h0
          clear h0
          go_wp2_with fail
          refine (EscW.awake_any _).mono ?_
          rintro e w2 ⟨rfl, hb2⟩
          go_wp2_with fail
          refine (in_any _ _ _).mono ?_
          rintro e w3 ⟨rfl, rfl⟩
          rw [HI.out]
          go_wp2_with fail
          refine (in_any _ _ _).mono ?_
          rintro e w3 ⟨rfl, rfl⟩
          rw [H3.out HI.out]
          go_wp2_with fail
          refine (in_any _ _ _).mono ?_
          rintro e w3 ⟨rfl, rfl⟩
          rw [HJ.out]
          go_wp2_with fail
          refine (in_any _ _ _).mono ?_
          rintro e w3 ⟨rfl, rfl⟩
          rw [H1.out HJ.out]
          go_wp2_with fail
          go_ret
          exact ⟨rfl, ((Below.refl _ _).alloc (Nat.le_refl _) _).trans (hb2.mono (by simp))⟩
end Go.Proofs.Ytllkkcolnjbjhaa.Laws
