/- The walks of the laws UtfCase and UtfBytes: each returns true, whatever it is called with. -/
import Derived.Test.YtnkdejeapgichaaUtfW
import Derived.Test.YtnkdejeapgichaaRefA
namespace Go.Proofs.Ytnkdejeapgichaa.Laws
open Go.RowKit Go.Proofs.Ytnkdejeapgichaa.Base

theorem lower_lower (l : List UInt8) : UtfL.lower (UtfL.lower l) = UtfL.lower l := by
  unfold UtfL.lower
  rw [List.map_map]
  refine List.map_congr_left fun c _ => ?_
  simp only [Function.comp]
  by_cases h : 65 ≤ (c.toNat : Int) ∧ (c.toNat : Int) ≤ 90
  · have := UtfL.low_yes c h.1 h.2
    exact UtfL.low_no _ (by omega)
  · rw [UtfL.low_no c h, UtfL.low_no c h]
theorem size_lower (s : ByteArray) : (strOf (UtfL.lower s.data.toList)).size = s.size := by
  rw [size_strOf, UtfL.lower, List.length_map]
  exact Array.length_toList
theorem UtfBytes_any (c : Int) (s : ByteArray) (w : World) (hc : 0 ≤ c ∧ c ≤ 255) (hs : s.size ≤ maxLen) :
    Calls Try.prog 6 #[.int .u8 c, .string s] w fun e w' => e = .returned (.bool true) ∧ Below w.heap.size w w' := by
  obtain ⟨h0, h1⟩ := hc
  by_cases h5 : s.size ≤ 500
  · have hp : ¬ (500 : Int) < (s.size : Int) := by omega
    clear hs
    go_enter Try.func6, Try.ntmps6
    go_wp2_with fail
    refine (UtfW.awake_any _).mono ?_
    rintro e w1 ⟨rfl, hb1⟩
    go_wp2_with fail
    refine (UtfA.letter_any _ _).mono ?_
    rintro e w2 ⟨rfl, rfl⟩
    go_wp2_with fail
    refine (RefA.letter_any _ _).mono ?_
    rintro e w2 ⟨rfl, rfl⟩
    go_wp2_with fail
    refine (UtfA.digit_any _ _).mono ?_
    rintro e w2 ⟨rfl, rfl⟩
    go_wp2_with fail
    refine (RefA.digit_any _ _).mono ?_
    rintro e w2 ⟨rfl, rfl⟩
    go_wp2_with fail
    refine (UtfA.hex_any _ _ h0 h1).mono ?_
    rintro e w2 ⟨rfl, rfl⟩
    go_wp2_with fail
    refine (RefA.hex_any _ _).mono ?_
    rintro e w2 ⟨rfl, rfl⟩
    go_wp2_with fail
    refine (UtfL.lower_any _ _ (by unfold maxLen; omega)).mono ?_
    rintro e w2 ⟨rfl, hb2⟩
    go_wp2_with fail
    refine (RefA.lower_any _ _ (by omega)).mono ?_
    rintro e w3 ⟨rfl, hb3⟩
    go_wp2_with fail
    refine (UtfL.lower_any _ _ (by unfold maxLen; omega)).mono ?_
    rintro e w4 ⟨rfl, hb4⟩
    go_wp2_with fail
    refine (UtfL.lower_any _ _ (by rw [size_lower]; unfold maxLen; omega)).mono ?_
    rintro e w5 ⟨rfl, hb5⟩
    rw [show (strOf (UtfL.lower s.data.toList)).data.toList = UtfL.lower s.data.toList from rfl, lower_lower]
    go_wp2_with fail
    refine (UtfL.lower_any _ _ (by unfold maxLen; omega)).mono ?_
    rintro e w6 ⟨rfl, hb6⟩
    go_wp2_with fail
    go_ret
    have s1 := hb1.size
    have s2 := hb2.size
    have s3 := hb3.size
    have s4 := hb4.size
    have s5 := hb5.size
    exact ⟨rfl, ((((hb1.trans (hb2.mono s1)).trans (hb3.mono (by omega))).trans (hb4.mono (by omega))).trans (hb5.mono (by omega))).trans (hb6.mono (by omega))⟩
  · have hp : (500 : Int) < (s.size : Int) := by omega
    clear hs
    go_enter Try.func6, Try.ntmps6
    go_wp2_with fail
    refine (UtfW.awake_any _).mono ?_
    rintro e w1 ⟨rfl, hb1⟩
    go_wp2_with fail
    refine (UtfW.awake_any _).mono ?_
    rintro e w2 ⟨rfl, hb2⟩
    go_wp2_with fail
    go_ret
    exact ⟨rfl, hb1.trans (hb2.mono hb1.size)⟩

theorem one_byte (c : UInt8) (w : World) : Rds (w.alloc (.cells #[.int .u8 (c.toNat : Int)] 5)) (some ⟨w.heap.size, 0, none⟩) 1 (bcells [c]) :=
  Rds.of_spot rfl (by simp) (fun j hj => by
    obtain rfl : j = 0 := by simp [bcells] at hj; exact hj
    rw [World.cell?_alloc_mark]
    rfl)
theorem hex_low (c : UInt8) : UtfA.hex ((UtfL.low c).toNat : Int) = UtfA.hex (c.toNat : Int) := by
  by_cases h : 65 ≤ (c.toNat : Int) ∧ (c.toNat : Int) ≤ 90
  · rw [UtfL.low_yes c h.1 h.2]
    unfold UtfA.hex
    (repeat' split) <;> omega
  · rw [UtfL.low_no c h]
theorem letter_low (c : UInt8) : UtfA.letter ((UtfL.low c).toNat : Int) = UtfA.letter (c.toNat : Int) := by
  by_cases h : 65 ≤ (c.toNat : Int) ∧ (c.toNat : Int) ≤ 90
  · rw [UtfL.low_yes c h.1 h.2]
    unfold UtfA.letter
    rw [Bool.eq_iff_iff]
    simp
    omega
  · rw [UtfL.low_no c h]
theorem digit_no (c : Int) (h : c < 48 ∨ 57 < c) : UtfA.digit c = false := by unfold UtfA.digit; rw [decide_eq_false_iff_not]; omega
theorem digit_yes (c : Int) (h : 48 ≤ c ∧ c ≤ 57) : UtfA.digit c = true ∧ UtfA.hex c = c - 48 := by
  unfold UtfA.digit UtfA.hex
  rw [if_pos h]
  simp
  omega
set_option maxHeartbeats 1000000 in
theorem case_core (c d : UInt8) (w : World) (hcd : UtfL.low c = d)
    (hk : (65 ≤ (c.toNat : Int) ∧ (c.toNat : Int) ≤ 90 ∧ ((d.toNat : Int) == (c.toNat : Int)) = false ∧ UtfA.digit c.toNat = false) ∨ ((c.toNat : Int) < 65 ∧ d = c ∧ UtfA.digit c.toNat = false) ∨ ((c.toNat : Int) < 65 ∧ d = c ∧ UtfA.digit c.toNat = true) ∨ (90 < (c.toNat : Int) ∧ d = c ∧ UtfA.digit c.toNat = false))
    (hdig : 48 ≤ (c.toNat : Int) ∧ (c.toNat : Int) ≤ 57 ∨ UtfA.digit c.toNat = false) :
    Calls Try.prog 8 #[.int .u8 (c.toNat : Int)] w fun e w' => e = .returned (.bool true) ∧ Below w.heap.size w w' := by
  have hst := run_string_of 22 9 5 Try.underlying22 Try.underlying5 Try.underlying9 _ 1 (one_byte c w)
  have hlow : UtfL.lower (strOf [c]).data.toList = [d] := by rw [← hcd]; rfl
  have HL := hid hlow
  have HX : Hid (UtfA.hex (d.toNat : Int) = UtfA.hex (c.toNat : Int)) := by rw [← hcd]; exact hex_low c
  have HY : Hid (UtfA.letter (d.toNat : Int) = UtfA.letter (c.toNat : Int)) := by rw [← hcd]; exact letter_low c
  clear hlow hcd
  have hx : ∀ h : 0 < (strOf [d]).size, (strOf [d])[0]'h = d := fun _ => rfl
  have hsz : (strOf [d]).size = 1 := rfl
  have hb0 : 0 ≤ (d.toNat : Int) ∧ (d.toNat : Int) ≤ 255 := by have := d.toNat_lt; omega
  have hb1 : 0 ≤ (c.toNat : Int) ∧ (c.toNat : Int) ≤ 255 := by have := c.toNat_lt; omega
  have HD := hid hdig
  clear hdig
  rcases hk with ⟨k1, k2, k3, k4⟩ | ⟨k1, rfl, k4⟩ | ⟨k1, rfl, k4⟩ | ⟨k1, rfl, k4⟩
  all_goals
    have HK := hid k4
    clear k4
    go_enter Try.func8, Try.ntmps8
    go_wp2_with fail
    refine (UtfL.lower_any _ _ (by rw [size_strOf]; unfold maxLen; simp)).mono ?_
    rintro e w1 ⟨rfl, hb1'⟩
    rw [HL.out]
    go_wp2_with fail
    refine (UtfW.awake_any _).mono ?_
    rintro e w2 ⟨rfl, hb2'⟩
    go_wp2_with fail
    refine (UtfA.hex_any _ _ hb0.1 hb0.2).mono ?_
    rintro e w3 ⟨rfl, rfl⟩
    try rw [HX.out]
    go_wp2_with fail
    refine (UtfA.hex_any _ _ hb1.1 hb1.2).mono ?_
    rintro e w3 ⟨rfl, rfl⟩
    go_wp2_with fail
    refine (UtfA.letter_any _ _).mono ?_
    rintro e w3 ⟨rfl, rfl⟩
    try rw [HY.out]
    go_wp2_with fail
    refine (UtfA.letter_any _ _).mono ?_
    rintro e w3 ⟨rfl, rfl⟩
    go_wp2_with fail
    refine (UtfA.digit_any _ _).mono ?_
    rintro e w3 ⟨rfl, rfl⟩
    rw [HK.out]
    go_wp2_with fail
  · go_ret
    exact ⟨ret_bool (by simp; omega), (((Below.refl _ _).alloc (Nat.le_refl _) _).trans (hb1'.mono (by simp))).trans (hb2'.mono (by have := hb1'.size; simp at this; omega))⟩
  · go_ret
    exact ⟨rfl, (((Below.refl _ _).alloc (Nat.le_refl _) _).trans (hb1'.mono (by simp))).trans (hb2'.mono (by have := hb1'.size; simp at this; omega))⟩
  · have HE : 48 ≤ (d.toNat : Int) ∧ (d.toNat : Int) ≤ 57 := by
      rcases HD.out with h | h
      · exact h
      · rw [HK.out] at h; cases h
    obtain ⟨e1, e2⟩ := HE
    have HF : Hid (UtfA.hex d.toNat = d.toNat - 48) := (digit_yes _ ⟨e1, e2⟩).2
    refine (UtfA.hex_any _ _ hb1.1 hb1.2).mono ?_
    rintro e w3 ⟨rfl, rfl⟩
    rw [HF.out]
    go_wp2_with fail
    go_ret
    exact ⟨rfl, (((Below.refl _ _).alloc (Nat.le_refl _) _).trans (hb1'.mono (by simp))).trans (hb2'.mono (by have := hb1'.size; simp at this; omega))⟩
  · go_ret
    exact ⟨rfl, (((Below.refl _ _).alloc (Nat.le_refl _) _).trans (hb1'.mono (by simp))).trans (hb2'.mono (by have := hb1'.size; simp at this; omega))⟩
theorem UtfCase_any (a : Int) (w : World) (ha : 0 ≤ a ∧ a ≤ 255) :
    Calls Try.prog 8 #[.int .u8 a] w fun e w' => e = .returned (.bool true) ∧ Below w.heap.size w w' := by
  obtain ⟨c, hc⟩ : ∃ c : UInt8, (c.toNat : Int) = a := ⟨UInt8.ofNat a.toNat, by simp; omega⟩
  subst hc
  clear ha
  by_cases h1 : 65 ≤ (c.toNat : Int) ∧ (c.toNat : Int) ≤ 90
  · have h2 := UtfL.low_yes c h1.1 h1.2
    have h3 := digit_no c.toNat (by omega)
    exact case_core c _ w rfl (.inl ⟨h1.1, h1.2, by rw [h2]; simp; omega, h3⟩) (.inr h3)
  · have h2 := UtfL.low_no c h1
    by_cases h3 : 48 ≤ (c.toNat : Int) ∧ (c.toNat : Int) ≤ 57
    · exact case_core c _ w h2 (.inr (.inr (.inl ⟨by omega, rfl, (digit_yes _ h3).1⟩))) (.inl h3)
    · have h4 := digit_no c.toNat (by omega)
      by_cases h5 : (c.toNat : Int) < 65
      · exact case_core c _ w h2 (.inr (.inl ⟨h5, rfl, h4⟩)) (.inr h4)
      · exact case_core c _ w h2 (.inr (.inr (.inr ⟨by omega, rfl, h4⟩))) (.inr h4)
end Go.Proofs.Ytnkdejeapgichaa.Laws
