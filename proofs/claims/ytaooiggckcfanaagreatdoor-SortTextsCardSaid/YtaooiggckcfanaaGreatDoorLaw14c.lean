/- The law SortNames, walked. -/
import Derived.Test.YtaooiggckcfanaaGreatDoorMT
namespace Go.Proofs.YtaooiggckcfanaaGreatDoor.Laws
open Go.RowKit Go.Proofs.YtaooiggckcfanaaGreatDoor.Base Go.Proofs.YtaooiggckcfanaaGreatDoor.Base2 Go.Proofs.YtaooiggckcfanaaGreatDoor.SixG Go.Proofs.YtaooiggckcfanaaGreatDoor.Spl Go.Proofs.YtaooiggckcfanaaGreatDoor.PrsD Go.Proofs.YtaooiggckcfanaaGreatDoor.PrsG Go.Proofs.YtaooiggckcfanaaGreatDoor.SrtA Go.Proofs.YtaooiggckcfanaaGreatDoor.SrtW

theorem name_out {a : Int} (h : ¬ (0 ≤ a ∧ a ≤ 7)) : nameOf a = [] := by
  unfold nameOf
  have h0 : a ≠ 0 := by omega
  have h1 : a ≠ 1 := by omega
  have h2 : a ≠ 2 := by omega
  have h3 : a ≠ 3 := by omega
  have h4 : a ≠ 4 := by omega
  have h5 : a ≠ 5 := by omega
  have h6 : a ≠ 6 := by omega
  have h7 : a ≠ 7 := by omega
  simp [h0, h1, h2, h3, h4, h5, h6, h7]
theorem eight {a : Int} (h : 0 ≤ a ∧ a ≤ 7) : a = 0 ∨ a = 1 ∨ a = 2 ∨ a = 3 ∨ a = 4 ∨ a = 5 ∨ a = 6 ∨ a = 7 := by omega
theorem name_in {a : Int} (h : 0 ≤ a ∧ a ≤ 7) : nameOf a ≠ [] := by
  rcases eight h with rfl | rfl | rfl | rfl | rfl | rfl | rfl | rfl <;> decide
theorem name_inj {a b : Int} (h : 0 ≤ a ∧ a ≤ 7) : nameOf a = nameOf b ↔ a = b := by
  constructor
  · intro e
    by_cases hb : 0 ≤ b ∧ b ≤ 7
    · rcases eight h with rfl | rfl | rfl | rfl | rfl | rfl | rfl | rfl <;> rcases eight hb with rfl | rfl | rfl | rfl | rfl | rfl | rfl | rfl <;> first | rfl | (exact absurd e (by decide))
    · rw [name_out hb] at e
      exact absurd e (name_in h)
  · intro e
    rw [e]
set_option linter.unusedSimpArgs false in
set_option maxRecDepth 100000 in
set_option maxHeartbeats 4000000 in
theorem SortNames_any (a b : Int) (w : World) (_ha : -9223372036854775808 ≤ a ∧ a ≤ 9223372036854775807) (_hb : -9223372036854775808 ≤ b ∧ b ≤ 9223372036854775807) (hT : Tab.Pow w) (hL : Lad w) (hM : Max w) (hU : Utab w) : Calls Tryz.prog 14 #[.int .i64 a, .int .i64 b] w fun e w' => e = .returned (.bool true) ∧ Below w.heap.size w w' := by
  obtain ⟨X, hX⟩ : ∃ X, X = nameOf a := ⟨_, rfl⟩
  obtain ⟨Y, hY⟩ : ∃ X, X = nameOf b := ⟨_, rfl⟩
  have HX : Hid (∀ w : World, Calls Tryz.prog 33 #[.int .i64 a] w fun e w' => e = .returned (.string (strOf X)) ∧ w' = w) := fun w => by rw [hX]; exact name_any a w
  have HY : Hid (∀ w : World, Calls Tryz.prog 33 #[.int .i64 b] w fun e w' => e = .returned (.string (strOf Y)) ∧ w' = w) := fun w => by rw [hY]; exact name_any b w
  have HAW := hid (awake_any w hT hL hM hU)
  by_cases hin : 0 ≤ a ∧ a ≤ 7
  · have h0 : X ≠ [] := by rw [hX]; exact name_in hin
    have hxy : X = Y ↔ a = b := by rw [hX, hY]; exact name_inj hin
    have q0 : ((strOf X).toList == []) = false := by rw [str_tl, beq_eq_false_iff_ne]; exact h0
    have q1 : ¬ (strOf X).toList = [] := by rw [str_tl]; exact h0
    have q2 : (strOf X).toList.isEmpty = false := by rw [str_tl]; simpa using h0
    obtain ⟨i1, i2⟩ := hin
    by_cases hab : a = b
    · have q3 : ((strOf X).toList == (strOf Y).toList) = true := by rw [str_tl, str_tl, hxy.2 hab]; simp
      have q4 : (a == b) = true := by rw [hab]; simp
      clear hX hY hxy h0 hT hL hM hU hab
      go_enter Tryz.func14, Tryz.ntmps14
      go_wp2_with fail
      refine (HX.out _).mono ?_
      rintro e w2 ⟨rfl, hw2⟩
      subst hw2
      go_wp2_with fail
      refine (HY.out _).mono ?_
      rintro e w3 ⟨rfl, hw3⟩
      subst hw3
      go_wp2_with fail
      refine HAW.out.mono ?_
      rintro e w4 ⟨rfl, hb4⟩
      have HB4 := hid hb4
      clear hb4
      go_wp2
      go_ret
      exact ⟨rfl, HB4.out⟩
    · have q3 : ((strOf X).toList == (strOf Y).toList) = false := by rw [str_tl, str_tl, beq_eq_false_iff_ne]; exact fun e => hab (hxy.1 e)
      have q4 : (a == b) = false := beq_eq_false_iff_ne.2 hab
      clear hX hY hxy h0 hT hL hM hU hab
      go_enter Tryz.func14, Tryz.ntmps14
      go_wp2_with fail
      refine (HX.out _).mono ?_
      rintro e w2 ⟨rfl, hw2⟩
      subst hw2
      go_wp2_with fail
      refine (HY.out _).mono ?_
      rintro e w3 ⟨rfl, hw3⟩
      subst hw3
      go_wp2_with fail
      refine HAW.out.mono ?_
      rintro e w4 ⟨rfl, hb4⟩
      have HB4 := hid hb4
      clear hb4
      go_wp2
      go_ret
      exact ⟨rfl, HB4.out⟩
  · have h0 : X = [] := by rw [hX]; exact name_out hin
    have q0 : ((strOf X).toList == []) = true := by rw [str_tl, h0]; rfl
    have q1 : (strOf X).toList = [] := by rw [str_tl, h0]
    clear hX hY h0 hT hL hM hU
    by_cases i1 : 0 ≤ a
    · have i2 : ¬ a ≤ 7 := fun h => hin ⟨i1, h⟩
      clear hin
      go_enter Tryz.func14, Tryz.ntmps14
      go_wp2_with fail
      refine (HX.out _).mono ?_
      rintro e w2 ⟨rfl, hw2⟩
      subst hw2
      go_wp2_with fail
      refine (HY.out _).mono ?_
      rintro e w3 ⟨rfl, hw3⟩
      subst hw3
      go_wp2_with fail
      refine HAW.out.mono ?_
      rintro e w4 ⟨rfl, hb4⟩
      have HB4 := hid hb4
      clear hb4
      go_wp2
      go_ret
      exact ⟨rfl, HB4.out⟩
    · clear hin
      go_enter Tryz.func14, Tryz.ntmps14
      go_wp2_with fail
      refine (HX.out _).mono ?_
      rintro e w2 ⟨rfl, hw2⟩
      subst hw2
      go_wp2_with fail
      refine (HY.out _).mono ?_
      rintro e w3 ⟨rfl, hw3⟩
      subst hw3
      go_wp2_with fail
      refine HAW.out.mono ?_
      rintro e w4 ⟨rfl, hb4⟩
      have HB4 := hid hb4
      clear hb4
      go_wp2
      go_ret
      exact ⟨rfl, HB4.out⟩
end Go.Proofs.YtaooiggckcfanaaGreatDoor.Laws
