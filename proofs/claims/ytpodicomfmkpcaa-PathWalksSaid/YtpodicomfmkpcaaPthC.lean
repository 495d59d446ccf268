/- Paths: segments that mean one less. -/
import Derived.Test.YtpodicomfmkpcaaPthB
import Derived.Test.YtpodicomfmkpcaaRegt
import Derived.Test.YtpodicomfmkpcaaShelf
namespace Go.Proofs.Ytpodicomfmkpcaa.PthC
open Go.RowKit Go.Proofs.Ytpodicomfmkpcaa.Base Go.Proofs.Ytpodicomfmkpcaa.Base2 Go.Proofs.Ytpodicomfmkpcaa.UtfL Go.Proofs.Ytpodicomfmkpcaa.UtfA Go.Proofs.Ytpodicomfmkpcaa.PthP Go.Proofs.Ytpodicomfmkpcaa.PthA

set_option maxHeartbeats 2000000 in
theorem refDouble_any (s : ByteArray) (w : World) (hs : s.size ≤ 1073741824) : Calls Try.prog 11 #[.string s] w fun e w' => e = .returned (.bool (dbl s.data.toList)) ∧ Below w.heap.size w w' := by
  obtain ⟨o, ho⟩ : ∃ o, o = dbl s.data.toList := ⟨_, rfl⟩
  rw [← ho]
  obtain ⟨V, hV⟩ : ∃ V, V = strOf (lower s.data.toList) := ⟨_, rfl⟩
  obtain ⟨o1, h1⟩ : ∃ o, o = decide (lower s.data.toList = [46, 46]) := ⟨_, rfl⟩
  obtain ⟨o2, h2⟩ : ∃ o, o = decide (lower s.data.toList = [46, 37, 50, 101]) := ⟨_, rfl⟩
  obtain ⟨o3, h3⟩ : ∃ o, o = decide (lower s.data.toList = [37, 50, 101, 46]) := ⟨_, rfl⟩
  obtain ⟨o4, h4⟩ : ∃ o, o = decide (lower s.data.toList = [37, 50, 101, 37, 50, 101]) := ⟨_, rfl⟩
  have q1 : (V.toList == [46, 46]) = o1 := by rw [hV, beq_strOf, h1]
  have q2 : (V.toList == [46, 37, 50, 101]) = o2 := by rw [hV, beq_strOf, h2]
  have q3 : (V.toList == [37, 50, 101, 46]) = o3 := by rw [hV, beq_strOf, h3]
  have q4 : (V.toList == [37, 50, 101, 37, 50, 101]) = o4 := by rw [hV, beq_strOf, h4]
  have HO : Hid (o = (o1 || o2 || o3 || o4)) := by show _ = _; rw [ho, h1, h2, h3, h4]; rfl
  have HV := hid hV
  clear ho hV h1 h2 h3 h4
  cases o1 <;> cases o2 <;> cases o3 <;> cases o4
  all_goals
    have HE := hid (show o = _ from HO.out)
    go_enter Try.func11, Try.ntmps11
    go_wp2_with fail
    refine (RefA.lower_any s _ hs).mono ?_
    rintro e w2 ⟨rfl, hb2⟩
    rw [← HV.out]
    go_wp2
    go_ret
    exact ⟨ret_bool HE.out.symm, hb2⟩
theorem ext_size (s : ByteArray) (a b : Nat) : (s.extract a b).size ≤ s.size := by
  rw [ByteArray.size_extract]; omega
set_option maxHeartbeats 2000000 in
theorem double_any (s : ByteArray) (w : World) (hs : s.size ≤ 1073741824) : Calls Try.prog 10 #[.string s] w fun e w' => e = .returned (.bool (dbl s.data.toList)) ∧ Below w.heap.size w w' := by
  have hl : s.data.toList.length = s.size := Array.length_toList
  obtain ⟨o, ho⟩ : ∃ o, o = dbl s.data.toList := ⟨_, rfl⟩
  rw [← ho]
  obtain ⟨P, hP⟩ : ∃ P, P = Lib.hasPrefix s.data.toList [46] := ⟨_, rfl⟩
  have HP := hid hP
  cases P with
  | true =>
    obtain ⟨t, ht⟩ : ∃ t, s.data.toList = 46 :: t := by
      unfold Lib.hasPrefix at hP
      match h : s.data.toList, hP with
      | c :: t, hP =>
        simp at hP
        exact ⟨t, by rw [hP]⟩
    have h1 : 1 ≤ s.size := by rw [← hl, ht]; simp
    obtain ⟨X, hX⟩ : ∃ X, X = s.extract 1 s.size := ⟨_, rfl⟩
    have hx : s.extract 1 s.size = X := hX.symm
    have hXd : X.data.toList = t := by rw [hX, Regs.ext_drop s 1 s.size rfl, ht]; rfl
    have hXs : X.size ≤ maxLen := by rw [hX]; have := ext_size s 1 s.size; unfold maxLen; omega
    have HE : Hid (o = sgl X.data.toList) := by show _ = _; rw [ho, ht, dbl_dot, hXd]
    have HXS := hid hXs
    clear hP ht hX hXd ho hl hXs
    go_enter Try.func10, Try.ntmps10
    go_wp2_with fail
    refine (Try.strings_HasPrefix s ⟨#[46]⟩ _).mono ?_
    rintro e w2 ⟨rfl, rfl⟩
    rw [← HP.out]
    go_wp2_with fail
    refine (single_any X _ HXS.out).mono ?_
    rintro e w3 ⟨rfl, hb3⟩
    rw [← HE.out]
    go_wp2
    go_ret
    exact ⟨rfl, hb3⟩
  | false =>
    by_cases h4 : 3 < s.size
    · obtain ⟨X, hX⟩ : ∃ X, X = s.extract 0 3 := ⟨_, rfl⟩
      obtain ⟨Y, hY⟩ : ∃ Y, Y = s.extract 3 s.size := ⟨_, rfl⟩
      have hx : s.extract 0 3 = X := hX.symm
      have hy : s.extract 3 s.size = Y := hY.symm
      have HXS : Hid (X.size ≤ maxLen) := by show _ ≤ _; rw [hX]; have := ext_size s 0 3; unfold maxLen; omega
      have HYS : Hid (Y.size ≤ maxLen) := by show _ ≤ _; rw [hY]; have := ext_size s 3 s.size; unfold maxLen; omega
      obtain ⟨p, hp⟩ : ∃ p, p = sgl X.data.toList := ⟨_, rfl⟩
      obtain ⟨q, hq⟩ : ∃ q, q = sgl Y.data.toList := ⟨_, rfl⟩
      have HE : Hid (o = (p && q)) := by
        show _ = _
        rw [ho, hp, hq, hX, hY, Regs.ext_take, Regs.ext_drop s 3 s.size rfl]
        show dbl s.data.toList = (sgl (s.data.toList.take 3) && sgl (s.data.toList.drop 3))
        match h : s.data.toList, hP with
        | [], _ => rw [h] at hl; simp at hl; omega
        | c :: t, hP =>
          have hc : c ≠ 46 := by
            rintro rfl
            simp [Lib.hasPrefix] at hP
          rw [dbl_other c t hc, decide_eq_true (by rw [← h, hl]; exact h4), Bool.true_and]
      have HPP := hid hp
      have HQQ := hid hq
      have h4' : (3 : Int) < (s.size : Int) := by omega
      clear hP hX hY ho hl hp hq
      cases p with
      | true =>
        go_enter Try.func10, Try.ntmps10
        go_wp2_with fail
        refine (Try.strings_HasPrefix s ⟨#[46]⟩ _).mono ?_
        rintro e w2 ⟨rfl, rfl⟩
        rw [← HP.out]
        go_wp2_with fail
        refine (single_any X _ HXS.out).mono ?_
        rintro e w3 ⟨rfl, hb3⟩
        rw [← HPP.out]
        go_wp2_with fail
        refine (single_any Y _ HYS.out).mono ?_
        rintro e w4 ⟨rfl, hb4⟩
        rw [← HQQ.out]
        have HF : Hid (o = q) := by show _ = _; rw [HE.out, Bool.true_and]
        go_wp2
        go_ret
        exact ⟨ret_bool HF.out.symm, bel hb3 hb4⟩
      | false =>
        have HF : Hid (o = false) := by show _ = _; rw [HE.out, Bool.false_and]
        go_enter Try.func10, Try.ntmps10
        go_wp2_with fail
        refine (Try.strings_HasPrefix s ⟨#[46]⟩ _).mono ?_
        rintro e w2 ⟨rfl, rfl⟩
        rw [← HP.out]
        go_wp2_with fail
        refine (single_any X _ HXS.out).mono ?_
        rintro e w3 ⟨rfl, hb3⟩
        rw [← HPP.out]
        go_wp2
        go_ret
        exact ⟨ret_bool HF.out.symm, hb3⟩
    · have HF : Hid (o = false) := by
        show _ = _
        rw [ho]
        match h : s.data.toList, hP with
        | [], _ => rfl
        | c :: t, hP =>
          have hc : c ≠ 46 := by
            rintro rfl
            simp [Lib.hasPrefix] at hP
          rw [dbl_other c t hc, decide_eq_false (by rw [← h, hl]; exact h4), Bool.false_and]
      have h4' : ¬ (3 : Int) < (s.size : Int) := by omega
      clear hP ho hl
      go_enter Try.func10, Try.ntmps10
      go_wp2_with fail
      refine (Try.strings_HasPrefix s ⟨#[46]⟩ _).mono ?_
      rintro e w2 ⟨rfl, rfl⟩
      rw [← HP.out]
      go_wp2
      go_ret
      exact ⟨ret_bool HF.out.symm, Below.refl _ _⟩
end Go.Proofs.Ytpodicomfmkpcaa.PthC
