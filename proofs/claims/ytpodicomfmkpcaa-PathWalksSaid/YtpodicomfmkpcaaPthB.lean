/- Paths: drives. -/
import Derived.Test.YtpodicomfmkpcaaPthA
namespace Go.Proofs.Ytpodicomfmkpcaa.PthB
open Go.RowKit Go.Proofs.Ytpodicomfmkpcaa.Base Go.Proofs.Ytpodicomfmkpcaa.Base2 Go.Proofs.Ytpodicomfmkpcaa.UtfL Go.Proofs.Ytpodicomfmkpcaa.UtfA Go.Proofs.Ytpodicomfmkpcaa.PthP Go.Proofs.Ytpodicomfmkpcaa.PthA

theorem u8_eq (c : UInt8) (n : Nat) (hn : n < 256) : decide (c = UInt8.ofNat n) = decide (c.toNat = n) := by
  refine decide_eq_decide.2 ⟨?_, ?_⟩
  · rintro rfl; simp; omega
  · intro h; rw [← h]; simp
theorem eq58 (c : UInt8) : decide (c = 58) = decide (c.toNat = 58) := u8_eq c 58 (by omega)
theorem eq124 (c : UInt8) : decide (c = 124) = decide (c.toNat = 124) := u8_eq c 124 (by omega)
theorem two_of (s : ByteArray) (h : s.size = 2) : s.data.toList = [s[0]'(by omega), s[1]'(by omega)] := by
  refine List.ext_getElem ((show s.data.toList.length = s.size from Array.length_toList).trans h) fun i h1 h2 => ?_
  have : i = 0 ∨ i = 1 := by simp at h2; omega
  rcases this with rfl | rfl <;> rfl
theorem drv_len (L : List UInt8) (h : drv L = true) : L.length = 2 := by
  match L, h with
  | [_, _], _ => rfl
theorem drv_not (L : List UInt8) (h : L.length ≠ 2) : drv L = false := by
  cases e : drv L with
  | false => rfl
  | true => exact absurd (drv_len L e) h
theorem nrm_not (L : List UInt8) (h : drv L = false) : nrm L = false := by
  match L, h with
  | [], _ => rfl
  | [_], _ => rfl
  | [a, b], h =>
    simp only [drv, nrm] at h ⊢
    cases hl : letter (a.toNat : Int) with
    | false => rfl
    | true =>
      rw [hl] at h
      simp at h
      simp [h.1]
  | _ :: _ :: _ :: _, _ => rfl
theorem nrm_yes (a b : UInt8) (h : drv [a, b] = true) : nrm [a, b] = decide (b = 58) := by
  simp only [drv, nrm, Bool.and_eq_true] at h ⊢
  rw [h.1, Bool.true_and]
set_option maxHeartbeats 2000000 in
theorem drive_any (s : ByteArray) (w : World) : Calls Try.prog 12 #[.string s] w fun e w' => e = .returned (.bool (drv s.data.toList)) ∧ w = w' := by
  obtain ⟨o, ho⟩ : ∃ o, o = drv s.data.toList := ⟨_, rfl⟩
  rw [← ho]
  by_cases h2 : s.size = 2
  · have h0 : 0 < s.size := by omega
    have h1 : 1 < s.size := by omega
    obtain ⟨a, ha⟩ : ∃ a, s[0] = a := ⟨_, rfl⟩
    obtain ⟨b, hb⟩ : ∃ b, s[1] = b := ⟨_, rfl⟩
    have q1 : ((s.size : Int) == 2) = true := by simp; omega
    obtain ⟨p, hp⟩ : ∃ p, p = letter (a.toNat : Int) := ⟨_, rfl⟩
    have HO : Hid (o = (p && (decide (b.toNat = 58) || decide (b.toNat = 124)))) := by
      show _ = _
      rw [ho, two_of s h2, drv, ha, hb, hp, eq58, eq124]
    have HP := hid hp
    have H2 := hid h2
    clear ho hp h2
    by_cases e1 : b.toNat = 58
    · have q2 : ((b.toNat : Int) == 58) = true := by simp; omega
      have HE : Hid (o = p) := by show _ = _; rw [HO.out, decide_eq_true e1]; simp
      clear e1
      cases p
      all_goals
        go_enter Try.func12, Try.ntmps12
        go_wp2_with fail
        refine (UtfA.letter_any _ _).mono ?_
        rintro e w2 ⟨rfl, rfl⟩
        rw [← HP.out]
        go_wp2
        go_ret
        exact ⟨ret_bool HE.out.symm, rfl⟩
    · have q2 : ((b.toNat : Int) == 58) = false := by simp; omega
      by_cases e2 : b.toNat = 124
      · have q3 : ((b.toNat : Int) == 124) = true := by simp; omega
        have HE : Hid (o = p) := by show _ = _; rw [HO.out, decide_eq_true e2]; simp
        clear e1 e2
        cases p
        all_goals
          go_enter Try.func12, Try.ntmps12
          go_wp2_with fail
          refine (UtfA.letter_any _ _).mono ?_
          rintro e w2 ⟨rfl, rfl⟩
          rw [← HP.out]
          go_wp2
          go_ret
          exact ⟨ret_bool HE.out.symm, rfl⟩
      · have q3 : ((b.toNat : Int) == 124) = false := by simp; omega
        have HE : Hid (o = false) := by show _ = _; rw [HO.out, decide_eq_false e1, decide_eq_false e2]; simp
        clear e1 e2
        cases p
        all_goals
          go_enter Try.func12, Try.ntmps12
          go_wp2_with fail
          refine (UtfA.letter_any _ _).mono ?_
          rintro e w2 ⟨rfl, rfl⟩
          rw [← HP.out]
          go_wp2
          go_ret
          exact ⟨ret_bool HE.out.symm, rfl⟩
  · have q1 : ((s.size : Int) == 2) = false := by simp; omega
    have HE : Hid (o = false) := by show _ = _; rw [ho]; exact drv_not _ (by rw [show s.data.toList.length = s.size from Array.length_toList]; exact h2)
    clear h2 ho
    go_enter Try.func12, Try.ntmps12
    go_wp2
    go_ret
    exact ⟨ret_bool HE.out.symm, rfl⟩
set_option maxHeartbeats 2000000 in
theorem refDrive_any (s : ByteArray) (w : World) : Calls Try.prog 13 #[.string s] w fun e w' => e = .returned (.bool (drv s.data.toList)) ∧ w = w' := by
  obtain ⟨o, ho⟩ : ∃ o, o = drv s.data.toList := ⟨_, rfl⟩
  rw [← ho]
  by_cases h2 : s.size = 2
  · have h0 : 0 < s.size := by omega
    have h1 : 1 < s.size := by omega
    obtain ⟨a, ha⟩ : ∃ a, s[0] = a := ⟨_, rfl⟩
    obtain ⟨b, hb⟩ : ∃ b, s[1] = b := ⟨_, rfl⟩
    have q1 : ((s.size : Int) == 2) = true := by simp; omega
    obtain ⟨p, hp⟩ : ∃ p, p = letter (a.toNat : Int) := ⟨_, rfl⟩
    have HO : Hid (o = (p && (decide (b.toNat = 58) || decide (b.toNat = 124)))) := by
      show _ = _
      rw [ho, two_of s h2, drv, ha, hb, hp, eq58, eq124]
    have HP := hid hp
    have H2 := hid h2
    clear ho hp h2
    by_cases e1 : b.toNat = 58
    · have q2 : ((b.toNat : Int) == 58) = true := by simp; omega
      have HE : Hid (o = p) := by show _ = _; rw [HO.out, decide_eq_true e1]; simp
      clear e1
      cases p
      all_goals
        go_enter Try.func13, Try.ntmps13
        go_wp2_with fail
        refine (RefA.letter_any _ _).mono ?_
        rintro e w2 ⟨rfl, rfl⟩
        rw [← HP.out]
        go_wp2
        go_ret
        exact ⟨ret_bool HE.out.symm, rfl⟩
    · have q2 : ((b.toNat : Int) == 58) = false := by simp; omega
      by_cases e2 : b.toNat = 124
      · have q3 : ((b.toNat : Int) == 124) = true := by simp; omega
        have HE : Hid (o = p) := by show _ = _; rw [HO.out, decide_eq_true e2]; simp
        clear e1 e2
        cases p
        all_goals
          go_enter Try.func13, Try.ntmps13
          go_wp2_with fail
          refine (RefA.letter_any _ _).mono ?_
          rintro e w2 ⟨rfl, rfl⟩
          rw [← HP.out]
          go_wp2
          go_ret
          exact ⟨ret_bool HE.out.symm, rfl⟩
      · have q3 : ((b.toNat : Int) == 124) = false := by simp; omega
        have HE : Hid (o = false) := by show _ = _; rw [HO.out, decide_eq_false e1, decide_eq_false e2]; simp
        clear e1 e2
        cases p
        all_goals
          go_enter Try.func13, Try.ntmps13
          go_wp2_with fail
          refine (RefA.letter_any _ _).mono ?_
          rintro e w2 ⟨rfl, rfl⟩
          rw [← HP.out]
          go_wp2
          go_ret
          exact ⟨ret_bool HE.out.symm, rfl⟩
  · have q1 : ((s.size : Int) == 2) = false := by simp; omega
    have HE : Hid (o = false) := by show _ = _; rw [ho]; exact drv_not _ (by rw [show s.data.toList.length = s.size from Array.length_toList]; exact h2)
    clear h2 ho
    go_enter Try.func13, Try.ntmps13
    go_wp2
    go_ret
    exact ⟨ret_bool HE.out.symm, rfl⟩
set_option maxHeartbeats 2000000 in
theorem normal_any (s : ByteArray) (w : World) : Calls Try.prog 14 #[.string s] w fun e w' => e = .returned (.bool (nrm s.data.toList)) ∧ w = w' := by
  obtain ⟨o, ho⟩ : ∃ o, o = nrm s.data.toList := ⟨_, rfl⟩
  rw [← ho]
  obtain ⟨d, hd⟩ : ∃ d, d = drv s.data.toList := ⟨_, rfl⟩
  have HD := hid hd
  cases d with
  | false =>
    have HE : Hid (o = false) := by show _ = _; rw [ho]; exact nrm_not _ hd.symm
    clear hd ho
    go_enter Try.func14, Try.ntmps14
    go_wp2_with fail
    refine (drive_any _ _).mono ?_
    rintro e w2 ⟨rfl, rfl⟩
    rw [← HD.out]
    go_wp2
    go_ret
    exact ⟨ret_bool HE.out.symm, rfl⟩
  | true =>
    have h2 : s.size = 2 := by
      have := drv_len _ hd.symm
      rw [show s.data.toList.length = s.size from Array.length_toList] at this
      exact this
    have h1 : 1 < s.size := by omega
    obtain ⟨b, hb⟩ : ∃ b, s[1] = b := ⟨_, rfl⟩
    have HE : Hid (o = decide (b.toNat = 58)) := by
      show _ = _
      rw [ho, ← eq58]
      rw [two_of s h2] at hd ⊢
      rw [hb] at hd ⊢
      exact nrm_yes _ _ hd.symm
    clear hd ho h2
    by_cases e1 : b.toNat = 58
    · have q2 : ((b.toNat : Int) == 58) = true := by simp; omega
      have HF : Hid (o = true) := HE.out.trans (decide_eq_true e1)
      clear e1
      go_enter Try.func14, Try.ntmps14
      go_wp2_with fail
      refine (drive_any _ _).mono ?_
      rintro e w2 ⟨rfl, rfl⟩
      rw [← HD.out]
      go_wp2
      go_ret
      exact ⟨ret_bool HF.out.symm, rfl⟩
    · have q2 : ((b.toNat : Int) == 58) = false := by simp; omega
      have HF : Hid (o = false) := HE.out.trans (decide_eq_false e1)
      clear e1
      go_enter Try.func14, Try.ntmps14
      go_wp2_with fail
      refine (drive_any _ _).mono ?_
      rintro e w2 ⟨rfl, rfl⟩
      rw [← HD.out]
      go_wp2
      go_ret
      exact ⟨ret_bool HF.out.symm, rfl⟩
set_option maxHeartbeats 2000000 in
theorem refNormal_any (s : ByteArray) (w : World) : Calls Try.prog 15 #[.string s] w fun e w' => e = .returned (.bool (nrm s.data.toList)) ∧ w = w' := by
  obtain ⟨o, ho⟩ : ∃ o, o = nrm s.data.toList := ⟨_, rfl⟩
  rw [← ho]
  obtain ⟨d, hd⟩ : ∃ d, d = drv s.data.toList := ⟨_, rfl⟩
  have HD := hid hd
  cases d with
  | false =>
    have HE : Hid (o = false) := by show _ = _; rw [ho]; exact nrm_not _ hd.symm
    clear hd ho
    go_enter Try.func15, Try.ntmps15
    go_wp2_with fail
    refine (refDrive_any _ _).mono ?_
    rintro e w2 ⟨rfl, rfl⟩
    rw [← HD.out]
    go_wp2
    go_ret
    exact ⟨ret_bool HE.out.symm, rfl⟩
  | true =>
    have h2 : s.size = 2 := by
      have := drv_len _ hd.symm
      rw [show s.data.toList.length = s.size from Array.length_toList] at this
      exact this
    have h1 : 1 < s.size := by omega
    obtain ⟨b, hb⟩ : ∃ b, s[1] = b := ⟨_, rfl⟩
    have HE : Hid (o = decide (b.toNat = 58)) := by
      show _ = _
      rw [ho, ← eq58]
      rw [two_of s h2] at hd ⊢
      rw [hb] at hd ⊢
      exact nrm_yes _ _ hd.symm
    clear hd ho h2
    by_cases e1 : b.toNat = 58
    · have q2 : ((b.toNat : Int) == 58) = true := by simp; omega
      have HF : Hid (o = true) := HE.out.trans (decide_eq_true e1)
      clear e1
      go_enter Try.func15, Try.ntmps15
      go_wp2_with fail
      refine (refDrive_any _ _).mono ?_
      rintro e w2 ⟨rfl, rfl⟩
      rw [← HD.out]
      go_wp2
      go_ret
      exact ⟨ret_bool HF.out.symm, rfl⟩
    · have q2 : ((b.toNat : Int) == 58) = false := by simp; omega
      have HF : Hid (o = false) := HE.out.trans (decide_eq_false e1)
      clear e1
      go_enter Try.func15, Try.ntmps15
      go_wp2_with fail
      refine (refDrive_any _ _).mono ?_
      rintro e w2 ⟨rfl, rfl⟩
      rw [← HD.out]
      go_wp2
      go_ret
      exact ⟨ret_bool HF.out.symm, rfl⟩
end Go.Proofs.Ytpodicomfmkpcaa.PthB
