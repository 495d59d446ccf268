/- Paths: does a text begin with a drive? -/
import Derived.Test.YtpodicomfmkpcaaPthC
namespace Go.Proofs.Ytpodicomfmkpcaa.PthD
open Go.RowKit Go.Proofs.Ytpodicomfmkpcaa.Base Go.Proofs.Ytpodicomfmkpcaa.Base2 Go.Proofs.Ytpodicomfmkpcaa.UtfL Go.Proofs.Ytpodicomfmkpcaa.UtfA Go.Proofs.Ytpodicomfmkpcaa.PthP Go.Proofs.Ytpodicomfmkpcaa.PthA Go.Proofs.Ytpodicomfmkpcaa.PthB

def inq (c : UInt8) : Bool := decide (c = 47) || decide (c = 92) || decide (c = 63) || decide (c = 35)
theorem inq_nat (c : UInt8) : inq c = decide (c.toNat = 47 ∨ c.toNat = 92 ∨ c.toNat = 63 ∨ c.toNat = 35) := by
  have H : ∀ n : Fin 256, inq (UInt8.ofNat n.val) = decide ((UInt8.ofNat n.val).toNat = 47 ∨ (UInt8.ofNat n.val).toNat = 92 ∨ (UInt8.ofNat n.val).toNat = 63 ∨ (UInt8.ofNat n.val).toNat = 35) := by decide +kernel
  have := H ⟨c.toNat, c.toNat_lt⟩
  simpa using this
theorem inq_index (c : UInt8) : 0 ≤ Lib.indexByte [47, 92, 63, 35] (c.toNat : Int).toNat.toUInt8 ↔ inq c = true := by
  have H : ∀ n : Fin 256, 0 ≤ Lib.indexByte [47, 92, 63, 35] ((n.val : Nat) : Int).toNat.toUInt8 ↔ inq (UInt8.ofNat n.val) = true := by decide +kernel
  have := H ⟨c.toNat, c.toNat_lt⟩
  simpa using this
theorem bgn_short (L : List UInt8) (h : L.length < 2) : bgn L = false := by
  match L, h with
  | [], _ => rfl
  | [_], _ => rfl
theorem bgn_two (L : List UInt8) (h : L.length = 2) : bgn L = drv (L.take 2) := by
  match L, h with
  | [_, _], _ => rfl
theorem bgn_list (a b c : UInt8) (t : List UInt8) : bgn (a :: b :: c :: t) = (drv [a, b] && inq c) := rfl
theorem bgn_more (s : ByteArray) (h : 2 < s.size) : bgn s.data.toList = (drv (s.data.toList.take 2) && inq (s[2])) := by
  have hl : s.data.toList.length = s.size := Array.length_toList
  have h2 : s.data.toList[2]'(by rw [hl]; exact h) = s[2] := rfl
  rw [← h2]
  generalize s.data.toList = L at hl
  match L, hl with
  | [], hl => simp at hl; omega
  | [_], hl => simp at hl; omega
  | [_, _], hl => simp at hl; omega
  | a :: b :: c :: t, _ => rfl
set_option maxHeartbeats 4000000 in
theorem begins_any (s : ByteArray) (w : World) (hs : s.size ≤ 1073741824) : Calls Try.prog 16 #[.string s] w fun e w' => e = .returned (.bool (bgn s.data.toList)) ∧ w = w' := by
  have hl : s.data.toList.length = s.size := Array.length_toList
  obtain ⟨o, ho⟩ : ∃ o, o = bgn s.data.toList := ⟨_, rfl⟩
  rw [← ho]
  by_cases h2 : s.size < 2
  · have HE : Hid (o = false) := by show _ = _; rw [ho]; exact bgn_short _ (by rw [hl]; exact h2)
    have q1 : (s.size : Int) < 2 := by omega
    clear ho hl h2
    go_enter Try.func16, Try.ntmps16
    go_wp2
    go_ret
    exact ⟨ret_bool HE.out.symm, rfl⟩
  · have q1 : ¬ (s.size : Int) < 2 := by omega
    have q2 : 2 ≤ s.size := by omega
    obtain ⟨X, hX⟩ : ∃ X, X = s.extract 0 2 := ⟨_, rfl⟩
    have hx : s.extract 0 2 = X := hX.symm
    have hXd : X.data.toList = s.data.toList.take 2 := by rw [hX, Regs.ext_take]; rfl
    obtain ⟨d, hd⟩ : ∃ d, d = drv X.data.toList := ⟨_, rfl⟩
    have HD := hid hd
    by_cases h22 : s.size = 2
    · have HE : Hid (o = d) := by show _ = _; rw [ho, hd, hXd]; exact bgn_two _ (by rw [hl]; exact h22)
      have q3 : ((s.size : Int) == 2) = true := by simp; omega
      clear ho hl h2 hX hXd hd h22
      cases d
      all_goals
        go_enter Try.func16, Try.ntmps16
        go_wp2_with fail
        refine (drive_any _ _).mono ?_
        rintro e w2 ⟨rfl, rfl⟩
        rw [← HD.out]
        go_wp2
        go_ret
        exact ⟨ret_bool HE.out.symm, rfl⟩
    · have q3 : ((s.size : Int) == 2) = false := by simp; omega
      have h3 : 2 < s.size := by omega
      obtain ⟨c, hc⟩ : ∃ c, s[2] = c := ⟨_, rfl⟩
      obtain ⟨i, hi⟩ : ∃ i, i = inq c := ⟨_, rfl⟩
      have HE : Hid (o = (d && i)) := by show _ = _; rw [ho, hd, hXd, hi, ← hc]; exact bgn_more s h3
      have HI := hid hi
      clear ho hl h2 hX hXd hd h22
      cases d with
      | false =>
        have HF : Hid (o = false) := by show _ = _; rw [HE.out, Bool.false_and]
        clear hi
        go_enter Try.func16, Try.ntmps16
        go_wp2_with fail
        refine (drive_any _ _).mono ?_
        rintro e w2 ⟨rfl, rfl⟩
        rw [← HD.out]
        go_wp2
        go_ret
        exact ⟨ret_bool HF.out.symm, rfl⟩
      | true =>
        have HF : Hid (o = i) := by show _ = _; rw [HE.out, Bool.true_and]
        obtain ⟨z, hz⟩ : ∃ z, z = Lib.indexByte [47, 92, 63, 35] (c.toNat : Int).toNat.toUInt8 := ⟨_, rfl⟩
        have hzi : (0 ≤ z) ↔ i = true := by rw [hz, hi]; exact inq_index c
        have HZ := hid hz
        clear hi hz
        cases i with
        | true =>
          have q4 := hzi.2 rfl
          clear hzi
          go_enter Try.func16, Try.ntmps16
          go_wp2_with fail
          refine (drive_any _ _).mono ?_
          rintro e w2 ⟨rfl, rfl⟩
          rw [← HD.out]
          go_wp2_with fail
          refine (Try.strings_IndexByte ⟨#[47, 92, 63, 35]⟩ _ _).mono ?_
          rintro e w3 ⟨rfl, rfl⟩
          rw [show (⟨#[47, 92, 63, 35]⟩ : ByteArray).data.toList = [47, 92, 63, 35] from rfl, ← HZ.out]
          go_wp2
          go_ret
          exact ⟨ret_bool HF.out.symm, rfl⟩
        | false =>
          have q4 : z < 0 := by
            rcases Int.lt_or_le z 0 with h | h
            · exact h
            · exact absurd (hzi.1 h) (by decide)
          have q5 : ¬ 0 ≤ z := by omega
          clear hzi
          go_enter Try.func16, Try.ntmps16
          go_wp2_with fail
          refine (drive_any _ _).mono ?_
          rintro e w2 ⟨rfl, rfl⟩
          rw [← HD.out]
          go_wp2_with fail
          refine (Try.strings_IndexByte ⟨#[47, 92, 63, 35]⟩ _ _).mono ?_
          rintro e w3 ⟨rfl, rfl⟩
          rw [show (⟨#[47, 92, 63, 35]⟩ : ByteArray).data.toList = [47, 92, 63, 35] from rfl, ← HZ.out]
          go_wp2
          go_ret
          exact ⟨ret_bool ((decide_eq_false (by omega)).trans HF.out.symm), rfl⟩
set_option maxHeartbeats 4000000 in
theorem refBegins_any (s : ByteArray) (w : World) (hs : s.size ≤ 1073741824) : Calls Try.prog 17 #[.string s] w fun e w' => e = .returned (.bool (bgn s.data.toList)) ∧ w = w' := by
  have hl : s.data.toList.length = s.size := Array.length_toList
  obtain ⟨o, ho⟩ : ∃ o, o = bgn s.data.toList := ⟨_, rfl⟩
  rw [← ho]
  by_cases h2 : s.size < 2
  · have HE : Hid (o = false) := by show _ = _; rw [ho]; exact bgn_short _ (by rw [hl]; exact h2)
    have q1 : (s.size : Int) < 2 := by omega
    clear ho hl h2
    go_enter Try.func17, Try.ntmps17
    go_wp2
    go_ret
    exact ⟨ret_bool HE.out.symm, rfl⟩
  · have q1 : ¬ (s.size : Int) < 2 := by omega
    have q2 : 2 ≤ s.size := by omega
    obtain ⟨X, hX⟩ : ∃ X, X = s.extract 0 2 := ⟨_, rfl⟩
    have hx : s.extract 0 2 = X := hX.symm
    have hXd : X.data.toList = s.data.toList.take 2 := by rw [hX, Regs.ext_take]; rfl
    obtain ⟨d, hd⟩ : ∃ d, d = drv X.data.toList := ⟨_, rfl⟩
    have HD := hid hd
    by_cases h22 : s.size = 2
    · have HE : Hid (o = d) := by show _ = _; rw [ho, hd, hXd]; exact bgn_two _ (by rw [hl]; exact h22)
      have q3 : ((s.size : Int) == 2) = true := by simp; omega
      clear ho hl h2 hX hXd hd h22
      cases d
      all_goals
        go_enter Try.func17, Try.ntmps17
        go_wp2_with fail
        refine (refDrive_any _ _).mono ?_
        rintro e w2 ⟨rfl, rfl⟩
        rw [← HD.out]
        go_wp2
        go_ret
        exact ⟨ret_bool HE.out.symm, rfl⟩
    · have q3 : ((s.size : Int) == 2) = false := by simp; omega
      have h3 : 2 < s.size := by omega
      obtain ⟨c, hc⟩ : ∃ c, s[2] = c := ⟨_, rfl⟩
      obtain ⟨i, hi⟩ : ∃ i, i = inq c := ⟨_, rfl⟩
      have HE : Hid (o = (d && i)) := by show _ = _; rw [ho, hd, hXd, hi, ← hc]; exact bgn_more s h3
      have HI := hid hi
      clear ho hl h2 hX hXd hd h22
      cases d with
      | false =>
        have HF : Hid (o = false) := by show _ = _; rw [HE.out, Bool.false_and]
        clear hi
        go_enter Try.func17, Try.ntmps17
        go_wp2_with fail
        refine (refDrive_any _ _).mono ?_
        rintro e w2 ⟨rfl, rfl⟩
        rw [← HD.out]
        go_wp2
        go_ret
        exact ⟨ret_bool HF.out.symm, rfl⟩
      | true =>
        have HF : Hid (o = i) := by show _ = _; rw [HE.out, Bool.true_and]
        have hcase : c.toNat = 47 ∨ c.toNat = 92 ∨ c.toNat = 63 ∨ c.toNat = 35 ∨ (c.toNat ≠ 47 ∧ c.toNat ≠ 92 ∧ c.toNat ≠ 63 ∧ c.toNat ≠ 35) := by omega
        have hin := inq_nat c
        rw [← hi] at hin
        clear hi HI
        rcases hcase with h | h | h | h | ⟨n1, n2, n3, n4⟩
        · have k0 : ((c.toNat : Int) == 47) = true := by simp; omega
          have HG : Hid (o = true) := by show _ = _; rw [HF.out, hin]; simp; omega
          clear hin h
          go_enter Try.func17, Try.ntmps17
          go_wp2_with fail
          refine (refDrive_any _ _).mono ?_
          rintro e w2 ⟨rfl, rfl⟩
          rw [← HD.out]
          go_wp2
          go_ret
          exact ⟨ret_bool HG.out.symm, rfl⟩
        · have k0 : ((c.toNat : Int) == 47) = false := by simp; omega
          have k1 : ((c.toNat : Int) == 92) = true := by simp; omega
          have HG : Hid (o = true) := by show _ = _; rw [HF.out, hin]; simp; omega
          clear hin h
          go_enter Try.func17, Try.ntmps17
          go_wp2_with fail
          refine (refDrive_any _ _).mono ?_
          rintro e w2 ⟨rfl, rfl⟩
          rw [← HD.out]
          go_wp2
          go_ret
          exact ⟨ret_bool HG.out.symm, rfl⟩
        · have k0 : ((c.toNat : Int) == 47) = false := by simp; omega
          have k1 : ((c.toNat : Int) == 92) = false := by simp; omega
          have k2 : ((c.toNat : Int) == 63) = true := by simp; omega
          have HG : Hid (o = true) := by show _ = _; rw [HF.out, hin]; simp; omega
          clear hin h
          go_enter Try.func17, Try.ntmps17
          go_wp2_with fail
          refine (refDrive_any _ _).mono ?_
          rintro e w2 ⟨rfl, rfl⟩
          rw [← HD.out]
          go_wp2
          go_ret
          exact ⟨ret_bool HG.out.symm, rfl⟩
        · have k0 : ((c.toNat : Int) == 47) = false := by simp; omega
          have k1 : ((c.toNat : Int) == 92) = false := by simp; omega
          have k2 : ((c.toNat : Int) == 63) = false := by simp; omega
          have k3 : ((c.toNat : Int) == 35) = true := by simp; omega
          have HG : Hid (o = true) := by show _ = _; rw [HF.out, hin]; simp; omega
          clear hin h
          go_enter Try.func17, Try.ntmps17
          go_wp2_with fail
          refine (refDrive_any _ _).mono ?_
          rintro e w2 ⟨rfl, rfl⟩
          rw [← HD.out]
          go_wp2
          go_ret
          exact ⟨ret_bool HG.out.symm, rfl⟩
        · have k0 : ((c.toNat : Int) == 47) = false := by simp; omega
          have k1 : ((c.toNat : Int) == 92) = false := by simp; omega
          have k2 : ((c.toNat : Int) == 63) = false := by simp; omega
          have k3 : ((c.toNat : Int) == 35) = false := by simp; omega
          have HG : Hid (o = false) := by show _ = _; rw [HF.out, hin]; simp; omega
          clear hin n1 n2 n3 n4
          go_enter Try.func17, Try.ntmps17
          go_wp2_with fail
          refine (refDrive_any _ _).mono ?_
          rintro e w2 ⟨rfl, rfl⟩
          rw [← HD.out]
          go_wp2
          go_ret
          exact ⟨ret_bool HG.out.symm, rfl⟩
end Go.Proofs.Ytpodicomfmkpcaa.PthD
