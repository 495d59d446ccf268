/- Paths: what segments and texts are, as the code tells it, and as the document does. -/
import Derived.Test.YtpodicomfmkpcaaPthP
import Derived.Test.YtpodicomfmkpcaaRefA
import Derived.Test.YtpodicomfmkpcaaBase2
namespace Go.Proofs.Ytpodicomfmkpcaa.PthA
open Go.RowKit Go.Proofs.Ytpodicomfmkpcaa.Base Go.Proofs.Ytpodicomfmkpcaa.Base2 Go.Proofs.Ytpodicomfmkpcaa.UtfL Go.Proofs.Ytpodicomfmkpcaa.UtfA Go.Proofs.Ytpodicomfmkpcaa.PthP

theorem tl (s : ByteArray) : s.toList = s.data.toList := by
  obtain ⟨d⟩ := s; rw [ByteArray.toList_mk]
theorem beq_list (s : ByteArray) (L : List UInt8) : (s.toList == L) = decide (s.data.toList = L) := by
  rw [tl, Bool.eq_iff_iff]; simp
theorem beq_strOf (M L : List UInt8) : ((strOf M).toList == L) = decide (M = L) := beq_list (strOf M) L
set_option maxHeartbeats 2000000 in
theorem single_any (s : ByteArray) (w : World) (hs : s.size ≤ maxLen) : Calls Try.prog 8 #[.string s] w fun e w' => e = .returned (.bool (sgl s.data.toList)) ∧ Below w.heap.size w w' := by
  obtain ⟨o, ho⟩ : ∃ o, o = sgl s.data.toList := ⟨_, rfl⟩
  rw [← ho]
  by_cases h1 : s.data.toList = [46]
  · have q1 : (s.toList == [46]) = true := by rw [beq_list]; exact decide_eq_true h1
    have HO : Hid (o = true) := by show _ = _; rw [ho]; unfold sgl; rw [decide_eq_true h1]; rfl
    clear h1 ho
    go_enter Try.func8, Try.ntmps8
    go_wp2
    go_ret
    exact ⟨ret_bool HO.out.symm, Below.refl _ _⟩
  · have q1 : (s.toList == [46]) = false := by rw [beq_list]; exact decide_eq_false h1
    obtain ⟨V, hV⟩ : ∃ V, V = strOf (lower s.data.toList) := ⟨_, rfl⟩
    have q2 : (V.toList == [37, 50, 101]) = o := by rw [hV, beq_strOf, ho]; unfold sgl; rw [decide_eq_false h1, Bool.false_or]
    have HV := hid hV
    have HQ := hid q2
    clear h1 ho hV q2
    go_enter Try.func8, Try.ntmps8
    go_wp2_with fail
    refine (UtfL.lower_any s _ hs).mono ?_
    rintro e w2 ⟨rfl, hb2⟩
    rw [← HV.out]
    go_wp2
    go_ret
    exact ⟨ret_bool HQ.out, hb2⟩
set_option maxHeartbeats 2000000 in
theorem refSingle_any (s : ByteArray) (w : World) (hs : s.size ≤ 1073741824) : Calls Try.prog 9 #[.string s] w fun e w' => e = .returned (.bool (sgl s.data.toList)) ∧ Below w.heap.size w w' := by
  obtain ⟨o, ho⟩ : ∃ o, o = sgl s.data.toList := ⟨_, rfl⟩
  rw [← ho]
  obtain ⟨V, hV⟩ : ∃ V, V = strOf (lower s.data.toList) := ⟨_, rfl⟩
  by_cases h1 : s.data.toList = [46]
  · have q1 : (V.toList == [46]) = true := by rw [hV, beq_strOf]; exact decide_eq_true ((lower_dot _).2 h1)
    have HO : Hid (o = true) := by show _ = _; rw [ho]; unfold sgl; rw [decide_eq_true h1]; rfl
    have HV := hid hV
    clear h1 ho hV
    go_enter Try.func9, Try.ntmps9
    go_wp2_with fail
    refine (RefA.lower_any s _ hs).mono ?_
    rintro e w2 ⟨rfl, hb2⟩
    rw [← HV.out]
    go_wp2
    go_ret
    exact ⟨ret_bool HO.out.symm, hb2⟩
  · have q1 : (V.toList == [46]) = false := by rw [hV, beq_strOf]; exact decide_eq_false (fun h => h1 ((lower_dot _).1 h))
    have q2 : (V.toList == [37, 50, 101]) = o := by rw [hV, beq_strOf, ho]; unfold sgl; rw [decide_eq_false h1, Bool.false_or]
    have HV := hid hV
    have HQ := hid q2
    clear h1 ho hV q2
    go_enter Try.func9, Try.ntmps9
    go_wp2_with fail
    refine (RefA.lower_any s _ hs).mono ?_
    rintro e w2 ⟨rfl, hb2⟩
    rw [← HV.out]
    go_wp2
    go_ret
    exact ⟨ret_bool HQ.out, hb2⟩
end Go.Proofs.Ytpodicomfmkpcaa.PthA
