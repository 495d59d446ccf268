/- The walk of the law PathTells: it returns true, whatever it is called with. -/
import Derived.Test.YtpodicomfmkpcaaPthW
namespace Go.Proofs.Ytpodicomfmkpcaa.Laws
open Go.RowKit Go.Proofs.Ytpodicomfmkpcaa.Base Go.Proofs.Ytpodicomfmkpcaa.Base2 Go.Proofs.Ytpodicomfmkpcaa.PthP Go.Proofs.Ytpodicomfmkpcaa.PthA Go.Proofs.Ytpodicomfmkpcaa.PthB Go.Proofs.Ytpodicomfmkpcaa.PthC Go.Proofs.Ytpodicomfmkpcaa.PthD

set_option maxRecDepth 100000 in
set_option maxHeartbeats 4000000 in
theorem PathTells_any (s : ByteArray) (w : World) (hs : s.size ≤ maxLen) :
    Calls Try.prog 3 #[.string s] w fun e w' => e = .returned (.bool true) ∧ Below w.heap.size w w' := by
  obtain ⟨b1, hb1⟩ : ∃ b1, b1 = sgl s.data.toList := ⟨_, rfl⟩
  have Hb1 := hid hb1
  obtain ⟨b2, hb2⟩ : ∃ b2, b2 = dbl s.data.toList := ⟨_, rfl⟩
  have Hb2 := hid hb2
  obtain ⟨b3, hb3⟩ : ∃ b3, b3 = drv s.data.toList := ⟨_, rfl⟩
  have Hb3 := hid hb3
  obtain ⟨b4, hb4⟩ : ∃ b4, b4 = nrm s.data.toList := ⟨_, rfl⟩
  have Hb4 := hid hb4
  obtain ⟨b5, hb5⟩ : ∃ b5, b5 = bgn s.data.toList := ⟨_, rfl⟩
  have Hb5 := hid hb5
  clear hb1 hb2 hb3 hb4 hb5
  have q1 : (b1 == b1) = true := by simp
  have q2 : (b2 == b2) = true := by simp
  have q3 : (b3 == b3) = true := by simp
  have q4 : (b4 == b4) = true := by simp
  have q5 : (b5 == b5) = true := by simp
  go_enter Try.func3, Try.ntmps3
  go_wp2_with fail
  refine (PthW.awake_any _).mono ?_
  rintro e w2 ⟨rfl, hb2⟩
  by_cases h300 : s.size ≤ 300
  · go_wp2_with fail
    refine (single_any s _ (by unfold maxLen; omega)).mono ?_
    rintro e w3 ⟨rfl, hb3⟩
    replace hb3 := bel hb2 hb3
    rw [← Hb1.out]
    go_wp2_with fail
    refine (refSingle_any s _ (by omega)).mono ?_
    rintro e w4 ⟨rfl, hb4⟩
    replace hb4 := bel hb3 hb4
    rw [← Hb1.out]
    go_wp2_with fail
    refine (double_any s _ (by omega)).mono ?_
    rintro e w5 ⟨rfl, hb5⟩
    replace hb5 := bel hb4 hb5
    rw [← Hb2.out]
    go_wp2_with fail
    refine (refDouble_any s _ (by omega)).mono ?_
    rintro e w6 ⟨rfl, hb6⟩
    replace hb6 := bel hb5 hb6
    rw [← Hb2.out]
    go_wp2_with fail
    refine (drive_any s _).mono ?_
    rintro e wz ⟨rfl, hwz⟩
    subst hwz
    rw [← Hb3.out]
    go_wp2_with fail
    refine (refDrive_any s _).mono ?_
    rintro e wz ⟨rfl, hwz⟩
    subst hwz
    rw [← Hb3.out]
    go_wp2_with fail
    refine (normal_any s _).mono ?_
    rintro e wz ⟨rfl, hwz⟩
    subst hwz
    rw [← Hb4.out]
    go_wp2_with fail
    refine (refNormal_any s _).mono ?_
    rintro e wz ⟨rfl, hwz⟩
    subst hwz
    rw [← Hb4.out]
    go_wp2_with fail
    refine (begins_any s _ (by omega)).mono ?_
    rintro e wz ⟨rfl, hwz⟩
    subst hwz
    rw [← Hb5.out]
    go_wp2_with fail
    refine (refBegins_any s _ (by omega)).mono ?_
    rintro e wz ⟨rfl, hwz⟩
    subst hwz
    rw [← Hb5.out]
    go_wp2
    go_ret
    exact ⟨rfl, hb6⟩
  · go_wp2_with fail
    refine (PthW.awake_any _).mono ?_
    rintro e w3 ⟨rfl, hb3⟩
    go_wp2
    go_ret
    exact ⟨rfl, bel hb2 hb3⟩
end Go.Proofs.Ytpodicomfmkpcaa.Laws
