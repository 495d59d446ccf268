/- The walk of the law UrlSchemes: it returns true, whatever it is called with. -/
import Derived.Test.YtofjngfeclmneaaDoorUrlW
namespace Go.Proofs.YtofjngfeclmneaaDoor.Laws
open Go.RowKit Go.Proofs.YtofjngfeclmneaaDoor.Base Go.Proofs.YtofjngfeclmneaaDoor.Base2 Go.Proofs.YtofjngfeclmneaaDoor.UrlP Go.Proofs.YtofjngfeclmneaaDoor.UrlA Go.Proofs.YtofjngfeclmneaaDoor.UrlC Go.Proofs.YtofjngfeclmneaaDoor.Regs

set_option maxRecDepth 100000 in
set_option maxHeartbeats 4000000 in
theorem UrlSchemes_any (s : ByteArray) (w : World) (hs : s.size ≤ 140737488351232) (hT : Tab.Pow w) :
    Calls Tryd.prog 4 #[.string s] w fun e w' => e = .returned (.bool true) ∧ Below w.heap.size w w' := by
  have HT := hid hT
  clear hT
  obtain ⟨B, hB⟩ : ∃ B, B = special s.data.toList := ⟨_, rfl⟩
  obtain ⟨p, hp⟩ : ∃ p, p = portOf s.data.toList := ⟨_, rfl⟩
  have HB := hid hB
  have HP := hid hp
  clear hB hp
  go_enter Tryd.func4, Tryd.ntmps4
  go_wp2_with fail
  refine (UrlW.awake_any _ HT.out).mono ?_
  rintro e w2 ⟨rfl, hb2⟩
  by_cases h200 : s.size ≤ 200
  · go_wp2_with fail
    refine (ref_default _ _).mono ?_
    rintro e w3 ⟨rfl, hw⟩
    subst hw
    rw [← HB.out, ← HP.out]
    go_wp2_with fail
    refine (special_any _ _).mono ?_
    rintro e w4 ⟨rfl, hw⟩
    subst hw
    rw [← HB.out]
    have q1 : (B == B) = true := by simp
    have q2 : (p == p) = true := by simp
    go_wp2_with fail
    refine (default_any _ _).mono ?_
    rintro e w5 ⟨rfl, hw⟩
    subst hw
    rw [← HP.out]
    go_wp2
    go_ret
    exact ⟨rfl, hb2⟩
  · go_wp2_with fail
    refine (UrlW.awake_any _ (HT.out.below hb2)).mono ?_
    rintro e w3 ⟨rfl, hb3⟩
    go_wp2
    go_ret
    exact ⟨rfl, bel hb2 hb3⟩
end Go.Proofs.YtofjngfeclmneaaDoor.Laws
