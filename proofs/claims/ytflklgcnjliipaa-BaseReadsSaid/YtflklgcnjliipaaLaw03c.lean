/- The walk of the law BaseReads: it returns true, whatever it is called with. -/
import Derived.Test.YtflklgcnjliipaaB64W
import Derived.Test.YtflklgcnjliipaaB64F
namespace Go.Proofs.Ytflklgcnjliipaa.Laws
open Go.RowKit Go.Proofs.Ytflklgcnjliipaa.Base Go.Proofs.Ytflklgcnjliipaa.Base2 Go.Proofs.Ytflklgcnjliipaa.B64D Go.Proofs.Ytflklgcnjliipaa.Regs

set_option linter.unusedSimpArgs false in
set_option maxHeartbeats 4000000 in
set_option maxRecDepth 100000 in
theorem BaseReads_any (s : ByteArray) (w : World) (_hs : s.size ≤ maxLen) :
    Calls Try.prog 4 #[.string s] w fun e w' => e = .returned (.bool true) ∧ Below w.heap.size w w' := by
  by_cases h1 : s.size ≤ 400
  · have p1 : ¬ (400 : Int) < (s.size : Int) := by omega
    obtain ⟨L, hL⟩ : ∃ L, s.data.toList = L := ⟨_, rfl⟩
    obtain ⟨D, hD⟩ : ∃ D, dB L = D := ⟨_, rfl⟩
    obtain ⟨o, ho⟩ : ∃ o, dOk L = o := ⟨_, rfl⟩
    have hoD : o = true ∨ o = false ∧ D = [] := by
      cases o
      · refine Or.inr ⟨rfl, ?_⟩
        rw [← hD]
        unfold dB
        rw [ho]
        rfl
      · exact Or.inl rfl
    have HLL := hid hL
    have HD := hid hD
    have HO := hid ho
    clear hL hD ho
    have hee : ((strOf D).toList == (strOf D).toList) = true := by simp
    rcases hoD with rfl | ⟨rfl, rfl⟩
    all_goals
      go_enter Try.func4, Try.ntmps4
      go_wp2_with fail
      refine (B64W.awake_any _).mono ?_
      rintro e w1 ⟨rfl, hb1⟩
      go_wp2_with fail
      refine (decode_any s _ (by omega)).mono ?_
      rintro e w2 ⟨v, rfl, hown, hb2⟩
      rw [HLL.out, HD.out] at hown
      rw [HLL.out, HO.out]
      obtain ⟨A2, c2, rfl, hc2, hm2, hr2⟩ := owns_form hown
      have HR2 := hid hr2
      clear hown hr2
      go_wp2_with fail
      refine (B64F.ref_decode s _ (by omega)).mono ?_
      rintro e w3 ⟨A3, c3, rfl, hc3, hm3, hr3, hb3⟩
      rw [HLL.out, HD.out] at hr3
      rw [HLL.out, HD.out, HO.out]
      have hs1 := run_string_of 22 9 5 Try.underlying22 Try.underlying5 Try.underlying9 _ c2 (HR2.out.below hb3)
      have hs2 := run_string_of 22 9 5 Try.underlying22 Try.underlying5 Try.underlying9 _ c3 hr3
      clear hr3
      try simp only [List.length_nil] at hs1 hs2
      go_wp2
      go_ret
      exact ⟨rfl, bel (bel hb1 hb2) hb3⟩
  · have p1 : (400 : Int) < (s.size : Int) := by omega
    go_enter Try.func4, Try.ntmps4
    go_wp2_with fail
    refine (B64W.awake_any _).mono ?_
    rintro e w1 ⟨rfl, hb1⟩
    go_wp2_with fail
    refine (B64W.awake_any _).mono ?_
    rintro e w2 ⟨rfl, hb2⟩
    go_wp2_with fail
    go_ret
    exact ⟨rfl, bel hb1 hb2⟩
end Go.Proofs.Ytflklgcnjliipaa.Laws
