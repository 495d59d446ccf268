/- URLs: schemes and their ports; two texts that may be there. -/
import Derived.Test.YtleecmapaihhmaaDoorUrlP
set_option linter.unusedSimpArgs false
set_option linter.unusedVariables false
namespace Go.Proofs.YtleecmapaihhmaaDoor.UrlA
open Go.RowKit Go.Proofs.YtleecmapaihhmaaDoor.Base Go.Proofs.YtleecmapaihhmaaDoor.Base2 Go.Proofs.YtleecmapaihhmaaDoor.UrlP

def portOf (L : List UInt8) : Int := if L = [102, 116, 112] then 21 else if L = [104, 116, 116, 112] ∨ L = [119, 115] then 80 else if L = [104, 116, 116, 112, 115] ∨ L = [119, 115, 115] then 443 else -1
def special (L : List UInt8) : Bool := decide (L = [102, 105, 108, 101]) || decide (portOf L ≠ -1)
/-- The six of them, or none. -/
theorem sorts (L : List UInt8) : L = [102, 116, 112] ∨ L = [104, 116, 116, 112] ∨ L = [119, 115] ∨ L = [104, 116, 116, 112, 115] ∨ L = [119, 115, 115] ∨ L = [102, 105, 108, 101] ∨ (L ≠ [102, 116, 112] ∧ L ≠ [104, 116, 116, 112] ∧ L ≠ [119, 115] ∧ L ≠ [104, 116, 116, 112, 115] ∧ L ≠ [119, 115, 115] ∧ L ≠ [102, 105, 108, 101]) := by
  by_cases h1 : L = [102, 116, 112]
  · exact .inl h1
  by_cases h2 : L = [104, 116, 116, 112]
  · exact .inr (.inl h2)
  by_cases h3 : L = [119, 115]
  · exact .inr (.inr (.inl h3))
  by_cases h4 : L = [104, 116, 116, 112, 115]
  · exact .inr (.inr (.inr (.inl h4)))
  by_cases h5 : L = [119, 115, 115]
  · exact .inr (.inr (.inr (.inr (.inl h5))))
  by_cases h6 : L = [102, 105, 108, 101]
  · exact .inr (.inr (.inr (.inr (.inr (.inl h6)))))
  exact .inr (.inr (.inr (.inr (.inr (.inr ⟨h1, h2, h3, h4, h5, h6⟩)))))
theorem eq_of_list {s : ByteArray} {L : List UInt8} (h : s.data.toList = L) : s = ⟨L.toArray⟩ := by
  obtain ⟨d⟩ := s
  subst h
  rfl
theorem beq_of_ne {s : ByteArray} {L : List UInt8} (h : s.data.toList ≠ L) : (s.toList == L) = false := by
  rw [tl]; simpa using h
end Go.Proofs.YtleecmapaihhmaaDoor.UrlA
