/- Paths with slashes: which are fine, plain. -/
import Derived.Test.YtleecmapaihhmaaDoorSlsP
import Derived.Test.YtleecmapaihhmaaDoorUtfD
set_option linter.unusedSimpArgs false
set_option linter.unusedVariables false
namespace Go.Proofs.YtleecmapaihhmaaDoor.PosQ
open Go.RowKit Go.Proofs.YtleecmapaihhmaaDoor.Base Go.Proofs.YtleecmapaihhmaaDoor.SlsP Go.Proofs.YtleecmapaihhmaaDoor.UtfR
/-- May a component stand there? The last one may be nothing. -/
def okOne (x : List UInt8) (last : Bool) : Bool := decide (x ≠ [46]) && decide (x ≠ [46, 46]) && (decide (x ≠ []) || last)
def okRow : List (List UInt8) → Bool
  | [] => true
  | x :: r => okOne x r.isEmpty && okRow r
def fine (L : List UInt8) : Bool := val L && decide (L.head? = some 47) && !L.contains 0 && okRow (spl 47 (L.drop 1))
theorem fine_iff (L : List UInt8) : fine L = true ↔ val L = true ∧ L.head? = some 47 ∧ L.contains 0 = false ∧ okRow (spl 47 (L.drop 1)) = true := by
  unfold fine
  simp only [Bool.and_eq_true, decide_eq_true_eq, Bool.not_eq_true', and_assoc]
theorem okRow_drop : ∀ (l : List (List UInt8)) (k : Nat) (h : k < l.length), okRow (l.drop k) = (okOne l[k] (decide (k + 1 = l.length)) && okRow (l.drop (k + 1))) := by
  intro l k h
  rw [List.drop_eq_getElem_cons h, okRow]
  congr 2
  rw [Bool.eq_iff_iff]
  simp only [List.isEmpty_iff, List.drop_eq_nil_iff, decide_eq_true_eq]
  omega
theorem okRow_mem : ∀ {l : List (List UInt8)}, okRow l = true → ∀ x ∈ l, x ≠ [46] ∧ x ≠ [46, 46]
  | [], _ => by simp
  | y :: r, h => by
    simp only [okRow, okOne, Bool.and_eq_true, Bool.or_eq_true, decide_eq_true_eq] at h
    intro x hx
    rcases List.mem_cons.1 hx with rfl | hx
    · exact h.1.1
    · exact okRow_mem h.2 x hx
end Go.Proofs.YtleecmapaihhmaaDoor.PosQ
