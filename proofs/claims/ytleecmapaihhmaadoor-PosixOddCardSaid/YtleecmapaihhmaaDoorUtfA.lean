/- Contracts of utf.Letter, utf.Digit, utf.Hex, utf.lead and of the document's own Letter, Digit: each answers what the plain functions below say, for every byte; memory is left alone. -/
import Derived.Test.YtleecmapaihhmaaDoorMA
set_option linter.unusedSimpArgs false
set_option linter.unusedVariables false
namespace Go.Proofs.YtleecmapaihhmaaDoor.UtfA
open Go.RowKit Go.Proofs.YtleecmapaihhmaaDoor.Base

def letter (c : Int) : Bool := decide (65 ≤ c ∧ c ≤ 90 ∨ 97 ≤ c ∧ c ≤ 122)
def digit (c : Int) : Bool := decide (48 ≤ c ∧ c ≤ 57)
def hex (c : Int) : Int := if 48 ≤ c ∧ c ≤ 57 then c - 48 else if 97 ≤ c ∧ c ≤ 102 then c - 87 else if 65 ≤ c ∧ c ≤ 70 then c - 55 else -1

theorem digit_any (c : Int) (w : World) : Calls Tryd.prog 66 #[.int .u8 c] w fun e w' => e = .returned (.bool (digit c)) ∧ w = w' := by
  go_enter Tryd.func66, Tryd.ntmps66
  go_wp2
  all_goals
    go_ret
    exact ⟨ret_bool (by unfold digit; rw [Bool.eq_iff_iff]; simp; omega), rfl⟩
theorem hex_any (c : Int) (w : World) (h0 : 0 ≤ c) (h1 : c ≤ 255) : Calls Tryd.prog 57 #[.int .u8 c] w fun e w' => e = .returned (.int .i64 (hex c)) ∧ w = w' := by
  go_enter Tryd.func57, Tryd.ntmps57
  go_wp2
  all_goals
    go_ret
    exact ⟨ret_int (by unfold hex; (repeat' split) <;> omega), rfl⟩
end Go.Proofs.YtleecmapaihhmaaDoor.UtfA
