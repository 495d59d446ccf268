/- utf.Encode at any characters (up to a number of them that the law's own bound keeps): their bytes, one behind the other. -/
import Derived.Test.YtleecmapaihhmaaDoorMA
import Derived.Lib.RuneBytes
set_option linter.unusedSimpArgs false
set_option linter.unusedVariables false
namespace Go.Proofs.YtleecmapaihhmaaDoor.UtfE
open Go.RowKit Go.Proofs.YtleecmapaihhmaaDoor.Base

def enc (l : List Int) : List UInt8 := l.flatMap Lib.encodeRune
theorem cells_rune (r : Int) : Lib.runeCells r = bcells (Lib.encodeRune r) := (Lib.byteCells_encodeRune r).symm
theorem enc_snoc (l : List Int) (r : Int) : enc (l ++ [r]) = enc l ++ Lib.encodeRune r := by simp [enc]
theorem rune_len (r : Int) : 1 ≤ (Lib.encodeRune r).length ∧ (Lib.encodeRune r).length ≤ 4 := by
  have := Lib.runeCells_le r
  rw [Lib.runeCells_length] at this
  exact this
theorem enc_len (l : List Int) : (enc l).length ≤ 4 * l.length ∧ l.length ≤ (enc l).length := by
  induction l with
  | nil => simp [enc]
  | cons r l ih =>
    have h := rune_len r
    have e : enc (r :: l) = Lib.encodeRune r ++ enc l := by simp [enc]
    rw [e, List.length_append, List.length_cons]
    omega
def Rune (r : Int) : Prop := -2147483648 ≤ r ∧ r ≤ 2147483647
end Go.Proofs.YtleecmapaihhmaaDoor.UtfE
