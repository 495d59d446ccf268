/- Contract of utf.Lower and of the document's own Lower: a to z for A to Z, byte by byte, for every string; what was there stays. -/
import Derived.Test.YtleecmapaihhmaaDoorMA
set_option linter.unusedSimpArgs false
set_option linter.unusedVariables false
namespace Go.Proofs.YtleecmapaihhmaaDoor.UtfL
open Go.RowKit Go.Proofs.YtleecmapaihhmaaDoor.Base

def low (c : UInt8) : UInt8 := if 65 ≤ c.toNat ∧ c.toNat ≤ 90 then c + 32 else c
def lower (l : List UInt8) : List UInt8 := l.map low
def lowTo (l : List UInt8) (k : Nat) : List UInt8 := (l.take k).map low ++ l.drop k
theorem length_lowTo (l : List UInt8) (k : Nat) : (lowTo l k).length = l.length := by simp [lowTo]; omega
theorem lowTo_get (l : List UInt8) (k : Nat) (h : k < l.length) : (lowTo l k)[k]'(by rw [length_lowTo]; exact h) = l[k] := by
  have : k ≤ l.length := by omega
  simp [lowTo, List.getElem_append, this, Nat.min_eq_left this]
theorem lowTo_succ (l : List UInt8) (k : Nat) (h : k < l.length) : lowTo l (k + 1) = (lowTo l k).set k (low l[k]) := by
  unfold lowTo
  apply List.ext_getElem
  · simp; omega
  · intro i h1 h2
    simp only [List.getElem_append, List.getElem_set, List.length_map, List.length_take, List.getElem_map, List.getElem_take, List.getElem_drop]
    by_cases a : i < k
    · rw [dif_pos (by omega), if_neg (by omega), dif_pos (by omega)]
    · by_cases b : i = k
      · subst b
        rw [dif_pos (by omega), if_pos rfl]
      · rw [dif_neg (by omega), if_neg (by omega), dif_neg (by omega)]
        congr 1
        omega
theorem lowTo_all (l : List UInt8) : lowTo l l.length = lower l := by simp [lowTo, lower]
theorem lowTo_zero (l : List UInt8) : lowTo l 0 = l := by simp [lowTo]
theorem low_yes (c : UInt8) (h1 : 65 ≤ (c.toNat : Int)) (h2 : (c.toNat : Int) ≤ 90) : ((low c).toNat : Int) = (c.toNat : Int) + 32 := by
  unfold low; rw [if_pos (by omega)]; simp [UInt8.toNat_add]; omega
theorem low_no (c : UInt8) (h : ¬ (65 ≤ (c.toNat : Int) ∧ (c.toNat : Int) ≤ 90)) : low c = c := by
  unfold low; rw [if_neg (by omega)]
theorem set_self {l : List UInt8} {k : Nat} (h : k < l.length) (c : UInt8) (e : l[k] = c) : l.set k c = l := by subst e; simp

end Go.Proofs.YtleecmapaihhmaaDoor.UtfL
