/- Paths, plain: a path that segments follow, byte by byte. -/
import Derived.Test.YtpodicomfmkpcaaPthI
import Derived.Lib.IndexAny
namespace Go.Proofs.Ytpodicomfmkpcaa.PthJ
open Go.RowKit Go.Proofs.Ytpodicomfmkpcaa.Base Go.Proofs.Ytpodicomfmkpcaa.Base2 Go.Proofs.Ytpodicomfmkpcaa.PthP Go.Proofs.Ytpodicomfmkpcaa.PthB Go.Proofs.Ytpodicomfmkpcaa.PthE Go.Proofs.Ytpodicomfmkpcaa.PthF Go.Proofs.Ytpodicomfmkpcaa.PthG

def stp1 (sp : Bool) (c : UInt8) : Bool := decide (c = 47) || (sp && decide (c = 92))
/-- How many bytes ahead of the first one that ends a segment. -/
def upto (sp : Bool) : List UInt8 → Nat
  | [] => 0
  | c :: L => if stp1 sp c = true then 0 else upto sp L + 1
theorem upto_le (sp : Bool) : ∀ L : List UInt8, upto sp L ≤ L.length
  | [] => Nat.le_refl _
  | c :: L => by
    have := upto_le sp L
    unfold upto
    split
    · omega
    · simp; omega
def chs (sp : Bool) : List UInt8 := if sp then [47, 92] else [47]
theorem chs_has (sp : Bool) (c : UInt8) : (chs sp).contains c = stp1 sp c := by
  rw [Bool.eq_iff_iff]
  cases sp <;> simp [chs, stp1]
theorem index_chs (sp : Bool) : ∀ L : List UInt8, Lib.indexAny L (chs sp) = if upto sp L < L.length then (upto sp L : Int) else -1
  | [] => by simp [Lib.indexAny]
  | c :: L => by
    have ih := index_chs sp L
    rw [Lib.indexAny, chs_has, ih, upto]
    cases h : stp1 sp c with
    | true => simp
    | false =>
      simp only [Bool.false_eq_true, if_false]
      by_cases h2 : upto sp L < L.length
      · have h3 : ((upto sp L : Int) == -1) = false := by rw [beq_eq_false_iff_ne]; omega
        have h4 : upto sp L + 1 < (c :: L).length := by simp; omega
        simp only [if_pos h2, h3, h4, Bool.false_eq_true, if_false, if_true]
        omega
      · have h4 : ¬ upto sp L + 1 < (c :: L).length := by simp; omega
        simp only [if_neg h2, if_neg h4]
        rfl
/-- The path l that the segments of M follow, of the first of which b was read. -/
def wb (file sp : Bool) : List ByteArray → List UInt8 → List UInt8 → List ByteArray
  | l, b, [] => stp file true l b
  | l, b, c :: M => if stp1 sp c = true then wb file sp (stp file false l b) [] M else wb file sp l (b ++ [c]) M
theorem wb_none (file sp : Bool) : ∀ (M : List UInt8) (l : List ByteArray) (b : List UInt8), ¬ upto sp M < M.length → wb file sp l b M = stp file true l (b ++ M)
  | [], l, b, _ => by rw [List.append_nil]; rfl
  | c :: M, l, b, h => by
    unfold upto at h
    cases hs : stp1 sp c with
    | true => rw [hs] at h; simp at h
    | false =>
      rw [hs, if_neg (by decide)] at h
      rw [wb, hs, if_neg (by decide), wb_none file sp M l (b ++ [c]) (by simp at h; omega), List.append_assoc]
      rfl
theorem wb_some (file sp : Bool) : ∀ (M : List UInt8) (l : List ByteArray) (b : List UInt8), upto sp M < M.length → wb file sp l b M = wb file sp (stp file false l (b ++ M.take (upto sp M))) [] (M.drop (upto sp M + 1))
  | [], l, b, h => by simp [upto] at h
  | c :: M, l, b, h => by
    unfold upto at h
    cases hs : stp1 sp c with
    | true =>
      rw [wb, hs, if_pos rfl, upto, hs, if_pos rfl]
      simp
    | false =>
      rw [hs, if_neg (by decide)] at h
      rw [wb, hs, if_neg (by decide), wb_some file sp M l (b ++ [c]) (by simp at h; omega), List.append_assoc, upto, hs, if_neg (by decide)]
      rfl
theorem length_stp (file last : Bool) (l : List ByteArray) (L : List UInt8) : (stp file last l L).length ≤ l.length + 1 := by
  have h : (sho file l).length ≤ l.length := by rw [length_sho]; split <;> omega
  unfold stp
  repeat' split
  all_goals simp
  all_goals omega
end Go.Proofs.Ytpodicomfmkpcaa.PthJ
