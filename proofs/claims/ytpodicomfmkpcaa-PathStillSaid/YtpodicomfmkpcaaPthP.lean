/- Paths, plain: what segments and texts are. -/
import Derived.Test.YtpodicomfmkpcaaUtfL
import Derived.Test.YtpodicomfmkpcaaUtfA
namespace Go.Proofs.Ytpodicomfmkpcaa.PthP
open Go.RowKit Go.Proofs.Ytpodicomfmkpcaa.Base Go.Proofs.Ytpodicomfmkpcaa.UtfL Go.Proofs.Ytpodicomfmkpcaa.UtfA

def sgl (L : List UInt8) : Bool := decide (L = [46]) || decide (lower L = [37, 50, 101])
def dbl (L : List UInt8) : Bool := decide (lower L = [46, 46]) || decide (lower L = [46, 37, 50, 101]) || decide (lower L = [37, 50, 101, 46]) || decide (lower L = [37, 50, 101, 37, 50, 101])
def drv (L : List UInt8) : Bool := match L with
  | [a, b] => letter (a.toNat : Int) && (decide (b = 58) || decide (b = 124))
  | _ => false
def nrm (L : List UInt8) : Bool := match L with
  | [a, b] => letter (a.toNat : Int) && decide (b = 58)
  | _ => false
def bgn (L : List UInt8) : Bool := match L with
  | [a, b] => drv [a, b]
  | a :: b :: c :: _ => drv [a, b] && (decide (c = 47) || decide (c = 92) || decide (c = 63) || decide (c = 35))
  | _ => false
theorem low46 (c : UInt8) : low c = 46 ↔ c = 46 := by
  have H : ∀ n : Fin 256, low (UInt8.ofNat n.val) = 46 ↔ UInt8.ofNat n.val = 46 := by decide +kernel
  have := H ⟨c.toNat, c.toNat_lt⟩
  simpa using this
theorem lower_cons (c : UInt8) (L : List UInt8) : lower (c :: L) = low c :: lower L := rfl
theorem lower_append (a b : List UInt8) : lower (a ++ b) = lower a ++ lower b := by simp [lower]
theorem length_lower (L : List UInt8) : (lower L).length = L.length := by simp [lower]
theorem lower_dot (L : List UInt8) : lower L = [46] ↔ L = [46] := by
  constructor
  · intro h
    match L, h with
    | [c], h => rw [lower_cons] at h; injection h with h _; rw [(low46 c).1 h]
    | _ :: _ :: _, h => simp [lower] at h
    | [], h => simp [lower] at h
  · rintro rfl; rfl
/-- What begins with a point is two if what follows is one. -/
theorem dbl_dot (L : List UInt8) : dbl (46 :: L) = sgl L := by
  have e : low 46 = 46 := rfl
  unfold dbl sgl
  rw [lower_cons, e, Bool.eq_iff_iff]
  simp [← lower_dot L]
/-- What doesn't is, if three letters are one, and the others. -/
theorem dbl_other (c : UInt8) (L : List UInt8) (hc : c ≠ 46) : dbl (c :: L) = (decide (3 < (c :: L).length) && (sgl ((c :: L).take 3) && sgl ((c :: L).drop 3))) := by
  have hl : low c ≠ 46 := fun h => hc ((low46 c).1 h)
  match L with
  | [] => simp [dbl, lower, hl]
  | [_] => simp [dbl, lower, hl]
  | [_, _] => simp [dbl, lower, hl]
  | a :: b :: d :: L =>
    unfold dbl sgl
    simp only [List.take_succ_cons, List.take_zero, List.drop_succ_cons, List.drop_zero, lower_cons, List.length_cons]
    rw [Bool.eq_iff_iff]
    simp [hl, ← lower_dot (d :: L), lower_cons, show lower ([] : List UInt8) = [] from rfl]
    constructor
    · rintro (⟨h1, h2, h3, h4, h5⟩ | ⟨h1, h2, h3, h4⟩)
      · exact ⟨⟨h1, h2, h3⟩, .inl ⟨h4, h5⟩⟩
      · exact ⟨⟨h1, h2, h3⟩, .inr h4⟩
    · rintro ⟨⟨h1, h2, h3⟩, ⟨h4, h5⟩ | h4⟩
      · exact .inl ⟨h1, h2, h3, h4, h5⟩
      · exact .inr ⟨h1, h2, h3, h4⟩
theorem dbl_nil : dbl [] = false := rfl
end Go.Proofs.Ytpodicomfmkpcaa.PthP
