/- Texts that belong together: tC. -/
import Derived.Test.YtcfgioklgmlclaaGreatDoorMA
import Derived.Lib.IndexMore
set_option linter.unusedSimpArgs false
set_option linter.unusedVariables false
set_option maxRecDepth 100000
set_option maxHeartbeats 64000000
namespace Go.Proofs.YtcfgioklgmlclaaGreatDoor.tC
open Go.RowKit Base eX nO
def dO : List UInt8 → List (List UInt8)
 | [] => [[]]
 | c :: L => if c = 58 then [] :: dO L else match dO L with
  | [] => [[c]]
  | x :: r => (c :: x) :: r
theorem jH : ∀ L : List UInt8, dO L ≠ []
 | [] => by simp [dO]
 | c :: L => by
  unfold dO
  split
  ·simp
  ·split <;> simp
theorem eP (L : List UInt8) : dO (58 :: L) = [] :: dO L := by rw [dO, if_pos rfl]
theorem iO {c : UInt8} (h : c ≠ 58) (L : List UInt8) : ∃ x r, dO L = x :: r ∧ dO (c :: L) = (c :: x) :: r := by
 cases e : dO L with
 | nil => exact absurd e (jH L)
 | cons x r => exact ⟨x, r, rfl, by rw [dO, if_neg h, e]⟩
theorem yL (L : List UInt8) : (dO L).length ≤ L.length + 1 := by
 induction L with
 | nil => simp [dO]
 | cons c L ih =>
  by_cases h : c = 58
  ·subst h; rw [eP]; simp; omega
  ·obtain ⟨x, r, e, e2⟩ := iO h L
   rw [e] at ih
   rw [e2]
   simp at ih ⊢
   omega
theorem zK : ∀ (L : List UInt8), ∀ x ∈ dO L, x.length ≤ L.length
 | [], x, h => by simp [dO] at h; subst h; simp
 | c :: L, x, h => by
  by_cases hc : c = 58
  ·subst hc
   rw [eP] at h
   rcases List.mem_cons.1 h with rfl | h
   ·simp
   ·have := zK L x h; simp; omega
  ·obtain ⟨y, r, e, e2⟩ := iO hc L
   rw [e2] at h
   rcases List.mem_cons.1 h with rfl | h
   ·have := zK L y (by rw [e]; simp); simp; omega
   ·have := zK L x (by rw [e]; simp [h]); simp; omega
def piece (p : List UInt8) : Option Nat := if 1 ≤ p.length ∧ p.length ≤ 4 ∧ gW 16 p = true then some (val 16 p) else none
def small (p : List UInt8) : Option Nat := if 1 ≤ p.length ∧ p.length ≤ 3 ∧ ¬ (1 < p.length ∧ p.head? = some 48) ∧ gW 10 p = true ∧ val 10 p ≤ 255 then some (val 10 p) else none
def smalls : List (List UInt8) → Option (List Nat)
 | [] => some []
 | p :: r => match small p, smalls r with
  | some n, some l => some (n :: l)
  | _, _ => none
def two : List Nat → Option (List Nat)
 | [a, b, c, d] => some [a * 256 + b, c * 256 + d]
 | _ => none
def nG (p : List UInt8) : Option (List Nat) := (smalls (dN p)).bind two
def lD (e : Bool) : List (List UInt8) → Option (List Nat)
 | [] => some []
 | p :: r => if e = true ∧ r = [] ∧ p.contains 46 = true then nG p else match piece p with
  | none => none
  | some n => match lD e r with
   | none => none
   | some l => some (n :: l)
def fJ (e : Bool) (ps : List (List UInt8)) : Option (List Nat) := if ps = [[]] then some [] else lD e ps
def xC : List UInt8 → Option (List UInt8 × List UInt8)
 | [] => none
 | [_] => none
 | a :: b :: r => if a = 58 ∧ b = 58 then some ([], r) else match xC (b :: r) with
  | none => none
  | some p => some (a :: p.1, p.2)
def fill (a b : List Nat) : List Nat := a ++ List.replicate (8 - (a.length + b.length)) 0 ++ b
def both (x y : Option (List Nat)) (l : List Nat) : Option (List Nat) := match x, y with
 | some a, some b => if l.length + a.length + b.length < 8 then some (fill (l ++ a) b) else none
 | _, _ => none
def eight (x : Option (List Nat)) (l : List Nat) : Option (List Nat) := match x with
 | some a => if l.length + a.length = 8 then some (l ++ a) else none
 | none => none
def six (s : List UInt8) : Option (List Nat) := match xC s with
 | none => eight (lD true (dO s)) []
 | some p => both (fJ false (dO p.1)) (fJ true (dO p.2)) []
theorem two_len {l x : List Nat} (h : two l = some x) : x.length = 2 := by
 unfold two at h
 split at h
 ·injection h with h; subst h; rfl
 ·cases h
theorem DW {p : List UInt8} {x : List Nat} (h : nG p = some x) : x.length = 2 := by
 unfold nG at h
 cases e : smalls (dN p) with
 | none => rw [e] at h; cases h
 | some l => rw [e] at h; exact two_len h
theorem l9 (e : Bool) {ps : List (List UInt8)} (h : ps ≠ [[]]) : fJ e ps = lD e ps := if_neg h
end Go.Proofs.YtcfgioklgmlclaaGreatDoor.tC
