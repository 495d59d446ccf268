/- Texts that belong together: SixP. -/
import Derived.Test.YtmdofbccebkbiaaGreatDoorMA
import Derived.Lib.IndexMore
set_option linter.unusedSimpArgs false
set_option linter.unusedVariables false
namespace Go.Proofs.YtmdofbccebkbiaaGreatDoor.SixP
open Go.RowKit Base UtfA QudP
def splc : List UInt8 → List (List UInt8)
 | [] => [[]]
 | c :: L => if c = 58 then [] :: splc L else match splc L with
  | [] => [[c]]
  | x :: r => (c :: x) :: r
theorem splc_ne : ∀ L : List UInt8, splc L ≠ []
 | [] => by simp [splc]
 | c :: L => by
  unfold splc
  split
  ·simp
  ·split <;> simp
theorem splc_colon (L : List UInt8) : splc (58 :: L) = [] :: splc L := by rw [splc, if_pos rfl]
theorem splc_cons {c : UInt8} (h : c ≠ 58) (L : List UInt8) : ∃ x r, splc L = x :: r ∧ splc (c :: L) = (c :: x) :: r := by
 cases e : splc L with
 | nil => exact absurd e (splc_ne L)
 | cons x r => exact ⟨x, r, rfl, by rw [splc, if_neg h, e]⟩
theorem splc_plain : ∀ (p : List UInt8), (∀ c ∈ p, c ≠ 58) → splc p = [p]
 | [], _ => rfl
 | c :: p, h => by
  obtain ⟨x, r, e, e2⟩ := splc_cons (h c (by simp)) p
  rw [splc_plain p fun d hd => h d (by simp [hd])] at e
  injection e with e3 e4
  rw [e2, ← e3, ← e4]
theorem splc_app : ∀ (p L : List UInt8), (∀ c ∈ p, c ≠ 58) → splc (p ++ 58 :: L) = p :: splc L
 | [], L, _ => splc_colon L
 | c :: p, L, h => by
  obtain ⟨x, r, e, e2⟩ := splc_cons (h c (by simp)) (p ++ 58 :: L)
  rw [splc_app p L fun d hd => h d (by simp [hd])] at e
  injection e with e3 e4
  rw [List.cons_append, e2, ← e3, ← e4]
theorem length_splc (L : List UInt8) : (splc L).length ≤ L.length + 1 := by
 induction L with
 | nil => simp [splc]
 | cons c L ih =>
  by_cases h : c = 58
  ·subst h; rw [splc_colon]; simp; omega
  ·obtain ⟨x, r, e, e2⟩ := splc_cons h L
   rw [e] at ih
   rw [e2]
   simp at ih ⊢
   omega
theorem splc_part : ∀ (L : List UInt8), ∀ x ∈ splc L, x.length ≤ L.length
 | [], x, h => by simp [splc] at h; subst h; simp
 | c :: L, x, h => by
  by_cases hc : c = 58
  ·subst hc
   rw [splc_colon] at h
   rcases List.mem_cons.1 h with rfl | h
   ·simp
   ·have := splc_part L x h; simp; omega
  ·obtain ⟨y, r, e, e2⟩ := splc_cons hc L
   rw [e2] at h
   rcases List.mem_cons.1 h with rfl | h
   ·have := splc_part L y (by rw [e]; simp); simp; omega
   ·have := splc_part L x (by rw [e]; simp [h]); simp; omega
def piece (p : List UInt8) : Option Nat := if 1 ≤ p.length ∧ p.length ≤ 4 ∧ digs 16 p = true then some (val 16 p) else none
def small (p : List UInt8) : Option Nat := if 1 ≤ p.length ∧ p.length ≤ 3 ∧ ¬ (1 < p.length ∧ p.head? = some 48) ∧ digs 10 p = true ∧ val 10 p ≤ 255 then some (val 10 p) else none
def smalls : List (List UInt8) → Option (List Nat)
 | [] => some []
 | p :: r => match small p, smalls r with
  | some n, some l => some (n :: l)
  | _, _ => none
def two : List Nat → Option (List Nat)
 | [a, b, c, d] => some [a * 256 + b, c * 256 + d]
 | _ => none
def quad (p : List UInt8) : Option (List Nat) := (smalls (splt p)).bind two
def pcs (e : Bool) : List (List UInt8) → Option (List Nat)
 | [] => some []
 | p :: r => if e = true ∧ r = [] ∧ p.contains 46 = true then quad p else match piece p with
  | none => none
  | some n => match pcs e r with
   | none => none
   | some l => some (n :: l)
def sideP (e : Bool) (ps : List (List UInt8)) : Option (List Nat) := if ps = [[]] then some [] else pcs e ps
def cut2 : List UInt8 → Option (List UInt8 × List UInt8)
 | [] => none
 | [_] => none
 | a :: b :: r => if a = 58 ∧ b = 58 then some ([], r) else match cut2 (b :: r) with
  | none => none
  | some p => some (a :: p.1, p.2)
def fill (a b : List Nat) : List Nat := a ++ List.replicate (8 - (a.length + b.length)) 0 ++ b
def both (x y : Option (List Nat)) (l : List Nat) : Option (List Nat) := match x, y with
 | some a, some b => if l.length + a.length + b.length < 8 then some (fill (l ++ a) b) else none
 | _, _ => none
def eight (x : Option (List Nat)) (l : List Nat) : Option (List Nat) := match x with
 | some a => if l.length + a.length = 8 then some (l ++ a) else none
 | none => none
def six (s : List UInt8) : Option (List Nat) := match cut2 s with
 | none => eight (pcs true (splc s)) []
 | some p => both (sideP false (splc p.1)) (sideP true (splc p.2)) []
def fnd : List (List UInt8) → Option (List (List UInt8) × List (List UInt8))
 | [] => none
 | [_] => none
 | p :: q :: r => if p = [] then some ([], q :: r) else match fnd (q :: r) with
  | none => none
  | some x => some (p :: x.1, x.2)
def fnd0 : List (List UInt8) → Option (List (List UInt8) × List (List UInt8))
 | [] => none
 | p :: r => match fnd r with
  | none => none
  | some x => some (p :: x.1, x.2)
theorem fnd_fnd0 (p : List UInt8) (hp : p ≠ []) (r : List (List UInt8)) : fnd (p :: r) = fnd0 (p :: r) := by
 cases r with
 | nil => rfl
 | cons q r => rw [fnd, if_neg hp]; rfl
theorem fnd_nil (r : List (List UInt8)) (hr : r ≠ []) : fnd ([] :: r) = some ([], r) := by
 cases r with
 | nil => exact absurd rfl hr
 | cons q r => rw [fnd, if_pos rfl]
theorem cut2_fnd0 : ∀ s : List UInt8, fnd0 (splc s) = match cut2 s with
  | none => none
  | some p => some (splc p.1, splc p.2)
 | [] => rfl
 | [c] => by
  by_cases h : c = 58
  ·subst h; rfl
  ·obtain ⟨x, r, e, e2⟩ := splc_cons h []
   rw [e2]
   simp [splc] at e
   rw [e.2]
   rfl
 | a :: b :: r => by
  have ih := cut2_fnd0 (b :: r)
  rw [cut2]
  by_cases ha : a = 58
  ·subst ha
   rw [splc_colon]
   by_cases hb : b = 58
   ·subst hb
    rw [if_pos ⟨rfl, rfl⟩, splc_colon]
    show (match fnd ([] :: splc r) with | none => none | some x => some ([] :: x.1, x.2)) = _
    rw [fnd_nil _ (splc_ne r)]
    rfl
   ·rw [if_neg (by simp [hb])]
    obtain ⟨x, t, e, e2⟩ := splc_cons hb r
    rw [e2] at ih ⊢
    show (match fnd ((b :: x) :: t) with | none => none | some x => some ([] :: x.1, x.2)) = _
    rw [fnd_fnd0 _ (by simp), ih]
    cases hc : cut2 (b :: r) with
    | none => rfl
    | some p => simp [splc_colon]
  ·rw [if_neg (by simp [ha])]
   obtain ⟨x, t, e, e2⟩ := splc_cons ha (b :: r)
   rw [e] at ih
   rw [e2]
   replace ih : (match fnd t with | none => none | some y => some (x :: y.1, y.2)) = _ := ih
   show (match fnd t with | none => none | some y => some ((a :: x) :: y.1, y.2)) = _
   cases hc : cut2 (b :: r) with
   | none =>
    rw [hc] at ih
    cases hf : fnd t with
    | none => rfl
    | some y => rw [hf] at ih; simp at ih
   | some p =>
    rw [hc] at ih
    cases hf : fnd t with
    | none => rw [hf] at ih; simp at ih
    | some y =>
     rw [hf] at ih
     simp at ih ⊢
     obtain ⟨u, v, f1, f2⟩ := splc_cons ha p.1
     rw [f2]
     rw [f1] at ih
     injection ih.1 with g1 g2
     exact ⟨by rw [g1, g2], ih.2⟩
theorem two_len {l x : List Nat} (h : two l = some x) : x.length = 2 := by
 unfold two at h
 split at h
 ·injection h with h; subst h; rfl
 ·cases h
theorem quad_len {p : List UInt8} {x : List Nat} (h : quad p = some x) : x.length = 2 := by
 unfold quad at h
 cases e : smalls (splt p) with
 | none => rw [e] at h; cases h
 | some l => rw [e] at h; exact two_len h
theorem sideP_neg (e : Bool) {ps : List (List UInt8)} (h : ps ≠ [[]]) : sideP e ps = pcs e ps := if_neg h
end Go.Proofs.YtmdofbccebkbiaaGreatDoor.SixP
