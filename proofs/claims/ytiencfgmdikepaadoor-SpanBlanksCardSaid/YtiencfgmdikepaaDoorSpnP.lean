/- Plain facts on ranges: blanks passed, a number read, what a text says. -/
import Derived.Test.YtiencfgmdikepaaDoorUtfA
import Derived.Test.YtiencfgmdikepaaDoorUtfL
import Derived.Lib.SlTrimSet
namespace Go.Proofs.YtiencfgmdikepaaDoor.SpnP
open Go.RowKit Go.Proofs.YtiencfgmdikepaaDoor.Base Go.Proofs.YtiencfgmdikepaaDoor.UtfA

def sp : List UInt8 := [9, 32]
def pass (L : List UInt8) : List UInt8 := Lib.trimLeftS L sp
theorem pass_cons (c : UInt8) (L : List UInt8) : pass (c :: L) = if sp.contains c then pass L else c :: L := by
  unfold pass Lib.trimLeftS
  rw [List.dropWhile_cons]
theorem pass_len (L : List UInt8) : (pass L).length ≤ L.length := by
  unfold pass Lib.trimLeftS
  exact (List.dropWhile_sublist _).length_le
theorem pass_drop : ∀ L : List UInt8, ∃ k, k ≤ L.length ∧ pass L = L.drop k
  | [] => ⟨0, Nat.le_refl _, rfl⟩
  | c :: t => by
    rw [pass_cons]
    split
    · obtain ⟨k, hk, e⟩ := pass_drop t
      exact ⟨k + 1, by simp; omega, by rw [e]; rfl⟩
    · exact ⟨0, Nat.zero_le _, rfl⟩
/-- One more digit. -/
def nstep (n : Int) (c : UInt8) : Int := if 461168601842738790 < n then 4611686018427387904 else if 4611686018427387904 < n * 10 + ((c.toNat : Int) - 48) then 4611686018427387904 else n * 10 + ((c.toNat : Int) - 48)
def num (n : Int) : List UInt8 → Int × List UInt8
  | [] => (n, [])
  | c :: t => if digit c.toNat then num (nstep n c) t else (n, c :: t)
theorem digit_range (c : UInt8) (h : digit c.toNat = true) : 48 ≤ (c.toNat : Int) ∧ (c.toNat : Int) ≤ 57 := by
  unfold digit at h
  exact of_decide_eq_true h
theorem nstep_range (n : Int) (c : UInt8) (h : digit c.toNat = true) (h0 : 0 ≤ n) : 0 ≤ nstep n c ∧ nstep n c ≤ 4611686018427387904 := by
  obtain ⟨h1, h2⟩ := digit_range c h
  unfold nstep
  (repeat' split) <;> omega
theorem num_range : ∀ (L : List UInt8) (n : Int), 0 ≤ n → n ≤ 4611686018427387904 → 0 ≤ (num n L).1 ∧ (num n L).1 ≤ 4611686018427387904
  | [], n, h0, h1 => ⟨h0, h1⟩
  | c :: t, n, h0, h1 => by
    rw [num]
    split
    · rename_i h
      obtain ⟨a, b⟩ := nstep_range n c h h0
      exact num_range t _ a b
    · exact ⟨h0, h1⟩
theorem num_drop : ∀ (L : List UInt8) (n : Int), ∃ k, k ≤ L.length ∧ (num n L).2 = L.drop k
  | [], n => ⟨0, Nat.le_refl _, rfl⟩
  | c :: t, n => by
    rw [num]
    split
    · obtain ⟨k, hk, e⟩ := num_drop t (nstep n c)
      exact ⟨k + 1, by simp; omega, by rw [e]; rfl⟩
    · exact ⟨0, Nat.zero_le _, rfl⟩
theorem num_len (L : List UInt8) (n : Int) : (num n L).2.length ≤ L.length := by
  obtain ⟨k, _, e⟩ := num_drop L n
  rw [e, List.length_drop]
  omega
/-- A byte ahead taken off. -/
def cut (c : UInt8) : List UInt8 → List UInt8
  | [] => []
  | x :: t => if x = c then t else x :: t
def is (c : UInt8) : List UInt8 → Bool
  | [] => false
  | x :: _ => x == c
def bytesL : List UInt8 := [98, 121, 116, 101, 115]
/-- The parts of a text: the numbers ahead of and behind the dash, whether they are there, the rest. -/
def from_ (L : List UInt8) : List UInt8 := pass (cut 61 (pass (L.drop 5)))
def to_ (L : List UInt8) : List UInt8 := pass (cut 45 (pass (num 0 (from_ L)).2))
def hasNum (L : List UInt8) : Bool := decide ((num 0 L).2.length < L.length)
def okB (L : List UInt8) : Bool :=
  decide (5 ≤ L.length) && decide (UtfL.lower (L.take 5) = bytesL) && is 61 (pass (L.drop 5)) && is 45 (pass (num 0 (from_ L)).2) && (num 0 (to_ L)).2.isEmpty && (hasNum (from_ L) || hasNum (to_ L)) &&
    !(hasNum (from_ L) && hasNum (to_ L) && decide ((num 0 (to_ L)).1 < (num 0 (from_ L)).1))
/-- What a text says: FROM, TO, whether each is there, whether it is a range. -/
def says (L : List UInt8) : Int × Int × Bool × Bool × Bool :=
  if okB L then ((num 0 (from_ L)).1, (num 0 (to_ L)).1, hasNum (from_ L), hasNum (to_ L), true) else (0, 0, false, false, false)
end Go.Proofs.YtiencfgmdikepaaDoor.SpnP
