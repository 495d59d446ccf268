/- Answers: the document's Decode. -/
import Derived.Test.YtafnekilnbhhlaaAnsG
namespace Go.Proofs.Ytafnekilnbhhlaa.AnsH
open Go.RowKit Go.Proofs.Ytafnekilnbhhlaa.Base Go.Proofs.Ytafnekilnbhhlaa.Base2 Go.Proofs.Ytafnekilnbhhlaa.Base3 Go.Proofs.Ytafnekilnbhhlaa.AnsP Go.Proofs.Ytafnekilnbhhlaa.AnsB

/-- What was read in k rounds. -/
def Tr (L : List UInt8) (n1 n2 n3 n4 : Nat) (M : List UInt8) : Nat → Prop
  | 0 => M = L
  | 1 => rd 1 L = some (n1, M)
  | 2 => ∃ L1, rd 1 L = some (n1, L1) ∧ rd 4 L1 = some (n2, M)
  | 3 => ∃ L1 L2, rd 1 L = some (n1, L1) ∧ rd 4 L1 = some (n2, L2) ∧ rd 8 L2 = some (n3, M)
  | _ => ∃ L1 L2 L3, rd 1 L = some (n1, L1) ∧ rd 4 L1 = some (n2, L2) ∧ rd 8 L2 = some (n3, L3) ∧ rd 8 L3 = some (n4, M)
theorem tr_no0 {L M : List UInt8} {n1 n2 n3 n4 : Nat} (h : Tr L n1 n2 n3 n4 M 0) (hr : rd 1 M = none) : dec L = none := by
  have h : M = L := h
  subst h
  unfold dec; rw [hr]
theorem tr_no1 {L M : List UInt8} {n1 n2 n3 n4 : Nat} (h : Tr L n1 n2 n3 n4 M 1) (hr : rd 4 M = none) : dec L = none := by
  have h : rd 1 L = some (n1, M) := h
  unfold dec; rw [h]; simp only; rw [hr]
theorem tr_no2 {L M : List UInt8} {n1 n2 n3 n4 : Nat} (h : Tr L n1 n2 n3 n4 M 2) (hr : rd 8 M = none) : dec L = none := by
  obtain ⟨L1, h1, h2⟩ := h
  unfold dec; rw [h1]; simp only; rw [h2]; simp only; rw [hr]
theorem tr_no3 {L M : List UInt8} {n1 n2 n3 n4 : Nat} (h : Tr L n1 n2 n3 n4 M 3) (hr : rd 8 M = none) : dec L = none := by
  obtain ⟨L1, L2, h1, h2, h3⟩ := h
  unfold dec; rw [h1]; simp only; rw [h2]; simp only; rw [h3]; simp only; rw [hr]
theorem tr_len {L M : List UInt8} {n1 n2 n3 n4 k : Nat} (h : Tr L n1 n2 n3 n4 M k) : M.length ≤ L.length := by
  have H : ∀ m n (A B : List UInt8), rd m A = some (n, B) → B.length ≤ A.length := fun m n A B h => by
    obtain ⟨rfl, _⟩ := rd_some h
    simp
  match k, h with
  | 0, h => obtain rfl := h; exact Nat.le_refl _
  | 1, h => exact H _ _ _ _ h
  | 2, ⟨L1, h1, h2⟩ => exact Nat.le_trans (H _ _ _ _ h2) (H _ _ _ _ h1)
  | 3, ⟨L1, L2, h1, h2, h3⟩ => exact Nat.le_trans (H _ _ _ _ h3) (Nat.le_trans (H _ _ _ _ h2) (H _ _ _ _ h1))
  | k + 4, ⟨L1, L2, L3, h1, h2, h3, h4⟩ => exact Nat.le_trans (H _ _ _ _ h4) (Nat.le_trans (H _ _ _ _ h3) (Nat.le_trans (H _ _ _ _ h2) (H _ _ _ _ h1)))
def RDec (w : World) (L : List UInt8) (e : Ending) (w' : World) : Prop := Below w.heap.size w w' ∧ match dec L with
  | none => e = .returned (.tuple #[.agg #[.int .i64 0, .int .i64 0, .int .i64 0, .int .i64 0, .string ⟨#[]⟩, .string ⟨#[]⟩], .bool false])
  | some a => e = .returned (.tuple #[.agg #[.int .i64 (a.sort : Int), .int .i64 (a.status : Int), .int .i64 (AnsW.sg a.first), .int .i64 (AnsW.sg a.total), .string (strOf a.kind), .string (strOf a.body)], .bool true])
end Go.Proofs.Ytafnekilnbhhlaa.AnsH
