/- Answers: the laws' 'awake'; two answers' equality. -/
import Derived.Test.YtafnekilnbhhlaaAnsH
import Derived.Laws.StructEq
namespace Go.Proofs.Ytafnekilnbhhlaa.AnsI
open Go.RowKit Go.Proofs.Ytafnekilnbhhlaa.Base Go.Proofs.Ytafnekilnbhhlaa.Base2 Go.Proofs.Ytafnekilnbhhlaa.Base3 Go.Proofs.Ytafnekilnbhhlaa.AnsP Go.Proofs.Ytafnekilnbhhlaa.AnsB Go.Proofs.Ytafnekilnbhhlaa.AnsD

theorem encode_any' (a : Ans) (so st f t : Int) (k : ByteArray) (w : World) (A : Option Addr) (n c : Nat) (h : IsA a so st k w A n c) (hf : f = AnsW.sg a.first) (ht : t = AnsW.sg a.total) :
    Calls Try.prog 30 #[.agg #[.int .i64 so, .int .i64 st, .int .i64 f, .int .i64 t, .string k, .slice A n c]] w fun e w' => ∃ v, e = .returned v ∧ w'.ownsRow w.heap.size 5 1 v (enc a).length (bcells (enc a)) ∧ Below w.heap.size w w' := by
  subst hf ht
  exact encode_any a so st k w A n c h
def a5 : Ans := ⟨5, 0, 0, 0, [], []⟩
def a0 : Ans := ⟨0, 0, 0, 0, [], []⟩
theorem fits5 : Fits a5 := ⟨by decide, by decide, by decide, by decide, by decide, by decide⟩
theorem fits0 : Fits a0 := ⟨by decide, by decide, by decide, by decide, by decide, by decide⟩
theorem len5 : (enc a5).length = 29 := by rw [length_enc]; rfl
theorem len0 : (enc a0).length = 29 := by rw [length_enc]; rfl
theorem is5 (w : World) : IsA a5 5 0 ⟨#[]⟩ w none 0 0 := ⟨by decide, by decide, rfl, Rds.nil _, by decide, by decide, fits5⟩
theorem is0 (w : World) : IsA a0 0 0 ⟨#[]⟩ w none 0 0 := ⟨by decide, by decide, rfl, Rds.nil _, by decide, by decide, fits0⟩
theorem sg0 : (0 : Int) = AnsW.sg 0 := by decide
/-- An equality of two answers of the document's kind. -/
theorem eq33 (a b c d a' b' c' d' : Int) (k x k' x' : List UInt8) (w : World) : (binOp .eql 49 (.agg #[.int .i64 a, .int .i64 b, .int .i64 c, .int .i64 d, .string (strOf k), .string (strOf x)]) (.agg #[.int .i64 a', .int .i64 b', .int .i64 c', .int .i64 d', .string (strOf k'), .string (strOf x')])).run Try.prog w = .ok (.bool (same6 a b c d k x a' b' c' d' k' x')) w := by
  have u3 := Try.underlying3
  have a3 := Try.isAgg3
  have z3 := Try.sizeOf3
  have u2 := Try.underlying2
  have a2 := Try.isAgg2
  have z2 := Try.sizeOf2
  have u9 := Try.underlying9
  have a9 := Try.isAgg9
  have z9 := Try.sizeOf9
  have hS : Try.prog.underlying 49 = some (.struct (Try.prog.fieldsOf 49)) := by kernel_rfl
  have hp : Try.prog.stoodInHeld 49 = false := by kernel_rfl
  have e1 := Regs.str_beq k k'
  have e2 := Regs.str_beq x x'
  unfold same6
  rw [run_eql_struct, show (10000 : Nat) = 9999 + 1 from rfl, run_equalIn_agg w 9999 49 _ _ hS hp]
  simp only [Program.fieldsOf, Try.underlying49]
  go_simp
  by_cases h1 : a = a' <;> by_cases h2 : b = b' <;> by_cases h3 : c = c' <;> by_cases h4 : d = d' <;> by_cases h5 : k = k' <;> by_cases h6 : x = x' <;> simp [h1, h2, h3, h4, h5, h6]
end Go.Proofs.Ytafnekilnbhhlaa.AnsI
