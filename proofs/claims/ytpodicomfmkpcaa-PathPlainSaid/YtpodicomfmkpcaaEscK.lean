/- The document's own In of layer 2 at the bytes 20 to 7E, set by set. -/
import Derived.Test.YtpodicomfmkpcaaEscI
namespace Go.Proofs.Ytpodicomfmkpcaa.EscI
open Go.RowKit Go.Proofs.Ytpodicomfmkpcaa.Base

set_option maxHeartbeats 4000000 in
set_option maxRecDepth 100000 in
theorem ref_3 (c : Int) (w : World) (h0 : 32 ≤ c) (h1 : c ≤ 126) : Calls Try.prog 42 #[.int .i64 3, .int .u8 c] w fun e w' => e = .returned (.bool (inS 3 c)) ∧ w = w' := by
  go_enter Try.func42, Try.ntmps42
  go_wp2
  all_goals
    go_ret
    refine ⟨ret_bool ?_, rfl⟩
    rw [inS_3]
    unfold P3
    rw [Bool.eq_iff_iff]
    simp only [Bool.or_eq_true, beq_iff_eq, decide_eq_true_eq]
    constructor <;> intro h <;> first | trivial | omega
set_option maxHeartbeats 4000000 in
set_option maxRecDepth 100000 in
theorem ref_4 (c : Int) (w : World) (h0 : 32 ≤ c) (h1 : c ≤ 126) : Calls Try.prog 42 #[.int .i64 4, .int .u8 c] w fun e w' => e = .returned (.bool (inS 4 c)) ∧ w = w' := by
  go_enter Try.func42, Try.ntmps42
  go_wp2
  all_goals
    go_ret
    refine ⟨ret_bool ?_, rfl⟩
    rw [inS_4]
    unfold P4
    rw [Bool.eq_iff_iff]
    simp only [Bool.or_eq_true, beq_iff_eq, decide_eq_true_eq]
    constructor <;> intro h <;> first | trivial | omega
end Go.Proofs.Ytpodicomfmkpcaa.EscI
