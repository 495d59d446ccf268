/- The document's own In of layer 2 at the bytes 20 to 7E, set by set. -/
import Derived.Test.YtllkkcolnjbjhaaEscI
namespace Go.Proofs.Ytllkkcolnjbjhaa.EscI
open Go.RowKit Go.Proofs.Ytllkkcolnjbjhaa.Base

set_option maxHeartbeats 4000000 in
set_option maxRecDepth 100000 in
theorem ref_5 (c : Int) (w : World) (h0 : 32 ≤ c) (h1 : c ≤ 126) : Calls Try.prog 14 #[.int .i64 5, .int .u8 c] w fun e w' => e = .returned (.bool (inS 5 c)) ∧ w = w' := by
  go_enter Try.func14, Try.ntmps14
  go_wp2
  all_goals
    go_ret
    refine ⟨ret_bool ?_, rfl⟩
    rw [inS_5]
    unfold P5
    rw [Bool.eq_iff_iff]
    simp only [Bool.or_eq_true, beq_iff_eq, decide_eq_true_eq]
    constructor <;> intro h <;> first | trivial | omega
set_option maxHeartbeats 4000000 in
set_option maxRecDepth 100000 in
theorem ref_6 (c : Int) (w : World) (h0 : 32 ≤ c) (h1 : c ≤ 126) : Calls Try.prog 14 #[.int .i64 6, .int .u8 c] w fun e w' => e = .returned (.bool (inS 6 c)) ∧ w = w' := by
  go_enter Try.func14, Try.ntmps14
  go_wp2
  all_goals
    go_ret
    refine ⟨ret_bool ?_, rfl⟩
    rw [inS_6]
    unfold P6
    rw [Bool.eq_iff_iff]
    simp only [Bool.or_eq_true, beq_iff_eq, decide_eq_true_eq]
    constructor <;> intro h <;> first | trivial | omega
end Go.Proofs.Ytllkkcolnjbjhaa.EscI
