/- The document's own In of layer 2 at the bytes 20 to 7E, set by set. -/
import Derived.Test.YtnmkkejodkjjiaaDoorEscI
namespace Go.Proofs.YtnmkkejodkjjiaaDoor.EscI
open Go.RowKit Go.Proofs.YtnmkkejodkjjiaaDoor.Base

set_option maxHeartbeats 4000000 in
set_option maxRecDepth 100000 in
theorem ref_0 (c : Int) (w : World) (h0 : 32 ≤ c) (h1 : c ≤ 126) : Calls Tryd.prog 58 #[.int .i64 0, .int .u8 c] w fun e w' => e = .returned (.bool (inS 0 c)) ∧ w = w' := by
  go_enter Tryd.func58, Tryd.ntmps58
  go_wp2
  all_goals
    go_ret
    refine ⟨ret_bool ?_, rfl⟩
    rw [inS_0]
    rw [Bool.eq_iff_iff]
    simp only [Bool.or_eq_true, beq_iff_eq, decide_eq_true_eq]
    constructor <;> intro h <;> first | trivial | omega
set_option maxHeartbeats 4000000 in
set_option maxRecDepth 100000 in
theorem ref_1 (c : Int) (w : World) (h0 : 32 ≤ c) (h1 : c ≤ 126) : Calls Tryd.prog 58 #[.int .i64 1, .int .u8 c] w fun e w' => e = .returned (.bool (inS 1 c)) ∧ w = w' := by
  go_enter Tryd.func58, Tryd.ntmps58
  go_wp2
  all_goals
    go_ret
    refine ⟨ret_bool ?_, rfl⟩
    rw [inS_1]
    unfold P1
    rw [Bool.eq_iff_iff]
    simp only [Bool.or_eq_true, beq_iff_eq, decide_eq_true_eq]
    constructor <;> intro h <;> first | trivial | omega
set_option maxHeartbeats 4000000 in
set_option maxRecDepth 100000 in
theorem ref_2 (c : Int) (w : World) (h0 : 32 ≤ c) (h1 : c ≤ 126) : Calls Tryd.prog 58 #[.int .i64 2, .int .u8 c] w fun e w' => e = .returned (.bool (inS 2 c)) ∧ w = w' := by
  go_enter Tryd.func58, Tryd.ntmps58
  go_wp2
  all_goals
    go_ret
    refine ⟨ret_bool ?_, rfl⟩
    rw [inS_2]
    unfold P2
    rw [Bool.eq_iff_iff]
    simp only [Bool.or_eq_true, beq_iff_eq, decide_eq_true_eq]
    constructor <;> intro h <;> first | trivial | omega
end Go.Proofs.YtnmkkejodkjjiaaDoor.EscI
