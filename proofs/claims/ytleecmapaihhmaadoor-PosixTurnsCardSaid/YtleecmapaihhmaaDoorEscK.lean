/- The document's own In of layer 2 at the bytes 20 to 7E, set by set. -/
import Derived.Test.YtleecmapaihhmaaDoorEscI
set_option linter.unusedSimpArgs false
set_option linter.unusedVariables false
namespace Go.Proofs.YtleecmapaihhmaaDoor.EscI
open Go.RowKit Go.Proofs.YtleecmapaihhmaaDoor.Base

set_option maxHeartbeats 4000000 in
set_option maxRecDepth 100000 in
theorem ref_3 (c : Int) (w : World) (h0 : 32 ≤ c) (h1 : c ≤ 126) : Calls Tryd.prog 30 #[.int .i64 3, .int .u8 c] w fun e w' => e = .returned (.bool (inS 3 c)) ∧ w = w' := by
  go_enter Tryd.func30, Tryd.ntmps30
  go_wp2
  all_goals
    go_ret
    refine ⟨ret_bool ?_, rfl⟩
    rw [inS_3]
    unfold P3
    rw [Bool.eq_iff_iff]
    simp only [Bool.or_eq_true, beq_iff_eq, decide_eq_true_eq]
    constructor <;> intro h <;> first | trivial | omega
set_option maxHeartbeats 4000000 in
set_option maxRecDepth 100000 in
theorem ref_4 (c : Int) (w : World) (h0 : 32 ≤ c) (h1 : c ≤ 126) : Calls Tryd.prog 30 #[.int .i64 4, .int .u8 c] w fun e w' => e = .returned (.bool (inS 4 c)) ∧ w = w' := by
  go_enter Tryd.func30, Tryd.ntmps30
  go_wp2
  all_goals
    go_ret
    refine ⟨ret_bool ?_, rfl⟩
    rw [inS_4]
    unfold P4
    rw [Bool.eq_iff_iff]
    simp only [Bool.or_eq_true, beq_iff_eq, decide_eq_true_eq]
    constructor <;> intro h <;> first | trivial | omega
end Go.Proofs.YtleecmapaihhmaaDoor.EscI
