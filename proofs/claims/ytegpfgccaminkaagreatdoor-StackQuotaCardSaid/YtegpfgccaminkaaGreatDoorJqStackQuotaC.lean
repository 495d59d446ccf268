/- What the frame of a law asks of the program: how it was made. -/
import Derived.Test.YtegpfgccaminkaaGreatDoorRows
import Derived.Test.YtegpfgccaminkaaGreatDoorChecked
import Derived.ProofKit
import Derived.KernelRfl
import Derived.LaidMore
import Derived.Lay
import Derived.SevenTiedAt
import Derived.Stop.Joined
namespace Go.Proofs.YtegpfgccaminkaaGreatDoor.JqStackQuotaC
open Go.ChangeShapes Go.WideShapes Go.RowKit
theorem lifted : ((Rows.stackQuotaRow.lifted == Tryz.prog.liftsFinal)) = true := by kernel_rfl
theorem plainK : ((Rows.stackQuotaRow.plainKeys == Tryz.prog.plainKeys)) = true := by kernel_rfl
end Go.Proofs.YtegpfgccaminkaaGreatDoor.JqStackQuotaC
