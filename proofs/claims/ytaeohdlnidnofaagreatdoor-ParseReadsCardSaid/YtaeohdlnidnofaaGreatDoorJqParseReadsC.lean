/- What the frame of a law asks of the program: how it was made. -/
import Derived.Test.YtaeohdlnidnofaaGreatDoorRows
import Derived.Test.YtaeohdlnidnofaaGreatDoorChecked
import Derived.ProofKit
import Derived.KernelRfl
import Derived.LaidMore
import Derived.Lay
import Derived.SevenTiedAt
import Derived.Stop.Joined
namespace Go.Proofs.YtaeohdlnidnofaaGreatDoor.JqParseReadsC
open Go.ChangeShapes Go.WideShapes Go.RowKit
theorem lifted : ((Rows.parseReadsRow.lifted == Tryz.prog.liftsFinal)) = true := by kernel_rfl
theorem plainK : ((Rows.parseReadsRow.plainKeys == Tryz.prog.plainKeys)) = true := by kernel_rfl
end Go.Proofs.YtaeohdlnidnofaaGreatDoor.JqParseReadsC
