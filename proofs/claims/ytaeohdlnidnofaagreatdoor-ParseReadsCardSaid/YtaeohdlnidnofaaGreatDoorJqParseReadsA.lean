/- What the frame of a law asks of the program: what the function does in place. -/
import Derived.Test.YtaeohdlnidnofaaGreatDoorRows
import Derived.Test.YtaeohdlnidnofaaGreatDoorChecked
import Derived.ProofKit
import Derived.KernelRfl
import Derived.LaidMore
import Derived.Lay
import Derived.SevenTiedAt
import Derived.Stop.Joined
namespace Go.Proofs.YtaeohdlnidnofaaGreatDoor.JqParseReadsA
open Go.ChangeShapes Go.WideShapes Go.RowKit
theorem inPlace : ((Rows.parseReadsRow.inPlace == Tryz.prog.inPlace 3)) = true := by kernel_rfl
theorem unf : ((Rows.parseReadsRow.unfollowed == Tryz.prog.unfollowed 3)) = true := by kernel_rfl
end Go.Proofs.YtaeohdlnidnofaaGreatDoor.JqParseReadsA
