/- What the frame of a law asks of the program: how it was made, too. -/
import Derived.Test.YtaeohdlnidnofaaGreatDoorRows
import Derived.Test.YtaeohdlnidnofaaGreatDoorChecked
import Derived.ProofKit
import Derived.KernelRfl
import Derived.LaidMore
import Derived.Lay
import Derived.SevenTiedAt
import Derived.Stop.Joined
namespace Go.Proofs.YtaeohdlnidnofaaGreatDoor.JqParseReadsD
open Go.ChangeShapes Go.WideShapes Go.RowKit
theorem make : ((Tryz.prog.make == some Rows.parseReadsRow.make)) = true := by kernel_rfl
end Go.Proofs.YtaeohdlnidnofaaGreatDoor.JqParseReadsD
