/- What the frame of a law asks of the program: what it goes by. -/
import Derived.Test.YtaeohdlnidnofaaGreatDoorRows
import Derived.Test.YtaeohdlnidnofaaGreatDoorChecked
import Derived.ProofKit
import Derived.KernelRfl
import Derived.LaidMore
import Derived.Lay
import Derived.SevenTiedAt
import Derived.Stop.Joined
namespace Go.Proofs.YtaeohdlnidnofaaGreatDoor.JqParseReadsE
open Go.ChangeShapes Go.WideShapes Go.RowKit
theorem goes : false = Rows.parseReadsRow.goesBy Tryz.prog := by kernel_rfl
theorem byText : Rows.parseReadsRow.wfByText (OpenSpec.ofChange Rows.parseReadsSpec) = true := by kernel_rfl
end Go.Proofs.YtaeohdlnidnofaaGreatDoor.JqParseReadsE
