/- What the frame of a law asks of the program: what it goes by. -/
import Derived.Test.YtmpeaoacaecgpaaGreatDoorRows
import Derived.Test.YtmpeaoacaecgpaaGreatDoorChecked
import Derived.ProofKit
import Derived.KernelRfl
import Derived.LaidMore
import Derived.Lay
import Derived.SevenTiedAt
import Derived.Stop.Joined
namespace Go.Proofs.YtmpeaoacaecgpaaGreatDoor.JqStackBackE
open Go.ChangeShapes Go.WideShapes Go.RowKit
theorem goes : false = Rows.stackBackRow.goesBy Tryz.prog := by kernel_rfl
theorem byText : Rows.stackBackRow.wfByText (OpenSpec.ofChange Rows.stackBackSpec) = true := by kernel_rfl
end Go.Proofs.YtmpeaoacaecgpaaGreatDoor.JqStackBackE
