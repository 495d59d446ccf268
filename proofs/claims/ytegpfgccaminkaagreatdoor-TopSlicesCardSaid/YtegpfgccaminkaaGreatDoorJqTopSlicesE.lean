/- What the frame of a law asks of the program: what it goes by. -/
import Derived.Test.YtegpfgccaminkaaGreatDoorRows
import Derived.Test.YtegpfgccaminkaaGreatDoorChecked
import Derived.ProofKit
import Derived.KernelRfl
import Derived.LaidMore
import Derived.Lay
import Derived.SevenTiedAt
import Derived.Stop.Joined
namespace Go.Proofs.YtegpfgccaminkaaGreatDoor.JqTopSlicesE
open Go.ChangeShapes Go.WideShapes Go.RowKit
theorem goes : false = Rows.topSlicesRow.goesBy Tryz.prog := by kernel_rfl
theorem byText : Rows.topSlicesRow.wfByText (OpenSpec.ofChange Rows.topSlicesSpec) = true := by kernel_rfl
end Go.Proofs.YtegpfgccaminkaaGreatDoor.JqTopSlicesE
