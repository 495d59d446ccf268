/- What the frame of a law asks of the program: what it goes by. -/
import Derived.Test.YtegpfgccaminkaaGreatDoorRows
import Derived.Test.YtegpfgccaminkaaGreatDoorChecked
import Derived.ProofKit
import Derived.KernelRfl
import Derived.LaidMore
import Derived.Lay
import Derived.SevenTiedAt
import Derived.Stop.Joined
namespace Go.Proofs.YtegpfgccaminkaaGreatDoor.JqTopRangesE
open Go.ChangeShapes Go.WideShapes Go.RowKit
theorem goes : false = Rows.topRangesRow.goesBy Tryz.prog := by kernel_rfl
theorem byText : Rows.topRangesRow.wfByText (OpenSpec.ofChange Rows.topRangesSpec) = true := by kernel_rfl
end Go.Proofs.YtegpfgccaminkaaGreatDoor.JqTopRangesE
