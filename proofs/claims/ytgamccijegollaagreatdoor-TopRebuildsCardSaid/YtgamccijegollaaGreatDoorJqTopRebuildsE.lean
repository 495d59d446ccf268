/- What the frame of a law asks of the program: what it goes by. -/
import Derived.Test.YtgamccijegollaaGreatDoorRows
import Derived.Test.YtgamccijegollaaGreatDoorChecked
import Derived.ProofKit
import Derived.KernelRfl
import Derived.LaidMore
import Derived.Lay
import Derived.SevenTiedAt
import Derived.Stop.Joined
namespace Go.Proofs.YtgamccijegollaaGreatDoor.JqTopRebuildsE
open Go.ChangeShapes Go.WideShapes Go.RowKit
theorem goes : false = Rows.topRebuildsRow.goesBy Tryz.prog := by kernel_rfl
theorem byText : Rows.topRebuildsRow.wfByText (OpenSpec.ofChange Rows.topRebuildsSpec) = true := by kernel_rfl
end Go.Proofs.YtgamccijegollaaGreatDoor.JqTopRebuildsE
