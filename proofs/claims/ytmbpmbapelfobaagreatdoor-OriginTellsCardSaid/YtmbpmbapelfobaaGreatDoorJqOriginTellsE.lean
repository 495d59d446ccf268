/- What the frame of a law asks of the program: what it goes by. -/
import Derived.Test.YtmbpmbapelfobaaGreatDoorRows
import Derived.Test.YtmbpmbapelfobaaGreatDoorChecked
import Derived.ProofKit
import Derived.KernelRfl
import Derived.LaidMore
import Derived.Lay
import Derived.SevenTiedAt
import Derived.Stop.Joined
namespace Go.Proofs.YtmbpmbapelfobaaGreatDoor.JqOriginTellsE
open Go.ChangeShapes Go.WideShapes Go.RowKit
theorem goes : false = Rows.originTellsRow.goesBy Tryz.prog := by kernel_rfl
theorem byText : Rows.originTellsRow.wfByText (OpenSpec.ofChange Rows.originTellsSpec) = true := by kernel_rfl
end Go.Proofs.YtmbpmbapelfobaaGreatDoor.JqOriginTellsE
