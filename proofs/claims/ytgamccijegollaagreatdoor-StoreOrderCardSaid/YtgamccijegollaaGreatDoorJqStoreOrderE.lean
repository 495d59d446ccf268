/- What the frame of a law asks of the program: what it goes by. -/
import Derived.Test.YtgamccijegollaaGreatDoorRows
import Derived.Test.YtgamccijegollaaGreatDoorChecked
import Derived.ProofKit
import Derived.KernelRfl
import Derived.LaidMore
import Derived.Lay
import Derived.SevenTiedAt
import Derived.Stop.Joined
namespace Go.Proofs.YtgamccijegollaaGreatDoor.JqStoreOrderE
open Go.ChangeShapes Go.WideShapes Go.RowKit
theorem goes : false = Rows.storeOrderRow.goesBy Tryz.prog := by kernel_rfl
theorem byText : Rows.storeOrderRow.wfByText (OpenSpec.ofChange Rows.storeOrderSpec) = true := by kernel_rfl
end Go.Proofs.YtgamccijegollaaGreatDoor.JqStoreOrderE
