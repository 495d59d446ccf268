/- What the frame of a law asks of the program: what it goes by. -/
import Derived.Test.YthajldjmplfnaaaGreatDoorRows
import Derived.Test.YthajldjmplfnaaaGreatDoorChecked
import Derived.ProofKit
import Derived.KernelRfl
import Derived.LaidMore
import Derived.Lay
import Derived.SevenTiedAt
import Derived.Stop.Joined
namespace Go.Proofs.YthajldjmplfnaaaGreatDoor.JqStoreRoomE
open Go.ChangeShapes Go.WideShapes Go.RowKit
theorem goes : false = Rows.storeRoomRow.goesBy Tryz.prog := by kernel_rfl
theorem byText : Rows.storeRoomRow.wfByText (OpenSpec.ofChange Rows.storeRoomSpec) = true := by kernel_rfl
end Go.Proofs.YthajldjmplfnaaaGreatDoor.JqStoreRoomE
