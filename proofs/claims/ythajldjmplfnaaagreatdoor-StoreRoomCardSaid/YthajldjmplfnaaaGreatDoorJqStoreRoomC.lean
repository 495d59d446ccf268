/- What the frame of a law asks of the program: how it was made. -/
import Derived.Test.YthajldjmplfnaaaGreatDoorRows
import Derived.Test.YthajldjmplfnaaaGreatDoorChecked
import Derived.ProofKit
import Derived.KernelRfl
import Derived.LaidMore
import Derived.Lay
import Derived.SevenTiedAt
import Derived.Stop.Joined
namespace Go.Proofs.YthajldjmplfnaaaGreatDoor.JqStoreRoomC
open Go.ChangeShapes Go.WideShapes Go.RowKit
theorem lifted : ((Rows.storeRoomRow.lifted == Tryz.prog.liftsFinal)) = true := by kernel_rfl
theorem plainK : ((Rows.storeRoomRow.plainKeys == Tryz.prog.plainKeys)) = true := by kernel_rfl
end Go.Proofs.YthajldjmplfnaaaGreatDoor.JqStoreRoomC
