/- What the frame of a law asks of the program: what it names. -/
import Derived.Test.YthajldjmplfnaaaGreatDoorRows
import Derived.Test.YthajldjmplfnaaaGreatDoorChecked
import Derived.ProofKit
import Derived.KernelRfl
import Derived.LaidMore
import Derived.Lay
import Derived.SevenTiedAt
import Derived.Stop.Joined
namespace Go.Proofs.YthajldjmplfnaaaGreatDoor.JqStoreRoomB
open Go.ChangeShapes Go.WideShapes Go.RowKit
theorem recs : ((Rows.storeRoomRow.recurses == Tryz.prog.recurses 3)) = true := by kernel_rfl
theorem named : ((Rows.storeRoomRow.named == Tryz.prog.varsNamed 3)) = true := by kernel_rfl
end Go.Proofs.YthajldjmplfnaaaGreatDoor.JqStoreRoomB
