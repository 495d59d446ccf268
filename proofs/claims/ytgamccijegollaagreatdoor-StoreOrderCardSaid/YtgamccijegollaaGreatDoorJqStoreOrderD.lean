/- What the frame of a law asks of the program: how it was made, too. -/
import Derived.Test.YtgamccijegollaaGreatDoorRows
import Derived.Test.YtgamccijegollaaGreatDoorChecked
import Derived.ProofKit
import Derived.KernelRfl
import Derived.LaidMore
import Derived.Lay
import Derived.SevenTiedAt
import Derived.Stop.Joined
namespace Go.Proofs.YtgamccijegollaaGreatDoor.JqStoreOrderD
open Go.ChangeShapes Go.WideShapes Go.RowKit
theorem make : ((Tryz.prog.make == some Rows.storeOrderRow.make)) = true := by kernel_rfl
end Go.Proofs.YtgamccijegollaaGreatDoor.JqStoreOrderD
