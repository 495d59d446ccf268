/- What the frame of a law asks of the program: what the function does in place. -/
import Derived.Test.YtgamccijegollaaGreatDoorRows
import Derived.Test.YtgamccijegollaaGreatDoorChecked
import Derived.ProofKit
import Derived.KernelRfl
import Derived.LaidMore
import Derived.Lay
import Derived.SevenTiedAt
import Derived.Stop.Joined
namespace Go.Proofs.YtgamccijegollaaGreatDoor.JqStoreOrderA
open Go.ChangeShapes Go.WideShapes Go.RowKit
theorem inPlace : ((Rows.storeOrderRow.inPlace == Tryz.prog.inPlace 8)) = true := by kernel_rfl
theorem unf : ((Rows.storeOrderRow.unfollowed == Tryz.prog.unfollowed 8)) = true := by kernel_rfl
end Go.Proofs.YtgamccijegollaaGreatDoor.JqStoreOrderA
