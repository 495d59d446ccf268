/- What the frame of a law asks of the program: what the function does in place. -/
import Derived.Test.YtmbpmbapelfobaaGreatDoorRows
import Derived.Test.YtmbpmbapelfobaaGreatDoorChecked
import Derived.ProofKit
import Derived.KernelRfl
import Derived.LaidMore
import Derived.Lay
import Derived.SevenTiedAt
import Derived.Stop.Joined
namespace Go.Proofs.YtmbpmbapelfobaaGreatDoor.JqOriginTellsA
open Go.ChangeShapes Go.WideShapes Go.RowKit
theorem inPlace : ((Rows.originTellsRow.inPlace == Tryz.prog.inPlace 3)) = true := by kernel_rfl
theorem unf : ((Rows.originTellsRow.unfollowed == Tryz.prog.unfollowed 3)) = true := by kernel_rfl
end Go.Proofs.YtmbpmbapelfobaaGreatDoor.JqOriginTellsA
