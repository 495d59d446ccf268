/- What the frame of a law asks of the program: what the function does in place. -/
import Derived.Test.YtegpfgccaminkaaGreatDoorRows
import Derived.Test.YtegpfgccaminkaaGreatDoorChecked
import Derived.ProofKit
import Derived.KernelRfl
import Derived.LaidMore
import Derived.Lay
import Derived.SevenTiedAt
import Derived.Stop.Joined
namespace Go.Proofs.YtegpfgccaminkaaGreatDoor.JqStackGoesA
open Go.ChangeShapes Go.WideShapes Go.RowKit
theorem inPlace : ((Rows.stackGoesRow.inPlace == Tryz.prog.inPlace 5)) = true := by kernel_rfl
theorem unf : ((Rows.stackGoesRow.unfollowed == Tryz.prog.unfollowed 5)) = true := by kernel_rfl
end Go.Proofs.YtegpfgccaminkaaGreatDoor.JqStackGoesA
