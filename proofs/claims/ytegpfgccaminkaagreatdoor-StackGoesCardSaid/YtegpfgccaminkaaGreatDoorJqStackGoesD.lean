/- What the frame of a law asks of the program: how it was made, too. -/
import Derived.Test.YtegpfgccaminkaaGreatDoorRows
import Derived.Test.YtegpfgccaminkaaGreatDoorChecked
import Derived.ProofKit
import Derived.KernelRfl
import Derived.LaidMore
import Derived.Lay
import Derived.SevenTiedAt
import Derived.Stop.Joined
namespace Go.Proofs.YtegpfgccaminkaaGreatDoor.JqStackGoesD
open Go.ChangeShapes Go.WideShapes Go.RowKit
theorem make : ((Tryz.prog.make == some Rows.stackGoesRow.make)) = true := by kernel_rfl
end Go.Proofs.YtegpfgccaminkaaGreatDoor.JqStackGoesD
