/- What the frame of a law asks of the program: how it was made, too. -/
import Derived.Test.YtmbpmbapelfobaaGreatDoorRows
import Derived.Test.YtmbpmbapelfobaaGreatDoorChecked
import Derived.ProofKit
import Derived.KernelRfl
import Derived.LaidMore
import Derived.Lay
import Derived.SevenTiedAt
import Derived.Stop.Joined
namespace Go.Proofs.YtmbpmbapelfobaaGreatDoor.JqOriginTellsD
open Go.ChangeShapes Go.WideShapes Go.RowKit
theorem make : ((Tryz.prog.make == some Rows.originTellsRow.make)) = true := by kernel_rfl
end Go.Proofs.YtmbpmbapelfobaaGreatDoor.JqOriginTellsD
