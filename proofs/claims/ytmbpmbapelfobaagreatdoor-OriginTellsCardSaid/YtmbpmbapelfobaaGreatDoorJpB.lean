/- What the frame of a law asks of the program: it may be entered. -/
import Derived.Test.YtmbpmbapelfobaaGreatDoorRows
import Derived.Test.YtmbpmbapelfobaaGreatDoorChecked
import Derived.ProofKit
import Derived.KernelRfl
import Derived.LaidMore
import Derived.Lay
import Derived.SevenTiedAt
import Derived.Stop.Joined
namespace Go.Proofs.YtmbpmbapelfobaaGreatDoor.JpB
open Go.ChangeShapes Go.WideShapes Go.RowKit
theorem enter : (Tryz.prog.mayEnter) = true := by kernel_rfl
end Go.Proofs.YtmbpmbapelfobaaGreatDoor.JpB
