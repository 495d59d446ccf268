/- What the frame of a law asks of the program: what it hears, and where it looks. -/
import Derived.Test.YtmbpmbapelfobaaGreatDoorRows
import Derived.Test.YtmbpmbapelfobaaGreatDoorChecked
import Derived.ProofKit
import Derived.KernelRfl
import Derived.LaidMore
import Derived.Lay
import Derived.SevenTiedAt
import Derived.Stop.Joined
namespace Go.Proofs.YtmbpmbapelfobaaGreatDoor.JpC
open Go.ChangeShapes Go.WideShapes Go.RowKit
theorem heard : (Tryz.prog.stopsHeard) = true := by kernel_rfl
theorem looks : false = Tryz.prog.looks [] := by kernel_rfl
end Go.Proofs.YtmbpmbapelfobaaGreatDoor.JpC
