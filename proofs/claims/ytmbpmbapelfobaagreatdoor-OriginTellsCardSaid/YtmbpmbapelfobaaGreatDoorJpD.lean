/- What the frame of a law asks of the program: its main. -/
import Derived.Test.YtmbpmbapelfobaaGreatDoorRows
import Derived.Test.YtmbpmbapelfobaaGreatDoorChecked
import Derived.ProofKit
import Derived.KernelRfl
import Derived.LaidMore
import Derived.Lay
import Derived.SevenTiedAt
import Derived.Stop.Joined
namespace Go.Proofs.YtmbpmbapelfobaaGreatDoor.JpD
open Go.ChangeShapes Go.WideShapes Go.RowKit
theorem mainIs : Tryz.prog.mainIs = some (true, "7fa70a5599db8f0ad09c97fab5f636fd4553c9566856fae9967f6f181301d893".toList) := by kernel_rfl
end Go.Proofs.YtmbpmbapelfobaaGreatDoor.JpD
