/- What the frame of a law asks of the program: its main. -/
import Derived.Test.YtegpfgccaminkaaGreatDoorRows
import Derived.Test.YtegpfgccaminkaaGreatDoorChecked
import Derived.ProofKit
import Derived.KernelRfl
import Derived.LaidMore
import Derived.Lay
import Derived.SevenTiedAt
import Derived.Stop.Joined
namespace Go.Proofs.YtegpfgccaminkaaGreatDoor.JpD
open Go.ChangeShapes Go.WideShapes Go.RowKit
theorem mainIs : Tryz.prog.mainIs = some (true, "bf3bfa28f8c393bac6c7122f614d5174ffed082527a77b79993f2c7558c21163".toList) := by kernel_rfl
end Go.Proofs.YtegpfgccaminkaaGreatDoor.JpD
