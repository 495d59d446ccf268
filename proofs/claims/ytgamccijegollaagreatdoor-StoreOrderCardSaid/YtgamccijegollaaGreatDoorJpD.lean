/- What the frame of a law asks of the program: its main. -/
import Derived.Test.YtgamccijegollaaGreatDoorRows
import Derived.Test.YtgamccijegollaaGreatDoorChecked
import Derived.ProofKit
import Derived.KernelRfl
import Derived.LaidMore
import Derived.Lay
import Derived.SevenTiedAt
import Derived.Stop.Joined
namespace Go.Proofs.YtgamccijegollaaGreatDoor.JpD
open Go.ChangeShapes Go.WideShapes Go.RowKit
theorem mainIs : Tryz.prog.mainIs = some (true, "4729eb681d6e033789bf38dfcd2d340e86865f8974a48d2fce7ced59fa130860".toList) := by kernel_rfl
end Go.Proofs.YtgamccijegollaaGreatDoor.JpD
