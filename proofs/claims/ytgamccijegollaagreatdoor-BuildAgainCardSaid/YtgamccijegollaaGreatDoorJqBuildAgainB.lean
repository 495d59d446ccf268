/- What the frame of a law asks of the program: what it names. -/
import Derived.Test.YtgamccijegollaaGreatDoorRows
import Derived.Test.YtgamccijegollaaGreatDoorChecked
import Derived.ProofKit
import Derived.KernelRfl
import Derived.LaidMore
import Derived.Lay
import Derived.SevenTiedAt
import Derived.Stop.Joined
namespace Go.Proofs.YtgamccijegollaaGreatDoor.JqBuildAgainB
open Go.ChangeShapes Go.WideShapes Go.RowKit
theorem recs : ((Rows.buildAgainRow.recurses == Tryz.prog.recurses 7)) = true := by kernel_rfl
theorem named : ((Rows.buildAgainRow.named == Tryz.prog.varsNamed 7)) = true := by kernel_rfl
end Go.Proofs.YtgamccijegollaaGreatDoor.JqBuildAgainB
