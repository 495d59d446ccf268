/- What the frame of a law asks of the program: what it names. -/
import Derived.Test.YtgamccijegollaaGreatDoorRows
import Derived.Test.YtgamccijegollaaGreatDoorChecked
import Derived.ProofKit
import Derived.KernelRfl
import Derived.LaidMore
import Derived.Lay
import Derived.SevenTiedAt
import Derived.Stop.Joined
namespace Go.Proofs.YtgamccijegollaaGreatDoor.JqTopRebuildsB
open Go.ChangeShapes Go.WideShapes Go.RowKit
theorem recs : ((Rows.topRebuildsRow.recurses == Tryz.prog.recurses 11)) = true := by kernel_rfl
theorem named : ((Rows.topRebuildsRow.named == Tryz.prog.varsNamed 11)) = true := by kernel_rfl
end Go.Proofs.YtgamccijegollaaGreatDoor.JqTopRebuildsB
