/- What the frame of a law asks of the program: what it names. -/
import Derived.Test.YtgamccijegollaaGreatDoorRows
import Derived.Test.YtgamccijegollaaGreatDoorChecked
import Derived.ProofKit
import Derived.KernelRfl
import Derived.LaidMore
import Derived.Lay
import Derived.SevenTiedAt
import Derived.Stop.Joined
namespace Go.Proofs.YtgamccijegollaaGreatDoor.JqTopInlineB
open Go.ChangeShapes Go.WideShapes Go.RowKit
theorem recs : ((Rows.topInlineRow.recurses == Tryz.prog.recurses 12)) = true := by kernel_rfl
theorem named : ((Rows.topInlineRow.named == Tryz.prog.varsNamed 12)) = true := by kernel_rfl
end Go.Proofs.YtgamccijegollaaGreatDoor.JqTopInlineB
