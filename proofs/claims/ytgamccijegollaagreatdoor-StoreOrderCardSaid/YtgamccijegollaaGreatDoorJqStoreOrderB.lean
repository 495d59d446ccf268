/- What the frame of a law asks of the program: what it names. -/
import Derived.Test.YtgamccijegollaaGreatDoorRows
import Derived.Test.YtgamccijegollaaGreatDoorChecked
import Derived.ProofKit
import Derived.KernelRfl
import Derived.LaidMore
import Derived.Lay
import Derived.SevenTiedAt
import Derived.Stop.Joined
namespace Go.Proofs.YtgamccijegollaaGreatDoor.JqStoreOrderB
open Go.ChangeShapes Go.WideShapes Go.RowKit
theorem recs : ((Rows.storeOrderRow.recurses == Tryz.prog.recurses 8)) = true := by kernel_rfl
theorem named : ((Rows.storeOrderRow.named == Tryz.prog.varsNamed 8)) = true := by kernel_rfl
end Go.Proofs.YtgamccijegollaaGreatDoor.JqStoreOrderB
