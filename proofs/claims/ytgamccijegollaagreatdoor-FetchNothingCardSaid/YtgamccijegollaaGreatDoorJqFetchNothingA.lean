/- What the frame of a law asks of the program: what the function does in place. -/
import Derived.Test.YtgamccijegollaaGreatDoorRows
import Derived.Test.YtgamccijegollaaGreatDoorChecked
import Derived.ProofKit
import Derived.KernelRfl
import Derived.LaidMore
import Derived.Lay
import Derived.SevenTiedAt
import Derived.Stop.Joined
namespace Go.Proofs.YtgamccijegollaaGreatDoor.JqFetchNothingA
open Go.ChangeShapes Go.WideShapes Go.RowKit
theorem inPlace : ((Rows.fetchNothingRow.inPlace == Tryz.prog.inPlace 10)) = true := by kernel_rfl
theorem unf : ((Rows.fetchNothingRow.unfollowed == Tryz.prog.unfollowed 10)) = true := by kernel_rfl
end Go.Proofs.YtgamccijegollaaGreatDoor.JqFetchNothingA
