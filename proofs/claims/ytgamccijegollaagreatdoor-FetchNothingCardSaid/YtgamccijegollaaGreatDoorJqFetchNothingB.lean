/- What the frame of a law asks of the program: what it names. -/
import Derived.Test.YtgamccijegollaaGreatDoorRows
import Derived.Test.YtgamccijegollaaGreatDoorChecked
import Derived.ProofKit
import Derived.KernelRfl
import Derived.LaidMore
import Derived.Lay
import Derived.SevenTiedAt
import Derived.Stop.Joined
namespace Go.Proofs.YtgamccijegollaaGreatDoor.JqFetchNothingB
open Go.ChangeShapes Go.WideShapes Go.RowKit
theorem recs : ((Rows.fetchNothingRow.recurses == Tryz.prog.recurses 10)) = true := by kernel_rfl
theorem named : ((Rows.fetchNothingRow.named == Tryz.prog.varsNamed 10)) = true := by kernel_rfl
end Go.Proofs.YtgamccijegollaaGreatDoor.JqFetchNothingB
