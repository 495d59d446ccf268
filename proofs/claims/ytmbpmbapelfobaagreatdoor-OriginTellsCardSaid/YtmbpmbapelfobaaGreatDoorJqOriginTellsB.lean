/- What the frame of a law asks of the program: what it names. -/
import Derived.Test.YtmbpmbapelfobaaGreatDoorRows
import Derived.Test.YtmbpmbapelfobaaGreatDoorChecked
import Derived.ProofKit
import Derived.KernelRfl
import Derived.LaidMore
import Derived.Lay
import Derived.SevenTiedAt
import Derived.Stop.Joined
namespace Go.Proofs.YtmbpmbapelfobaaGreatDoor.JqOriginTellsB
open Go.ChangeShapes Go.WideShapes Go.RowKit
theorem recs : ((Rows.originTellsRow.recurses == Tryz.prog.recurses 3)) = true := by kernel_rfl
theorem named : ((Rows.originTellsRow.named == Tryz.prog.varsNamed 3)) = true := by kernel_rfl
end Go.Proofs.YtmbpmbapelfobaaGreatDoor.JqOriginTellsB
