/- What the frame of a law asks of the program: how it was made. -/
import Derived.Test.YtmbpmbapelfobaaGreatDoorRows
import Derived.Test.YtmbpmbapelfobaaGreatDoorChecked
import Derived.ProofKit
import Derived.KernelRfl
import Derived.LaidMore
import Derived.Lay
import Derived.SevenTiedAt
import Derived.Stop.Joined
namespace Go.Proofs.YtmbpmbapelfobaaGreatDoor.JqOriginTellsC
open Go.ChangeShapes Go.WideShapes Go.RowKit
theorem lifted : ((Rows.originTellsRow.lifted == Tryz.prog.liftsFinal)) = true := by kernel_rfl
theorem plainK : ((Rows.originTellsRow.plainKeys == Tryz.prog.plainKeys)) = true := by kernel_rfl
end Go.Proofs.YtmbpmbapelfobaaGreatDoor.JqOriginTellsC
