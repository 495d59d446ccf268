/- What the frame of a law asks of the program: how it was made. -/
import Derived.Test.YtgockiomacchoaaGreatDoorRows
import Derived.Test.YtgockiomacchoaaGreatDoorChecked
import Derived.ProofKit
import Derived.KernelRfl
import Derived.LaidMore
import Derived.Lay
import Derived.SevenTiedAt
import Derived.Stop.Joined
namespace Go.Proofs.YtgockiomacchoaaGreatDoor.JqParseBesideC
open Go.ChangeShapes Go.WideShapes Go.RowKit
theorem lifted : ((Rows.parseBesideRow.lifted == Tryz.prog.liftsFinal)) = true := by kernel_rfl
theorem plainK : ((Rows.parseBesideRow.plainKeys == Tryz.prog.plainKeys)) = true := by kernel_rfl
end Go.Proofs.YtgockiomacchoaaGreatDoor.JqParseBesideC
