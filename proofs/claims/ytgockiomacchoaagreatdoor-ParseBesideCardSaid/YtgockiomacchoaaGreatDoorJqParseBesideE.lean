/- What the frame of a law asks of the program: what it goes by. -/
import Derived.Test.YtgockiomacchoaaGreatDoorRows
import Derived.Test.YtgockiomacchoaaGreatDoorChecked
import Derived.ProofKit
import Derived.KernelRfl
import Derived.LaidMore
import Derived.Lay
import Derived.SevenTiedAt
import Derived.Stop.Joined
namespace Go.Proofs.YtgockiomacchoaaGreatDoor.JqParseBesideE
open Go.ChangeShapes Go.WideShapes Go.RowKit
theorem goes : false = Rows.parseBesideRow.goesBy Tryz.prog := by kernel_rfl
theorem byText : Rows.parseBesideRow.wfByText (OpenSpec.ofChange Rows.parseBesideSpec) = true := by kernel_rfl
end Go.Proofs.YtgockiomacchoaaGreatDoor.JqParseBesideE
