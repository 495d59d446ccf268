/- What the frame of a law asks of the program: what it names. -/
import Derived.Test.YtgockiomacchoaaGreatDoorRows
import Derived.Test.YtgockiomacchoaaGreatDoorChecked
import Derived.ProofKit
import Derived.KernelRfl
import Derived.LaidMore
import Derived.Lay
import Derived.SevenTiedAt
import Derived.Stop.Joined
namespace Go.Proofs.YtgockiomacchoaaGreatDoor.JqParseBesideB
open Go.ChangeShapes Go.WideShapes Go.RowKit
theorem recs : ((Rows.parseBesideRow.recurses == Tryz.prog.recurses 3)) = true := by kernel_rfl
theorem named : ((Rows.parseBesideRow.named == Tryz.prog.varsNamed 3)) = true := by kernel_rfl
end Go.Proofs.YtgockiomacchoaaGreatDoor.JqParseBesideB
