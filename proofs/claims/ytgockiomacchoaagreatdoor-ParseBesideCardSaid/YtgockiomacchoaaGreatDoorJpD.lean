/- What the frame of a law asks of the program: its main. -/
import Derived.Test.YtgockiomacchoaaGreatDoorRows
import Derived.Test.YtgockiomacchoaaGreatDoorChecked
import Derived.ProofKit
import Derived.KernelRfl
import Derived.LaidMore
import Derived.Lay
import Derived.SevenTiedAt
import Derived.Stop.Joined
namespace Go.Proofs.YtgockiomacchoaaGreatDoor.JpD
open Go.ChangeShapes Go.WideShapes Go.RowKit
theorem mainIs : Tryz.prog.mainIs = some (true, "9c03c2e242a489de15f849561c31cd51ecc001eed013796fe4c1dcda8f59c070".toList) := by kernel_rfl
end Go.Proofs.YtgockiomacchoaaGreatDoor.JpD
