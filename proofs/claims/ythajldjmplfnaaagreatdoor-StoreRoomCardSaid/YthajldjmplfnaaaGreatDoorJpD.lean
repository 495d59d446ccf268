/- What the frame of a law asks of the program: its main. -/
import Derived.Test.YthajldjmplfnaaaGreatDoorRows
import Derived.Test.YthajldjmplfnaaaGreatDoorChecked
import Derived.ProofKit
import Derived.KernelRfl
import Derived.LaidMore
import Derived.Lay
import Derived.SevenTiedAt
import Derived.Stop.Joined
namespace Go.Proofs.YthajldjmplfnaaaGreatDoor.JpD
open Go.ChangeShapes Go.WideShapes Go.RowKit
theorem mainIs : Tryz.prog.mainIs = some (true, "10fa88a263dc2cc3afad74d24e2643d42b2675d8083366c8c87cdd2804f18058".toList) := by kernel_rfl
end Go.Proofs.YthajldjmplfnaaaGreatDoor.JpD
