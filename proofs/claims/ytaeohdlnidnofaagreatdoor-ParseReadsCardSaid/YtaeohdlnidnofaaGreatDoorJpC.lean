/- What the frame of a law asks of the program: what it hears, and where it looks. -/
import Derived.Test.YtaeohdlnidnofaaGreatDoorRows
import Derived.Test.YtaeohdlnidnofaaGreatDoorChecked
import Derived.ProofKit
import Derived.KernelRfl
import Derived.LaidMore
import Derived.Lay
import Derived.SevenTiedAt
import Derived.Stop.Joined
namespace Go.Proofs.YtaeohdlnidnofaaGreatDoor.JpC
open Go.ChangeShapes Go.WideShapes Go.RowKit
theorem heard : (Tryz.prog.stopsHeard) = true := by kernel_rfl
theorem looks : false = Tryz.prog.looks [] := by kernel_rfl
end Go.Proofs.YtaeohdlnidnofaaGreatDoor.JpC
