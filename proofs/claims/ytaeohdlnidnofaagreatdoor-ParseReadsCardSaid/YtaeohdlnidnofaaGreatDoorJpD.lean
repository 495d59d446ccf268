/- What the frame of a law asks of the program: its main. -/
import Derived.Test.YtaeohdlnidnofaaGreatDoorRows
import Derived.Test.YtaeohdlnidnofaaGreatDoorChecked
import Derived.ProofKit
import Derived.KernelRfl
import Derived.LaidMore
import Derived.Lay
import Derived.SevenTiedAt
import Derived.Stop.Joined
namespace Go.Proofs.YtaeohdlnidnofaaGreatDoor.JpD
open Go.ChangeShapes Go.WideShapes Go.RowKit
theorem mainIs : Tryz.prog.mainIs = some (true, "be9691ef60345975848fe28fbb52cc579eab42d22d92fa4f8fb9fc714646cf10".toList) := by kernel_rfl
end Go.Proofs.YtaeohdlnidnofaaGreatDoor.JpD
