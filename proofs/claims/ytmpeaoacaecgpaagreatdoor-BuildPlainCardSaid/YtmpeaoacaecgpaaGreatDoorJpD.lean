/- What the frame of a law asks of the program: its main. -/
import Derived.Test.YtmpeaoacaecgpaaGreatDoorRows
import Derived.Test.YtmpeaoacaecgpaaGreatDoorChecked
import Derived.ProofKit
import Derived.KernelRfl
import Derived.LaidMore
import Derived.Lay
import Derived.SevenTiedAt
import Derived.Stop.Joined
namespace Go.Proofs.YtmpeaoacaecgpaaGreatDoor.JpD
open Go.ChangeShapes Go.WideShapes Go.RowKit
theorem mainIs : Tryz.prog.mainIs = some (true, "aed2654326f857fb339382ba01280bb594dfbaa8f8647c5d8bdc772b487ccf30".toList) := by kernel_rfl
end Go.Proofs.YtmpeaoacaecgpaaGreatDoor.JpD
