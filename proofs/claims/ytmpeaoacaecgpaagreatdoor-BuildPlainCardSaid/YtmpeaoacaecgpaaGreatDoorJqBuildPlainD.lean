/- What the frame of a law asks of the program: how it was made, too. -/
import Derived.Test.YtmpeaoacaecgpaaGreatDoorRows
import Derived.Test.YtmpeaoacaecgpaaGreatDoorChecked
import Derived.ProofKit
import Derived.KernelRfl
import Derived.LaidMore
import Derived.Lay
import Derived.SevenTiedAt
import Derived.Stop.Joined
namespace Go.Proofs.YtmpeaoacaecgpaaGreatDoor.JqBuildPlainD
open Go.ChangeShapes Go.WideShapes Go.RowKit
theorem make : ((Tryz.prog.make == some Rows.buildPlainRow.make)) = true := by kernel_rfl
end Go.Proofs.YtmpeaoacaecgpaaGreatDoor.JqBuildPlainD
