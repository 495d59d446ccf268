/- What the frame of a law asks of the program: what the function does in place. -/
import Derived.Test.YtmpeaoacaecgpaaGreatDoorRows
import Derived.Test.YtmpeaoacaecgpaaGreatDoorChecked
import Derived.ProofKit
import Derived.KernelRfl
import Derived.LaidMore
import Derived.Lay
import Derived.SevenTiedAt
import Derived.Stop.Joined
namespace Go.Proofs.YtmpeaoacaecgpaaGreatDoor.JqBuildPlainA
open Go.ChangeShapes Go.WideShapes Go.RowKit
theorem inPlace : ((Rows.buildPlainRow.inPlace == Tryz.prog.inPlace 7)) = true := by kernel_rfl
theorem unf : ((Rows.buildPlainRow.unfollowed == Tryz.prog.unfollowed 7)) = true := by kernel_rfl
end Go.Proofs.YtmpeaoacaecgpaaGreatDoor.JqBuildPlainA
