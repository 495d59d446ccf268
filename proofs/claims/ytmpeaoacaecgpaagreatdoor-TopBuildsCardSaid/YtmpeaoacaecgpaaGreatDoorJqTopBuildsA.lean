/- What the frame of a law asks of the program: what the function does in place. -/
import Derived.Test.YtmpeaoacaecgpaaGreatDoorRows
import Derived.Test.YtmpeaoacaecgpaaGreatDoorChecked
import Derived.ProofKit
import Derived.KernelRfl
import Derived.LaidMore
import Derived.Lay
import Derived.SevenTiedAt
import Derived.Stop.Joined
namespace Go.Proofs.YtmpeaoacaecgpaaGreatDoor.JqTopBuildsA
open Go.ChangeShapes Go.WideShapes Go.RowKit
theorem inPlace : ((Rows.topBuildsRow.inPlace == Tryz.prog.inPlace 9)) = true := by kernel_rfl
theorem unf : ((Rows.topBuildsRow.unfollowed == Tryz.prog.unfollowed 9)) = true := by kernel_rfl
end Go.Proofs.YtmpeaoacaecgpaaGreatDoor.JqTopBuildsA
