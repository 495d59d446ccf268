/- What the frame of a law asks of the program: what the function does in place. -/
import Derived.Test.YtmpeaoacaecgpaaGreatDoorRows
import Derived.Test.YtmpeaoacaecgpaaGreatDoorChecked
import Derived.ProofKit
import Derived.KernelRfl
import Derived.LaidMore
import Derived.Lay
import Derived.SevenTiedAt
import Derived.Stop.Joined
namespace Go.Proofs.YtmpeaoacaecgpaaGreatDoor.JqStackBackA
open Go.ChangeShapes Go.WideShapes Go.RowKit
theorem inPlace : ((Rows.stackBackRow.inPlace == Tryz.prog.inPlace 8)) = true := by kernel_rfl
theorem unf : ((Rows.stackBackRow.unfollowed == Tryz.prog.unfollowed 8)) = true := by kernel_rfl
end Go.Proofs.YtmpeaoacaecgpaaGreatDoor.JqStackBackA
