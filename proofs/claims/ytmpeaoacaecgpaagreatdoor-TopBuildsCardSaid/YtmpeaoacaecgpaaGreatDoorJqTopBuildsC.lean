/- What the frame of a law asks of the program: how it was made. -/
import Derived.Test.YtmpeaoacaecgpaaGreatDoorRows
import Derived.Test.YtmpeaoacaecgpaaGreatDoorChecked
import Derived.ProofKit
import Derived.KernelRfl
import Derived.LaidMore
import Derived.Lay
import Derived.SevenTiedAt
import Derived.Stop.Joined
namespace Go.Proofs.YtmpeaoacaecgpaaGreatDoor.JqTopBuildsC
open Go.ChangeShapes Go.WideShapes Go.RowKit
theorem lifted : ((Rows.topBuildsRow.lifted == Tryz.prog.liftsFinal)) = true := by kernel_rfl
theorem plainK : ((Rows.topBuildsRow.plainKeys == Tryz.prog.plainKeys)) = true := by kernel_rfl
end Go.Proofs.YtmpeaoacaecgpaaGreatDoor.JqTopBuildsC
