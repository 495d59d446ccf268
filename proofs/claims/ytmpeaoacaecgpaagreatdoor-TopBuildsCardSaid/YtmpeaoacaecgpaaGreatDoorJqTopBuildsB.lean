/- What the frame of a law asks of the program: what it names. -/
import Derived.Test.YtmpeaoacaecgpaaGreatDoorRows
import Derived.Test.YtmpeaoacaecgpaaGreatDoorChecked
import Derived.ProofKit
import Derived.KernelRfl
import Derived.LaidMore
import Derived.Lay
import Derived.SevenTiedAt
import Derived.Stop.Joined
namespace Go.Proofs.YtmpeaoacaecgpaaGreatDoor.JqTopBuildsB
open Go.ChangeShapes Go.WideShapes Go.RowKit
theorem recs : ((Rows.topBuildsRow.recurses == Tryz.prog.recurses 9)) = true := by kernel_rfl
theorem named : ((Rows.topBuildsRow.named == Tryz.prog.varsNamed 9)) = true := by kernel_rfl
end Go.Proofs.YtmpeaoacaecgpaaGreatDoor.JqTopBuildsB
