/- What the frame of a law asks of the program: what it goes by. -/
import Derived.Test.YtmpeaoacaecgpaaGreatDoorRows
import Derived.Test.YtmpeaoacaecgpaaGreatDoorChecked
import Derived.ProofKit
import Derived.KernelRfl
import Derived.LaidMore
import Derived.Lay
import Derived.SevenTiedAt
import Derived.Stop.Joined
namespace Go.Proofs.YtmpeaoacaecgpaaGreatDoor.JqTopBuildsE
open Go.ChangeShapes Go.WideShapes Go.RowKit
theorem goes : false = Rows.topBuildsRow.goesBy Tryz.prog := by kernel_rfl
theorem byText : Rows.topBuildsRow.wfByText (OpenSpec.ofChange Rows.topBuildsSpec) = true := by kernel_rfl
end Go.Proofs.YtmpeaoacaecgpaaGreatDoor.JqTopBuildsE
