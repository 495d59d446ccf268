/- What the frame of a law asks of the program: what it goes by. -/
import Derived.Test.YtmpeaoacaecgpaaGreatDoorRows
import Derived.Test.YtmpeaoacaecgpaaGreatDoorChecked
import Derived.ProofKit
import Derived.KernelRfl
import Derived.LaidMore
import Derived.Lay
import Derived.SevenTiedAt
import Derived.Stop.Joined
namespace Go.Proofs.YtmpeaoacaecgpaaGreatDoor.JqBuildPlainE
open Go.ChangeShapes Go.WideShapes Go.RowKit
theorem goes : false = Rows.buildPlainRow.goesBy Tryz.prog := by kernel_rfl
theorem byText : Rows.buildPlainRow.wfByText (OpenSpec.ofChange Rows.buildPlainSpec) = true := by kernel_rfl
end Go.Proofs.YtmpeaoacaecgpaaGreatDoor.JqBuildPlainE
