/- What the frame of a law asks of the program: what it names. -/
import Derived.Test.YtegpfgccaminkaaGreatDoorRows
import Derived.Test.YtegpfgccaminkaaGreatDoorChecked
import Derived.ProofKit
import Derived.KernelRfl
import Derived.LaidMore
import Derived.Lay
import Derived.SevenTiedAt
import Derived.Stop.Joined
namespace Go.Proofs.YtegpfgccaminkaaGreatDoor.JqStackQuotaB
open Go.ChangeShapes Go.WideShapes Go.RowKit
theorem recs : ((Rows.stackQuotaRow.recurses == Tryz.prog.recurses 3)) = true := by kernel_rfl
theorem named : ((Rows.stackQuotaRow.named == Tryz.prog.varsNamed 3)) = true := by kernel_rfl
end Go.Proofs.YtegpfgccaminkaaGreatDoor.JqStackQuotaB
