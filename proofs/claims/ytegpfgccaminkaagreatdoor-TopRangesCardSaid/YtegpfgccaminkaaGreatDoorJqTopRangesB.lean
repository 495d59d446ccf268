/- What the frame of a law asks of the program: what it names. -/
import Derived.Test.YtegpfgccaminkaaGreatDoorRows
import Derived.Test.YtegpfgccaminkaaGreatDoorChecked
import Derived.ProofKit
import Derived.KernelRfl
import Derived.LaidMore
import Derived.Lay
import Derived.SevenTiedAt
import Derived.Stop.Joined
namespace Go.Proofs.YtegpfgccaminkaaGreatDoor.JqTopRangesB
open Go.ChangeShapes Go.WideShapes Go.RowKit
theorem recs : ((Rows.topRangesRow.recurses == Tryz.prog.recurses 7)) = true := by kernel_rfl
theorem named : ((Rows.topRangesRow.named == Tryz.prog.varsNamed 7)) = true := by kernel_rfl
end Go.Proofs.YtegpfgccaminkaaGreatDoor.JqTopRangesB
