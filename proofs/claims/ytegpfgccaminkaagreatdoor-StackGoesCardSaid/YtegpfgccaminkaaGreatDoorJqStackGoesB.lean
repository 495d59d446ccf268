/- What the frame of a law asks of the program: what it names. -/
import Derived.Test.YtegpfgccaminkaaGreatDoorRows
import Derived.Test.YtegpfgccaminkaaGreatDoorChecked
import Derived.ProofKit
import Derived.KernelRfl
import Derived.LaidMore
import Derived.Lay
import Derived.SevenTiedAt
import Derived.Stop.Joined
namespace Go.Proofs.YtegpfgccaminkaaGreatDoor.JqStackGoesB
open Go.ChangeShapes Go.WideShapes Go.RowKit
theorem recs : ((Rows.stackGoesRow.recurses == Tryz.prog.recurses 5)) = true := by kernel_rfl
theorem named : ((Rows.stackGoesRow.named == Tryz.prog.varsNamed 5)) = true := by kernel_rfl
end Go.Proofs.YtegpfgccaminkaaGreatDoor.JqStackGoesB
