/- What the frame of a law asks of the program: what it names. -/
import Derived.Test.YtaeohdlnidnofaaGreatDoorRows
import Derived.Test.YtaeohdlnidnofaaGreatDoorChecked
import Derived.ProofKit
import Derived.KernelRfl
import Derived.LaidMore
import Derived.Lay
import Derived.SevenTiedAt
import Derived.Stop.Joined
namespace Go.Proofs.YtaeohdlnidnofaaGreatDoor.JqParseReadsB
open Go.ChangeShapes Go.WideShapes Go.RowKit
theorem recs : ((Rows.parseReadsRow.recurses == Tryz.prog.recurses 3)) = true := by kernel_rfl
theorem named : ((Rows.parseReadsRow.named == Tryz.prog.varsNamed 3)) = true := by kernel_rfl
end Go.Proofs.YtaeohdlnidnofaaGreatDoor.JqParseReadsB
