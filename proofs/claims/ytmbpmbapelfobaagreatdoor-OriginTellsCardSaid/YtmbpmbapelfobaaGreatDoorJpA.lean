/- What the frame of a law asks of the program: its layout. -/
import Derived.Test.YtmbpmbapelfobaaGreatDoorRows
import Derived.Test.YtmbpmbapelfobaaGreatDoorChecked
import Derived.ProofKit
import Derived.KernelRfl
import Derived.LaidMore
import Derived.Lay
import Derived.SevenTiedAt
import Derived.Stop.Joined
namespace Go.Proofs.YtmbpmbapelfobaaGreatDoor.JpA
open Go.ChangeShapes Go.WideShapes Go.RowKit
theorem laidOut : (laidOutB Tryz.prog) = true := by kernel_rfl
theorem maps0 : (mapsRowed Tryz.prog) = true := by kernel_rfl
theorem stops : ((Tryz.prog.stops == [])) = true := by kernel_rfl
theorem knobs : ((Tryz.prog.stopKnobs == [])) = true := by kernel_rfl
end Go.Proofs.YtmbpmbapelfobaaGreatDoor.JpA
