/- The laws' 'awake' of layer 4 answers true. -/
import Derived.Test.YtnaeamnbdljcaaaDoorTokT
import Derived.Test.YtnaeamnbdljcaaaDoorTokS
import Derived.Test.YtnaeamnbdljcaaaDoorTokR
namespace Go.Proofs.YtnaeamnbdljcaaaDoor.TokW
open Go.RowKit Go.Proofs.YtnaeamnbdljcaaaDoor.Base Go.Proofs.YtnaeamnbdljcaaaDoor.Base2 Go.Proofs.YtnaeamnbdljcaaaDoor.TokP Go.Proofs.YtnaeamnbdljcaaaDoor.TokQ Go.Proofs.YtnaeamnbdljcaaaDoor.TokA Go.Proofs.YtnaeamnbdljcaaaDoor.TokT

set_option maxRecDepth 100000 in
theorem awake_any (w : World) : Calls Tryd.prog 8 #[] w fun e w' => e = .returned (.bool true) ∧ Below w.heap.size w w' := by
  have HQ : Hid (qval [34, 97, 92, 34, 98, 34, 99] = ([97, 34, 98], 6)) := by show _ = _; decide
  have HI : Hid (isTok [97] = true) := by show _ = _; decide
  have HT : Hid (trm [32, 97, 32] = [97]) := by show _ = _; decide
  have e1 : ((strOf [97, 34, 98]).toList == [97, 34, 98]) = true := by rw [strOf, ByteArray.toList_mk]; decide
  have e2 : ((strOf [97]).toList == [97]) = true := by rw [strOf, ByteArray.toList_mk]; decide
  go_enter Tryd.func8, Tryd.ntmps8
  go_wp2_with fail
  refine (quoted_any (strOf [34, 97, 92, 34, 98, 34, 99]) _ (by decide)).mono ?_
  rintro e w1 ⟨rfl, hb1⟩
  rw [show qval (strOf [34, 97, 92, 34, 98, 34, 99]).data.toList = ([97, 34, 98], 6) from HQ.out]
  go_wp2_with fail
  refine (is_any (strOf [97]) _ (by decide)).mono ?_
  rintro e w2 ⟨rfl, rfl⟩
  rw [show isTok (strOf [97]).data.toList = true from HI.out]
  go_wp2_with fail
  refine (trim_any (strOf [32, 97, 32]) _ (by decide)).mono ?_
  rintro e w2 ⟨rfl, hb2⟩
  rw [show trm (strOf [32, 97, 32]).data.toList = [97] from HT.out]
  go_wp2_with fail
  go_ret
  exact ⟨rfl, bel hb1 hb2⟩
end Go.Proofs.YtnaeamnbdljcaaaDoor.TokW
