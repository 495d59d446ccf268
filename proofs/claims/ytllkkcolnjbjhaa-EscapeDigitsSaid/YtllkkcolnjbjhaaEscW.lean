/- The laws' 'awake' of layer 2 answers true. -/
import Derived.Test.YtllkkcolnjbjhaaEscD
import Derived.Lib.SlBytesConst
import Derived.Test.YtllkkcolnjbjhaaBase2
namespace Go.Proofs.Ytllkkcolnjbjhaa.EscW
open Go.RowKit Go.Proofs.Ytllkkcolnjbjhaa.Base Go.Proofs.Ytllkkcolnjbjhaa.Base2 Go.Proofs.Ytllkkcolnjbjhaa.EscI

theorem awake_any (w : World) : Calls Try.prog 12 #[] w fun e w' => e = .returned (.bool true) ∧ Below w.heap.size w w' := by
  have kc := fun (w : World) (C : Array Value) (n c : Nat) => Lib.run_convert_bytes_const (P := Try.prog) w 24 5 C n c Try.underlying24 Try.underlying5
  have he : EscE.enc 4 [97, 32, 98] = [97, 37, 50, 48, 98] := by decide
  have hd : EscD.dec [37, 52, 103, 37, 52, 49] = [37, 52, 103, 65] := by decide
  have hi : inS 2 ((35 : UInt8).toNat : Int) = true := by decide
  have HE := hid he
  have HD := hid hd
  have HI := hid hi
  clear he hd hi
  have e1 : ((strOf [97, 37, 50, 48, 98]).toList == [97, 37, 50, 48, 98]) = true := by rw [strOf, ByteArray.toList_mk]; decide
  have e2 : ((strOf [37, 52, 103, 65]).toList == [37, 52, 103, 65]) = true := by rw [strOf, ByteArray.toList_mk]; decide
  go_enter Try.func12, Try.ntmps12
  go_wp2_with fail
  refine (EscE.encode_any 4 _ _ _ [97, 32, 98] _ (rds_const w [97, 32, 98] 5 _) (by decide)).mono ?_
  rintro e w1 ⟨rfl, hb1⟩
  rw [HE.out]
  go_wp2_with fail
  refine (EscD.decode_any (strOf [37, 52, 103, 37, 52, 49]) _ (by decide)).mono ?_
  rintro e w2 ⟨v, rfl, hown, hb2⟩
  rw [show (strOf [37, 52, 103, 37, 52, 49]).data.toList = [37, 52, 103, 37, 52, 49] from rfl, HD.out, show ([37, 52, 103, 65] : List UInt8).length = 4 from rfl] at hown
  obtain ⟨A, c, rfl, _, _, hrd⟩ := owns_form hown
  have hs := run_string_of 24 9 5 Try.underlying24 Try.underlying5 Try.underlying9 _ c hrd
  go_wp2_with fail
  refine (in_any 2 35 _).mono ?_
  rintro e w3 ⟨rfl, rfl⟩
  rw [HI.out]
  go_wp2_with fail
  go_ret
  exact ⟨rfl, (((Below.refl _ _).alloc (Nat.le_refl _) _).trans (hb1.mono (by simp))).trans (hb2.mono (by have := hb1.size; simp at this; omega))⟩
end Go.Proofs.Ytllkkcolnjbjhaa.EscW
