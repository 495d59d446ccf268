/- The laws' 'awake' of layer 3 answers true. -/
import Derived.Test.YtflklgcnjliipaaB64E
import Derived.Lib.SlBytesConst
namespace Go.Proofs.Ytflklgcnjliipaa.B64W
open Go.RowKit Go.Proofs.Ytflklgcnjliipaa.Base Go.Proofs.Ytflklgcnjliipaa.Base2 Go.Proofs.Ytflklgcnjliipaa.B64D Go.Proofs.Ytflklgcnjliipaa.B64E

theorem awake_any (w : World) : Calls Try.prog 8 #[] w fun e w' => e = .returned (.bool true) ∧ Below w.heap.size w w' := by
  have kc := fun (w : World) (C : Array Value) (n c : Nat) => Lib.run_convert_bytes_const (P := Try.prog) w 22 5 C n c Try.underlying22 Try.underlying5
  have hd : dOk [32, 89, 32, 81, 32] = true := by decide
  have hb : dB [32, 89, 32, 81, 32] = [97] := by decide
  have he : e64 [97] = [89, 81, 61, 61] := by decide
  have HD := hid hd
  have HB := hid hb
  have HE := hid he
  clear hd hb he
  have e1 : ((strOf [97]).toList == [97]) = true := by rw [strOf, ByteArray.toList_mk]; decide
  have e2 : ((strOf [89, 81, 61, 61]).toList == [89, 81, 61, 61]) = true := by rw [strOf, ByteArray.toList_mk]; decide
  go_enter Try.func8, Try.ntmps8
  go_wp2_with fail
  refine (decode_any (strOf [32, 89, 32, 81, 32]) _ (by decide)).mono ?_
  rintro e w1 ⟨v, rfl, hown, hb1⟩
  rw [show (strOf [32, 89, 32, 81, 32]).data.toList = [32, 89, 32, 81, 32] from rfl, HB.out, show ([97] : List UInt8).length = 1 from rfl] at hown
  rw [show (strOf [32, 89, 32, 81, 32]).data.toList = [32, 89, 32, 81, 32] from rfl, HD.out]
  obtain ⟨A, c, rfl, _, _, hrd⟩ := owns_form hown
  have hs := run_string_of 22 9 5 Try.underlying22 Try.underlying5 Try.underlying9 _ c hrd
  clear hown
  go_wp2_with fail
  refine (encode_any _ _ _ [97] _ (rds_const w1 [97] 5 _) (by decide) (by decide)).mono ?_
  rintro e w2 ⟨rfl, hb2⟩
  rw [HE.out]
  go_wp2_with fail
  go_ret
  exact ⟨rfl, bel hb1 (((Below.refl _ _).alloc (Nat.le_refl _) _).trans (hb2.mono (by simp)))⟩
end Go.Proofs.Ytflklgcnjliipaa.B64W
