/- The laws' 'awake' of layer 1 answers true. -/
import Derived.Test.YtnkdejeapgichaaUtfA
import Derived.Test.YtnkdejeapgichaaUtfD
import Derived.Test.YtnkdejeapgichaaUtfE
namespace Go.Proofs.Ytnkdejeapgichaa.UtfW
open Go.RowKit Go.Proofs.Ytnkdejeapgichaa.Base

theorem one_euro (w : World) : Rds (w.alloc (.cells #[.int .i32 8364] 21)) (some ⟨w.heap.size, 0, none⟩) 1 (icells .i32 [8364]) :=
  Rds.of_spot rfl (by simp) (fun j hj => by
    obtain rfl : j = 0 := by simp [icells] at hj; exact hj
    rw [World.cell?_alloc_mark]
    rfl)
theorem awake_any (w : World) : Calls Try.prog 9 #[] w fun e w' => e = .returned (.bool true) ∧ Below w.heap.size w w' := by
  have he : UtfE.enc [8364] = [226, 130, 172] := by decide
  have HE := hid he
  clear he
  have hE : ((strOf [226, 130, 172]).toList == [226, 130, 172]) = true := by rw [strOf, ByteArray.toList_mk]; decide
  go_enter Try.func9, Try.ntmps9
  go_wp2_with fail
  refine (UtfE.encode_any _ _ _ [8364] _ (one_euro w) (by intro r hr; simp at hr; subst hr; constructor <;> decide) (by decide)).mono ?_
  rintro e w1 ⟨v, rfl, hown, hb⟩
  rw [HE.out, show ([226, 130, 172] : List UInt8).length = 3 from rfl] at hown
  obtain ⟨A, c, rfl, _, _, hrd⟩ := owns_form hown
  have hs := run_string_of 22 9 5 Try.underlying22 Try.underlying5 Try.underlying9 _ c hrd
  have hl : UtfA.letter 97 = true := by decide
  have HL := hid hl
  clear hl
  go_wp2_with fail
  refine (UtfA.letter_any _ _).mono ?_
  rintro e w2 ⟨rfl, rfl⟩
  rw [HL.out]
  go_wp2_with fail
  refine (UtfR.valid_any none 0 0 [] _ (Rds.nil _) (by decide) (by decide)).mono ?_
  rintro e w2 ⟨rfl, hb2⟩
  go_wp2_with fail
  go_ret
  exact ⟨rfl, (((Below.refl _ _).alloc (Nat.le_refl _) _).trans (hb.mono (by simp))).trans (hb2.mono (by have := hb.size; simp at this; omega))⟩
end Go.Proofs.Ytnkdejeapgichaa.UtfW
