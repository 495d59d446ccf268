/- The document's own Encode of layer 2, and its One. -/
import Derived.Test.YtleecmapaihhmaaDoorEscE
import Derived.Laws.IdiomStrings
set_option linter.unusedSimpArgs false
set_option linter.unusedVariables false
namespace Go.Proofs.YtleecmapaihhmaaDoor.EscR
open Go.RowKit Go.Proofs.YtleecmapaihhmaaDoor.Base Go.Proofs.YtleecmapaihhmaaDoor.EscI Go.Proofs.YtleecmapaihhmaaDoor.EscE

theorem three_row (a b c : UInt8) (w : World) : Rds (w.alloc (.cells #[.int .u8 (a.toNat : Int), .int .u8 (b.toNat : Int), .int .u8 (c.toNat : Int)] 5)) (some ⟨w.heap.size, 0, none⟩) 3 (bcells [a, b, c]) :=
  Rds.of_spot rfl (by simp) (fun j hj => by
    have hj' : j < 3 := hj
    rw [World.cell?_alloc_mark]
    have hcase : j = 0 ∨ j = 1 ∨ j = 2 := by omega
    rcases hcase with rfl | rfl | rfl <;> rfl)
attribute [local go_sem ↓] Go.wp_at_zero Go.wp_at_succ
theorem wrap16 (c : UInt8) : IntKind.u8.wrap ((c.toNat : Int) / 16) = (c.toNat : Int) / 16 := by
  have H : ∀ n : Fin 256, IntKind.u8.wrap ((n.val : Int) / 16) = (n.val : Int) / 16 := by decide +kernel
  exact H ⟨c.toNat, c.toNat_lt⟩
theorem tmod16 (c : UInt8) : (c.toNat : Int).tmod 16 = (c.toNat : Int) % 16 := Int.tmod_eq_emod_of_nonneg (by omega)
set_option maxRecDepth 100000 in
theorem one_any (c : UInt8) (w : World) : Calls Tryd.prog 31 #[.int .u8 (c.toNat : Int)] w fun e w' => e = .returned (.string (strOf [37, dig (c.toNat / 16), dig (c.toNat % 16)])) ∧ Below w.heap.size w w' := by
  have hc0 : (c.toNat : Int) < 256 := by have := c.toNat_lt; omega
  have q1 : (0 : Int) ≤ (c.toNat : Int) / 16 := by omega
  have q2 : (c.toNat : Int) / 16 < 16 := by omega
  have q3 : (0 : Int) ≤ (c.toNat : Int) % 16 := by omega
  have q4 : (c.toNat : Int) % 16 < 16 := by omega
  have q6 : ∀ h, (⟨#[48, 49, 50, 51, 52, 53, 54, 55, 56, 57, 65, 66, 67, 68, 69, 70]⟩ : ByteArray)[((c.toNat : Int) / 16).toNat]'h = dig (c.toNat / 16) := fun h => dig_at _ h
  have q7 : ∀ h, (⟨#[48, 49, 50, 51, 52, 53, 54, 55, 56, 57, 65, 66, 67, 68, 69, 70]⟩ : ByteArray)[((c.toNat : Int) % 16).toNat]'h = dig (c.toNat % 16) := fun h => dig_at _ h
  have hst := run_string_of 37 9 5 Tryd.underlying37 Tryd.underlying5 Tryd.underlying9 _ 3 (three_row 37 (dig (c.toNat / 16)) (dig (c.toNat % 16)) w)
  have hr2 : Rds (w.alloc (.cells #[.int .u8 ((37 : UInt8).toNat : Int), .int .u8 ((dig (c.toNat / 16)).toNat : Int), .int .u8 ((dig (c.toNat % 16)).toNat : Int)] 5)).drew (some ⟨w.heap.size, 0, none⟩) 3 (bcells [37, dig (c.toNat / 16), dig (c.toNat % 16)]) := three_row 37 (dig (c.toNat / 16)) (dig (c.toNat % 16)) w
  have hst2 := run_string_of 37 9 5 Tryd.underlying37 Tryd.underlying5 Tryd.underlying9 _ 3 hr2
  clear hr2
  rw [show ((37 : UInt8).toNat : Int) = 37 from rfl] at hst hst2
  have qa := wrap16 c
  have qb := tmod16 c
  go_enter Tryd.func31, Tryd.ntmps31
  go_wp2
  go_region
  go_wp2
  go_ret
  exact ⟨rfl, ((Below.refl _ _).alloc (Nat.le_refl _) _).drew⟩

theorem str_add (X Y : List UInt8) (w : World) (h : X.length + Y.length ≤ 9223372036854775807) : (Op.stringOp .add (strOf X) (strOf Y)).run Tryd.prog w = .ok (.string (strOf (X ++ Y))) w := by
  rw [run_string_add_sum w _ _ (by rw [size_strOf, size_strOf]; exact h)]
  congr 2
theorem str_cut (s : ByteArray) (k : Nat) (h : k < s.size) : s.extract k (k + 1) = strOf [s[k]] := by
  apply ByteArray.ext
  have h' : k < s.data.size := h
  apply Array.ext'
  rw [ByteArray.data_extract]
  simp [strOf, Array.toList_extract, List.extract_eq_take_drop]
  rw [List.drop_eq_getElem_cons (by simpa using h')]
  rfl
end Go.Proofs.YtleecmapaihhmaaDoor.EscR
