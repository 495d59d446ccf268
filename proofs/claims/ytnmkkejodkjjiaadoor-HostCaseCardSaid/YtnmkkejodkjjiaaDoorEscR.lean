/- The document's own Encode of layer 2, and its One. -/
import Derived.Test.YtnmkkejodkjjiaaDoorEscE
import Derived.Laws.IdiomStrings
namespace Go.Proofs.YtnmkkejodkjjiaaDoor.EscR
open Go.RowKit Go.Proofs.YtnmkkejodkjjiaaDoor.Base Go.Proofs.YtnmkkejodkjjiaaDoor.EscI Go.Proofs.YtnmkkejodkjjiaaDoor.EscE

theorem three_row (a b c : UInt8) (w : World) : Rds (w.alloc (.cells #[.int .u8 (a.toNat : Int), .int .u8 (b.toNat : Int), .int .u8 (c.toNat : Int)] 5)) (some ⟨w.heap.size, 0, none⟩) 3 (bcells [a, b, c]) :=
  Rds.of_spot rfl (by simp) (fun j hj => by
    have hj' : j < 3 := hj
    rw [World.cell?_alloc_mark]
    have hcase : j = 0 ∨ j = 1 ∨ j = 2 := by omega
    rcases hcase with rfl | rfl | rfl <;> rfl)
attribute [local go_sem ↓] Go.wp_at_zero Go.wp_at_succ
theorem wrap16 (c : UInt8) : IntKind.u8.wrap ((c.toNat : Int) / 16) = (c.toNat : Int) / 16 := by
  have H : ∀ n : Fin 256, IntKind.u8.wrap ((n.val : Int) / 16) = (n.val : Int) / 16 := by decide +kernel
  exact H ⟨c.toNat, c.toNat_lt⟩
theorem tmod16 (c : UInt8) : (c.toNat : Int).tmod 16 = (c.toNat : Int) % 16 := Int.tmod_eq_emod_of_nonneg (by omega)
set_option maxRecDepth 100000 in
theorem one_any (c : UInt8) (w : World) : Calls Tryd.prog 59 #[.int .u8 (c.toNat : Int)] w fun e w' => e = .returned (.string (strOf [37, dig (c.toNat / 16), dig (c.toNat % 16)])) ∧ Below w.heap.size w w' := by
  have hc0 : (c.toNat : Int) < 256 := by have := c.toNat_lt; omega
  have q1 : (0 : Int) ≤ (c.toNat : Int) / 16 := by omega
  have q2 : (c.toNat : Int) / 16 < 16 := by omega
  have q3 : (0 : Int) ≤ (c.toNat : Int) % 16 := by omega
  have q4 : (c.toNat : Int) % 16 < 16 := by omega
  have q6 : ∀ h, (⟨#[48, 49, 50, 51, 52, 53, 54, 55, 56, 57, 65, 66, 67, 68, 69, 70]⟩ : ByteArray)[((c.toNat : Int) / 16).toNat]'h = dig (c.toNat / 16) := fun h => dig_at _ h
  have q7 : ∀ h, (⟨#[48, 49, 50, 51, 52, 53, 54, 55, 56, 57, 65, 66, 67, 68, 69, 70]⟩ : ByteArray)[((c.toNat : Int) % 16).toNat]'h = dig (c.toNat % 16) := fun h => dig_at _ h
  have hst := run_string_of 40 9 5 Tryd.underlying40 Tryd.underlying5 Tryd.underlying9 _ 3 (three_row 37 (dig (c.toNat / 16)) (dig (c.toNat % 16)) w)
  have hr2 : Rds (w.alloc (.cells #[.int .u8 ((37 : UInt8).toNat : Int), .int .u8 ((dig (c.toNat / 16)).toNat : Int), .int .u8 ((dig (c.toNat % 16)).toNat : Int)] 5)).drew (some ⟨w.heap.size, 0, none⟩) 3 (bcells [37, dig (c.toNat / 16), dig (c.toNat % 16)]) := three_row 37 (dig (c.toNat / 16)) (dig (c.toNat % 16)) w
  have hst2 := run_string_of 40 9 5 Tryd.underlying40 Tryd.underlying5 Tryd.underlying9 _ 3 hr2
  clear hr2
  rw [show ((37 : UInt8).toNat : Int) = 37 from rfl] at hst hst2
  have qa := wrap16 c
  have qb := tmod16 c
  go_enter Tryd.func59, Tryd.ntmps59
  go_wp2
  go_region
  go_wp2
  go_ret
  exact ⟨rfl, ((Below.refl _ _).alloc (Nat.le_refl _) _).drew⟩

theorem str_add (X Y : List UInt8) (w : World) (h : X.length + Y.length ≤ 9223372036854775807) : (Op.stringOp .add (strOf X) (strOf Y)).run Tryd.prog w = .ok (.string (strOf (X ++ Y))) w := by
  rw [run_string_add_sum w _ _ (by rw [size_strOf, size_strOf]; exact h)]
  congr 2
theorem str_cut (s : ByteArray) (k : Nat) (h : k < s.size) : s.extract k (k + 1) = strOf [s[k]] := by
  apply ByteArray.ext
  have h' : k < s.data.size := h
  apply Array.ext'
  rw [ByteArray.data_extract]
  simp [strOf, Array.toList_extract, List.extract_eq_take_drop]
  rw [List.drop_eq_getElem_cons (by simpa using h')]
  rfl
theorem ref_encode (k : Int) (s : ByteArray) (w : World) (hm : s.size ≤ 1073741824) (hin : ∀ (c : UInt8) (w : World), Calls Tryd.prog 58 #[.int .i64 k, .int .u8 (c.toNat : Int)] w fun e w' => e = .returned (.bool (inS k c.toNat)) ∧ w = w') :
    Calls Tryd.prog 37 #[.int .i64 k, .string s] w fun e w' => e = .returned (.string (strOf (enc k s.data.toList))) ∧ Below w.heap.size w w' := by
  have hl : s.data.toList.length = s.size := Array.length_toList
  have HL := hid hl
  have HI := hid hin
  clear hl hin
  go_enter Tryd.func37, Tryd.ntmps37
  go_wp2
  go_loopw [5, 9] (fun v vk wr => ∃ (j : Nat) (X : List UInt8), j ≤ s.size ∧ vk = .int .i64 j ∧ v = .string (strOf X) ∧ X.length ≤ 3 * j ∧ Hid (X = enc k (s.data.toList.take j)) ∧ Below w.heap.size w wr) (fun _ vk _ => s.size - (intOf vk).toNat)
  case atStart => exact ⟨0, [], Nat.zero_le _, rfl, rfl, Nat.le_refl _, rfl, Below.refl _ _⟩
  case round =>
    obtain ⟨j, X, hj, rfl, rfl, hX, HX, hbel⟩ := hrel
    by_cases hlt : j < s.size
    · obtain ⟨c, hc⟩ : ∃ c, s[j] = c := ⟨_, rfl⟩
      have HS : Hid (s.data.toList.take (j + 1) = s.data.toList.take j ++ [c]) := by
        rw [← hc, List.take_succ_eq_append_getElem (by rw [HL.out]; exact hlt)]
        rfl
      have hcut := str_cut s j hlt
      rw [hc] at hcut
      have hc0 : (c.toNat : Int) < 256 := by have := c.toNat_lt; omega
      cases hin : inS k c.toNat
      · have HN := hid hin
        clear hin
        go_wp2_with fail
        refine (HI.out _ _).mono ?_
        rintro e w2 ⟨rfl, rfl⟩
        rw [HN.out]
        have hadd := str_add X [c] wr (by simp; omega)
        go_wp2
        go_roundw
        case rel => exact ⟨j + 1, X ++ [c], by omega, by go_num, rfl, by simp; omega, by
            have e1 : one k c = [c] := by unfold one; rw [HN.out]; rfl
            rw [HS.out, enc_snoc, e1, HX.out]
            exact rfl, hbel⟩
        case measure => simp [intOf]; omega
      · have HN := hid hin
        clear hin
        go_wp2_with fail
        refine (HI.out _ _).mono ?_
        rintro e w2 ⟨rfl, rfl⟩
        rw [HN.out]
        go_wp2_with fail
        refine (one_any _ _).mono ?_
        rintro e w2 ⟨rfl, hb2⟩
        have hadd := str_add X [37, dig (c.toNat / 16), dig (c.toNat % 16)] w2 (by simp; omega)
        have hbel2 := hbel.trans (hb2.mono hbel.size)
        clear hbel
        go_wp2
        go_roundw
        case rel => exact ⟨j + 1, X ++ [37, dig (c.toNat / 16), dig (c.toNat % 16)], by omega, by go_num, rfl, by simp; omega, by
            have e1 : one k c = [37, dig (c.toNat / 16), dig (c.toNat % 16)] := by unfold one; rw [if_pos HN.out]
            rw [HS.out, enc_snoc, e1, HX.out]
            exact rfl, hbel2⟩
        case measure => simp [intOf]; omega
    · obtain rfl : j = s.size := by omega
      have HE : Hid (X = enc k s.data.toList) := by
        rw [HX.out, ← HL.out, List.take_length]
        exact rfl
      go_wp2
      go_ret
      rw [HE.out]
      exact ⟨rfl, hbel⟩
end Go.Proofs.YtnmkkejodkjjiaaDoor.EscR
