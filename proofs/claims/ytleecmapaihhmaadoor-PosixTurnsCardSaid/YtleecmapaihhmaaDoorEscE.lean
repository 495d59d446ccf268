/- escape.Encode and the document's own: any bytes, with those that the set has escaped; escape.Decode and the document's own. -/
import Derived.Test.YtleecmapaihhmaaDoorEscI
set_option linter.unusedSimpArgs false
set_option linter.unusedVariables false
namespace Go.Proofs.YtleecmapaihhmaaDoor.EscE
open Go.RowKit Go.Proofs.YtleecmapaihhmaaDoor.Base Go.Proofs.YtleecmapaihhmaaDoor.EscI

def dig (n : Nat) : UInt8 := if n < 10 then UInt8.ofNat (48 + n) else UInt8.ofNat (55 + n)
def one (k : Int) (c : UInt8) : List UInt8 := if inS k c.toNat = true then [37, dig (c.toNat / 16), dig (c.toNat % 16)] else [c]
def enc (k : Int) (L : List UInt8) : List UInt8 := L.flatMap (one k)
theorem enc_snoc (k : Int) (L : List UInt8) (c : UInt8) : enc k (L ++ [c]) = enc k L ++ one k c := by simp [enc]
theorem one_len (k : Int) (c : UInt8) : 1 ≤ (one k c).length ∧ (one k c).length ≤ 3 := by unfold one; split <;> simp
theorem enc_len (k : Int) (L : List UInt8) : (enc k L).length ≤ 3 * L.length := by
  induction L with
  | nil => simp [enc]
  | cons c L ih =>
    have h := one_len k c
    have e : enc k (c :: L) = one k c ++ enc k L := by simp [enc]
    rw [e, List.length_append, List.length_cons]
    omega
theorem dig_at (k : Nat) (h : k < (⟨#[48, 49, 50, 51, 52, 53, 54, 55, 56, 57, 65, 66, 67, 68, 69, 70]⟩ : ByteArray).size) : (⟨#[48, 49, 50, 51, 52, 53, 54, 55, 56, 57, 65, 66, 67, 68, 69, 70]⟩ : ByteArray)[k]'h = dig k := by
  have h' : k < 16 := h
  have hcase : k = 0 ∨ k = 1 ∨ k = 2 ∨ k = 3 ∨ k = 4 ∨ k = 5 ∨ k = 6 ∨ k = 7 ∨ k = 8 ∨ k = 9 ∨ k = 10 ∨ k = 11 ∨ k = 12 ∨ k = 13 ∨ k = 14 ∨ k = 15 := by omega
  rcases hcase with rfl | rfl | rfl | rfl | rfl | rfl | rfl | rfl | rfl | rfl | rfl | rfl | rfl | rfl | rfl | rfl <;> rfl
theorem three_one (a b c : Int) : ∀ u ∈ [Value.int .u8 a, Value.int .u8 b, Value.int .u8 c], u.oneCell' = true := by
  intro u hu
  simp at hu
  rcases hu with rfl | rfl | rfl <;> rfl
attribute [local go_sem ↓] Go.wp_at_zero Go.wp_at_succ
set_option maxRecDepth 100000 in
theorem encode_any (k : Int) (A : Option Addr) (n cap : Nat) (L : List UInt8) (w : World) (h : Rds w A n (bcells L)) (hm : n ≤ 1073741824) :
    Calls Tryd.prog 28 #[.int .i64 k, .slice A n cap] w fun e w' => e = .returned (.string (strOf (enc k L))) ∧ Below w.heap.size w w' := by
  have hl : L.length = n := by rw [← length_bcells]; exact h.1
  have HL := hid hl
  clear hl
  obtain ⟨i0, hi, hz0, hz1, hz2⟩ := info_parts info_u8
  have HH := hid h
  clear h
  go_enter Tryd.func28, Tryd.ntmps28
  go_wp2_with (at_make; refine wpList_make_own _ rfl _ _ 37 rfl w.heap.size 5 i0 (.int .u8 0) 1 Tryd.underlying37 hi hz0 hz1 .i64 .i64 _ n rfl rfl rfl (by rw [hz2]; omega) (by unfold maxLen; omega) (Nat.le_refl _) ?_)
  intro w1 hown1 hg1
  have hbel1 : Below w.heap.size w w1 := (Below.refl _ _).grown hg1 (Nat.le_refl _) (by intro k h; cases h)
  clear hg1
  go_wp2
  go_loopw [5, 13] (fun v vk wr => ∃ (j : Nat), j ≤ n ∧ vk = .int .i64 j ∧ wr.ownsRow w.heap.size 5 1 v (enc k (L.take j)).length (bcells (enc k (L.take j))) ∧ Below w.heap.size w wr) (fun _ vk _ => n - (intOf vk).toNat)
  case atStart => exact ⟨0, Nat.zero_le _, rfl, hown1, hbel1⟩
  case round =>
    clear hown1 hbel1
    obtain ⟨j, hj, rfl, hown, hbel⟩ := hrel
    by_cases hlt : j < n
    · obtain ⟨b, off, rfl, hb, _⟩ := (HH.out).spot (by omega)
      obtain ⟨c, hx⟩ : ∃ c, c = L[j]'(by rw [HL.out]; exact hlt) := ⟨_, rfl⟩
      have hcell : wr.cell? ⟨b, off + j, none⟩ = some (.int .u8 (c.toNat : Int)) := by
        rw [hx, ← HH.out.byte j (by rw [HL.out]; exact hlt)]
        exact hbel.cell (p := ⟨b, off + j, none⟩) hb
      have HS : Hid (L.take (j + 1) = L.take j ++ [c]) := by
        rw [hx]
        exact List.take_succ_eq_append_getElem (by rw [HL.out]; exact hlt)
      clear hx
      have hle := enc_len k (L.take j)
      have hle2 : (L.take j).length ≤ j := List.length_take_le _ _
      obtain ⟨m, hmm⟩ : ∃ m, m = (enc k (L.take j)).length := ⟨_, rfl⟩
      rw [← hmm] at hle hown
      have HM := hid hmm
      clear hmm
      have hc0 : (c.toNat : Int) < 256 := by have := c.toNat_lt; omega
      cases hin : inS k c.toNat
      · have HI := hid hin
        clear hin
        go_wp2_with fail
        refine (in_any _ _ _).mono ?_
        rintro e w2 ⟨rfl, rfl⟩
        rw [HI.out]
        go_wp2_with (at_builtin; refine wpList_app rfl _ _ 37 rfl w.heap.size 5 i0 (.int .u8 0) 1 Tryd.underlying37 hi hz0 hz1 hz2 rfl _ m _ rfl hown hbel hbel.size [.int .u8 (c.toNat : Int)] 1 rfl rfl (by intro u hu; simp at hu; subst hu; rfl) (by unfold maxLen; omega) (by omega) ?_)
        intro v' w2 hown2 hbel2
        clear hown hbel
        go_wp2
        go_roundw
        case rel => exact ⟨j + 1, by omega, by go_num, by
            have e1 : one k c = [c] := by unfold one; rw [HI.out]; rfl
            rw [HS.out, enc_snoc, e1, List.length_append, bcells_append, ← HM.out]
            exact hown2, hbel2⟩
        case measure => simp [intOf]; omega
      · have HI := hid hin
        clear hin
        go_wp2_with fail
        refine (in_any _ _ _).mono ?_
        rintro e w2 ⟨rfl, rfl⟩
        rw [HI.out]
        go_wp2
        have q1 : (0 : Int) ≤ (c.toNat : Int) / 16 := by omega
        have q2 : (c.toNat : Int) / 16 < 16 := by omega
        have q3 : (0 : Int) ≤ (c.toNat : Int) % 16 := by omega
        have q4 : (c.toNat : Int) % 16 < 16 := by omega
        have q5 := and15 c
        have q6 : ∀ h, (⟨#[48, 49, 50, 51, 52, 53, 54, 55, 56, 57, 65, 66, 67, 68, 69, 70]⟩ : ByteArray)[((c.toNat : Int) / 16).toNat]'h = dig (c.toNat / 16) := fun h => dig_at _ h
        have q7 : ∀ h, (⟨#[48, 49, 50, 51, 52, 53, 54, 55, 56, 57, 65, 66, 67, 68, 69, 70]⟩ : ByteArray)[((c.toNat : Int) % 16).toNat]'h = dig (c.toNat % 16) := fun h => dig_at _ h
        go_region_held3 (fun _ => True) (trivial) ((refine step_app (by rfl) _ _ 37 (by rfl) w.heap.size 5 i0 (.int .u8 0) 1 Tryd.underlying37 hi hz0 hz1 hz2 (by rfl) _ m _ (by rfl) hown hbel hbel.size [.int .u8 37, .int .u8 ((dig (c.toNat / 16)).toNat : Int), .int .u8 ((dig (c.toNat % 16)).toNat : Int)] 3 (by rfl) (by decide) (by rfl) (three_one _ _ _) (by unfold maxLen; omega) (by omega) ⟨(Below.refl _ _).drew, fun _ => rfl, by simp⟩ ?_; intro v' w2 hown2 hbel2))
        all_goals
          clear hown hbel q1 q2 q3 q4 q5 q6 q7
          go_wp2
          go_roundw
          case rel => exact ⟨j + 1, by omega, by go_num, by
              have e1 : one k c = [37, dig (c.toNat / 16), dig (c.toNat % 16)] := by unfold one; rw [if_pos HI.out]
              rw [HS.out, enc_snoc, e1, List.length_append, bcells_append, ← HM.out]
              exact hown2, hbel2⟩
          case measure => simp [intOf]; omega
    · obtain rfl : j = n := by omega
      have HE : Hid (L.take j = L) := by
        rw [← HL.out]; exact List.take_length
      rw [HE.out] at hown
      obtain ⟨A', c', rfl, _, _, hrd⟩ := owns_form hown
      have hst := run_string_of 37 9 5 Tryd.underlying37 Tryd.underlying5 Tryd.underlying9 _ c' hrd
      go_wp2
      go_ret
      exact ⟨rfl, hbel⟩
end Go.Proofs.YtleecmapaihhmaaDoor.EscE
