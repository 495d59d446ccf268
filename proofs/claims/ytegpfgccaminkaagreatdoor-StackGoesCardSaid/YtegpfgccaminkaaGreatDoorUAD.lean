/- Texts that belong together: UtfR, UtfD, UtfE. -/
import Derived.Test.YtegpfgccaminkaaGreatDoorUAA
import Derived.Deep.QuietTactic
import Derived.BigQuiet
import Derived.Test.YtegpfgccaminkaaGreatDoorShelf
import Derived.Lib.RuneBytes
set_option linter.unusedSimpArgs false
set_option linter.unusedVariables false
namespace Go.Proofs.YtegpfgccaminkaaGreatDoor.UtfR
open Go.RowKit Base
def size (c : Int) : Int := if c ≤ 127 then 1 else if 194 ≤ c ∧ c ≤ 223 then 2 else if 224 ≤ c ∧ c ≤ 239 then 3 else if 240 ≤ c ∧ c ≤ 244 then 4 else 0
def lo (c : Int) : Int := if c ≤ 193 ∨ 245 ≤ c then 0 else if c = 224 then 160 else if c = 240 then 144 else 128
def hi (c : Int) : Int := if c ≤ 193 ∨ 245 ≤ c then 0 else if c = 237 then 159 else if c = 244 then 143 else 191
theorem lead_any (c : Int) (w : World) : Calls Tryz.prog 218 #[.int .u8 c] w fun e w' => e = .returned (.tuple #[.int .i64 (size c), .int .u8 (lo c), .int .u8 (hi c)]) ∧ w = w' := by
 go_enter Tryz.func218, Tryz.ntmps218
 go_wp2
 all_goals
  try simp only [beq_iff_eq, beq_eq_false_iff_ne, ne_eq] at *
  go_ret3
  exact ⟨ret3 (int_eq (by unfold size; (repeat' split) <;> omega)) (int_eq (by unfold lo; (repeat' split) <;> omega)) (int_eq (by unfold hi; (repeat' split) <;> omega)), rfl⟩
theorem read_one (b off n cap : Nat) (c : Int) (w : World) (hc : w.cell? ⟨b, off, none⟩ = some (.int .u8 c)) (h0 : 0 < n) (h1 : 0 ≤ c) (h2 : c ≤ 127) :
  Calls Tryz.prog 157 #[.slice (some ⟨b, off, none⟩) n cap] w fun e w' => e = .returned (.tuple #[.int .i32 c, .int .i64 1, .bool true]) ∧ w = w' := by
 have hs : size c = 1 := by unfold size; (repeat' split) <;> omega
 have HS := hid hs
 clear hs
 have hp : (0 : Int) < (n : Int) := by omega
 go_enter Tryz.func157, Tryz.ntmps157
 go_wp2_with (go_at_call 218; refine (lead_any _ _).mono ?_; rintro e w' ⟨rfl, rfl⟩; rw [HS.out])
 go_ret3
 exact ⟨rfl, rfl⟩
theorem read_none (b off n cap : Nat) (c : Int) (w : World) (hc : w.cell? ⟨b, off, none⟩ = some (.int .u8 c)) (h0 : 0 < n) (h1 : (128 ≤ c ∧ c ≤ 193) ∨ 245 ≤ c) :
  Calls Tryz.prog 157 #[.slice (some ⟨b, off, none⟩) n cap] w fun e w' => e = .returned (.tuple #[.int .i32 65533, .int .i64 1, .bool false]) ∧ w = w' := by
 have hs : size c = 0 := by unfold size; (repeat' split) <;> omega
 have HS := hid hs
 clear hs
 have hp : (0 : Int) < (n : Int) := by omega
 go_enter Tryz.func157, Tryz.ntmps157
 go_wp2_with (go_at_call 218; refine (lead_any _ _).mono ?_; rintro e w' ⟨rfl, rfl⟩; rw [HS.out])
 go_ret3
 exact ⟨rfl, rfl⟩
def tail : Nat → Nat → Int → Int → Int → List UInt8 → Int × Int × Bool
 | 0, k, _, _, r, _ => (r, k, true)
 | _ + 1, k, _, _, _, [] => (65533, k, false)
 | m + 1, k, l, h, r, c :: t => if (c.toNat : Int) < l ∨ h < (c.toNat : Int) then (65533, k, false) else tail m (k + 1) 128 191 (r * 64 + (c.toNat : Int) % 64) t
def room : Nat → Int
 | 0 => 0
 | 1 => 32
 | 2 => 2048
 | 3 => 131072
 | _ => 8388608
theorem room_step (k : Nat) (h0 : 1 ≤ k) (h1 : k ≤ 3) : room (k + 1) = room k * 64 ∧ room k ≤ 131072 := by
 match k, h0, h1 with
 | 1, _, _ => decide
 | 2, _, _ => decide
 | 3, _, _ => decide
set_option maxRecDepth 100000 in
theorem read_2 (b off cap : Nat) (L : List UInt8) (c : Int) (w : World) (hc : w.cell? ⟨b, off, none⟩ = some (.int .u8 c)) (hL : ∀ j (h : j < L.length), w.cell? ⟨b, off + j, none⟩ = some (.int .u8 (L[j].toNat : Int)))
  (hm : L.length ≤ maxLen) (h0 : 0 < L.length) (h1 : 194 ≤ c) (h2 : c ≤ 223) (R : Int × Int × Bool) (hR : R = tail 1 1 (lo c) (hi c) (c % 32) (L.drop 1)) :
  Calls Tryz.prog 157 #[.slice (some ⟨b, off, none⟩) L.length cap] w fun e w' => e = .returned (.tuple #[.int .i32 R.1, .int .i64 R.2.1, .bool R.2.2]) ∧ Below w.heap.size w w' := by
 have hs : size c = 2 := by unfold size; (repeat' split) <;> omega
 have HS := hid hs
 clear hs
 unfold maxLen at hm
 have hp : (0 : Int) < (L.length : Int) := by omega
 have HL := hid hL
 clear hL
 have HR := hid hR
 clear hR
 have hr0 : 0 ≤ c % 32 ∧ c % 32 < 32 := by omega
 go_enter Tryz.func157, Tryz.ntmps157
 go_wp2_with (go_at_call 218; refine (lead_any _ _).mono ?_; rintro e w' ⟨rfl, rfl⟩; rw [HS.out])
 go_quiet (fail)
 go_wp2
 go_loop [6, 7, 8, 9] (fun vl vh vr vk => ∃ (k : Nat) (l h r : Int), 1 ≤ k ∧ k ≤ 2 ∧ k ≤ L.length ∧ vk = .int .i64 k ∧ vl = .int .u8 l ∧ vh = .int .u8 h ∧ vr = .int .i32 r ∧ 0 ≤ r ∧ r < room k ∧ Hid (R = tail (2 - k) k l h r (L.drop k))) (fun _ _ _ vk => 2 - (intOf vk).toNat)
 case atStart => exact ⟨1, lo c, hi c, c % 32, by omega, by omega, by omega, rfl, rfl, rfl, rfl, hr0.1, hr0.2, HR⟩
 case round =>
  obtain ⟨k, l, h, r, hk1, hk2, hkn, rfl, rfl, rfl, rfl, hr1, hr2, HT⟩ := hrel
  by_cases hlt : k < 2
  ·obtain ⟨hb1, hb2⟩ := room_step k hk1 (by omega)
   have HB := hid hb1
   clear hb1
   have hr3 : r < 131072 := by omega
   have es : 2 - k = (2 - (k + 1)) + 1 := by omega
   have HT2 : Hid (R = tail ((2 - (k + 1)) + 1) k l h r (L.drop k)) := by rw [← es]; exact HT
   clear es HT
   by_cases hn : k < L.length
   ·obtain ⟨x, hx⟩ : ∃ x, x = L[k] := ⟨_, rfl⟩
    have hcell : w.cell? ⟨b, off + k, none⟩ = some (.int .u8 (x.toNat : Int)) := by rw [hx]; exact HL.out k hn
    have HT3 : Hid (R = tail ((2 - (k + 1)) + 1) k l h r (x :: L.drop (k + 1))) := by
     have hd : L.drop k = x :: L.drop (k + 1) := by rw [hx]; exact List.drop_eq_getElem_cons hn
     rw [← hd]; exact HT2
    clear HT2 hx
    have hx2 : (x.toNat : Int) < 256 := by have := x.toNat_lt; omega
    have hne : ((k : Int) == (L.length : Int)) = false := by simp; omega
    by_cases ht : (x.toNat : Int) < l ∨ h < (x.toNat : Int)
    ·have HT4 : Hid (R = (65533, (k : Int), false)) := by
      have e := HT3.out
      rw [tail, if_pos ht] at e
      exact e
     clear HT3
     go_wp2
     all_goals
      go_ret3
      rw [HT4.out]
      exact ⟨rfl, Base.below_drewN (Below.refl _ _) _⟩
    ·have HT4 : Hid (R = tail (2 - (k + 1)) (k + 1) 128 191 (r * 64 + (x.toNat : Int) % 64) (L.drop (k + 1))) := by
      have e := HT3.out
      rw [tail, if_neg ht] at e
      exact e
     clear HT3
     have ht1 : l ≤ (x.toNat : Int) := by omega
     have ht2 : (x.toNat : Int) ≤ h := by omega
     clear ht
     go_wp2
     go_round
     case rel => exact ⟨k + 1, 128, 191, r * 64 + (x.toNat : Int) % 64, by omega, by omega, by omega, by go_num, rfl, rfl, rfl, by omega, by rw [HB.out]; omega, HT4⟩
     case measure => simp [intOf]; omega
   ·obtain rfl : k = L.length := by omega
    have HT4 : Hid (R = (65533, (L.length : Int), false)) := by
     have e := HT2.out
     rw [List.drop_length, tail] at e
     exact e
    clear HT2
    go_wp2
    go_ret3
    rw [HT4.out]
    exact ⟨rfl, Base.below_drewN (Below.refl _ _) _⟩
  ·obtain rfl : k = 2 := by omega
   have HT4 : Hid (R = (r, 2, true)) := by
    have e := HT.out
    rw [Nat.sub_self, tail] at e
    exact e
   clear HT
   go_wp2
   go_ret3
   rw [HT4.out]
   exact ⟨rfl, Base.below_drewN (Below.refl _ _) _⟩
set_option maxRecDepth 100000 in
theorem read_3 (b off cap : Nat) (L : List UInt8) (c : Int) (w : World) (hc : w.cell? ⟨b, off, none⟩ = some (.int .u8 c)) (hL : ∀ j (h : j < L.length), w.cell? ⟨b, off + j, none⟩ = some (.int .u8 (L[j].toNat : Int)))
  (hm : L.length ≤ maxLen) (h0 : 0 < L.length) (h1 : 224 ≤ c) (h2 : c ≤ 239) (R : Int × Int × Bool) (hR : R = tail 2 1 (lo c) (hi c) (c % 16) (L.drop 1)) :
  Calls Tryz.prog 157 #[.slice (some ⟨b, off, none⟩) L.length cap] w fun e w' => e = .returned (.tuple #[.int .i32 R.1, .int .i64 R.2.1, .bool R.2.2]) ∧ Below w.heap.size w w' := by
 have hs : size c = 3 := by unfold size; (repeat' split) <;> omega
 have HS := hid hs
 clear hs
 unfold maxLen at hm
 have hp : (0 : Int) < (L.length : Int) := by omega
 have HL := hid hL
 clear hL
 have HR := hid hR
 clear hR
 have hr0 : 0 ≤ c % 16 ∧ c % 16 < 32 := by omega
 go_enter Tryz.func157, Tryz.ntmps157
 go_wp2_with (go_at_call 218; refine (lead_any _ _).mono ?_; rintro e w' ⟨rfl, rfl⟩; rw [HS.out])
 go_quiet (fail)
 go_wp2
 go_loop [6, 7, 8, 9] (fun vl vh vr vk => ∃ (k : Nat) (l h r : Int), 1 ≤ k ∧ k ≤ 3 ∧ k ≤ L.length ∧ vk = .int .i64 k ∧ vl = .int .u8 l ∧ vh = .int .u8 h ∧ vr = .int .i32 r ∧ 0 ≤ r ∧ r < room k ∧ Hid (R = tail (3 - k) k l h r (L.drop k))) (fun _ _ _ vk => 3 - (intOf vk).toNat)
 case atStart => exact ⟨1, lo c, hi c, c % 16, by omega, by omega, by omega, rfl, rfl, rfl, rfl, hr0.1, hr0.2, HR⟩
 case round =>
  obtain ⟨k, l, h, r, hk1, hk2, hkn, rfl, rfl, rfl, rfl, hr1, hr2, HT⟩ := hrel
  by_cases hlt : k < 3
  ·obtain ⟨hb1, hb2⟩ := room_step k hk1 (by omega)
   have HB := hid hb1
   clear hb1
   have hr3 : r < 131072 := by omega
   have es : 3 - k = (3 - (k + 1)) + 1 := by omega
   have HT2 : Hid (R = tail ((3 - (k + 1)) + 1) k l h r (L.drop k)) := by rw [← es]; exact HT
   clear es HT
   by_cases hn : k < L.length
   ·obtain ⟨x, hx⟩ : ∃ x, x = L[k] := ⟨_, rfl⟩
    have hcell : w.cell? ⟨b, off + k, none⟩ = some (.int .u8 (x.toNat : Int)) := by rw [hx]; exact HL.out k hn
    have HT3 : Hid (R = tail ((3 - (k + 1)) + 1) k l h r (x :: L.drop (k + 1))) := by
     have hd : L.drop k = x :: L.drop (k + 1) := by rw [hx]; exact List.drop_eq_getElem_cons hn
     rw [← hd]; exact HT2
    clear HT2 hx
    have hx2 : (x.toNat : Int) < 256 := by have := x.toNat_lt; omega
    have hne : ((k : Int) == (L.length : Int)) = false := by simp; omega
    by_cases ht : (x.toNat : Int) < l ∨ h < (x.toNat : Int)
    ·have HT4 : Hid (R = (65533, (k : Int), false)) := by
      have e := HT3.out
      rw [tail, if_pos ht] at e
      exact e
     clear HT3
     go_wp2
     all_goals
      go_ret3
      rw [HT4.out]
      exact ⟨rfl, Base.below_drewN (Below.refl _ _) _⟩
    ·have HT4 : Hid (R = tail (3 - (k + 1)) (k + 1) 128 191 (r * 64 + (x.toNat : Int) % 64) (L.drop (k + 1))) := by
      have e := HT3.out
      rw [tail, if_neg ht] at e
      exact e
     clear HT3
     have ht1 : l ≤ (x.toNat : Int) := by omega
     have ht2 : (x.toNat : Int) ≤ h := by omega
     clear ht
     go_wp2
     go_round
     case rel => exact ⟨k + 1, 128, 191, r * 64 + (x.toNat : Int) % 64, by omega, by omega, by omega, by go_num, rfl, rfl, rfl, by omega, by rw [HB.out]; omega, HT4⟩
     case measure => simp [intOf]; omega
   ·obtain rfl : k = L.length := by omega
    have HT4 : Hid (R = (65533, (L.length : Int), false)) := by
     have e := HT2.out
     rw [List.drop_length, tail] at e
     exact e
    clear HT2
    go_wp2
    go_ret3
    rw [HT4.out]
    exact ⟨rfl, Base.below_drewN (Below.refl _ _) _⟩
  ·obtain rfl : k = 3 := by omega
   have HT4 : Hid (R = (r, 3, true)) := by
    have e := HT.out
    rw [Nat.sub_self, tail] at e
    exact e
   clear HT
   go_wp2
   go_ret3
   rw [HT4.out]
   exact ⟨rfl, Base.below_drewN (Below.refl _ _) _⟩
set_option maxRecDepth 100000 in
theorem read_4 (b off cap : Nat) (L : List UInt8) (c : Int) (w : World) (hc : w.cell? ⟨b, off, none⟩ = some (.int .u8 c)) (hL : ∀ j (h : j < L.length), w.cell? ⟨b, off + j, none⟩ = some (.int .u8 (L[j].toNat : Int)))
  (hm : L.length ≤ maxLen) (h0 : 0 < L.length) (h1 : 240 ≤ c) (h2 : c ≤ 244) (R : Int × Int × Bool) (hR : R = tail 3 1 (lo c) (hi c) (c % 8) (L.drop 1)) :
  Calls Tryz.prog 157 #[.slice (some ⟨b, off, none⟩) L.length cap] w fun e w' => e = .returned (.tuple #[.int .i32 R.1, .int .i64 R.2.1, .bool R.2.2]) ∧ Below w.heap.size w w' := by
 have hs : size c = 4 := by unfold size; (repeat' split) <;> omega
 have HS := hid hs
 clear hs
 unfold maxLen at hm
 have hp : (0 : Int) < (L.length : Int) := by omega
 have HL := hid hL
 clear hL
 have HR := hid hR
 clear hR
 have hr0 : 0 ≤ c % 8 ∧ c % 8 < 32 := by omega
 go_enter Tryz.func157, Tryz.ntmps157
 go_wp2_with (go_at_call 218; refine (lead_any _ _).mono ?_; rintro e w' ⟨rfl, rfl⟩; rw [HS.out])
 go_quiet (fail)
 go_wp2
 go_loop [6, 7, 8, 9] (fun vl vh vr vk => ∃ (k : Nat) (l h r : Int), 1 ≤ k ∧ k ≤ 4 ∧ k ≤ L.length ∧ vk = .int .i64 k ∧ vl = .int .u8 l ∧ vh = .int .u8 h ∧ vr = .int .i32 r ∧ 0 ≤ r ∧ r < room k ∧ Hid (R = tail (4 - k) k l h r (L.drop k))) (fun _ _ _ vk => 4 - (intOf vk).toNat)
 case atStart => exact ⟨1, lo c, hi c, c % 8, by omega, by omega, by omega, rfl, rfl, rfl, rfl, hr0.1, hr0.2, HR⟩
 case round =>
  obtain ⟨k, l, h, r, hk1, hk2, hkn, rfl, rfl, rfl, rfl, hr1, hr2, HT⟩ := hrel
  by_cases hlt : k < 4
  ·obtain ⟨hb1, hb2⟩ := room_step k hk1 (by omega)
   have HB := hid hb1
   clear hb1
   have hr3 : r < 131072 := by omega
   have es : 4 - k = (4 - (k + 1)) + 1 := by omega
   have HT2 : Hid (R = tail ((4 - (k + 1)) + 1) k l h r (L.drop k)) := by rw [← es]; exact HT
   clear es HT
   by_cases hn : k < L.length
   ·obtain ⟨x, hx⟩ : ∃ x, x = L[k] := ⟨_, rfl⟩
    have hcell : w.cell? ⟨b, off + k, none⟩ = some (.int .u8 (x.toNat : Int)) := by rw [hx]; exact HL.out k hn
    have HT3 : Hid (R = tail ((4 - (k + 1)) + 1) k l h r (x :: L.drop (k + 1))) := by
     have hd : L.drop k = x :: L.drop (k + 1) := by rw [hx]; exact List.drop_eq_getElem_cons hn
     rw [← hd]; exact HT2
    clear HT2 hx
    have hx2 : (x.toNat : Int) < 256 := by have := x.toNat_lt; omega
    have hne : ((k : Int) == (L.length : Int)) = false := by simp; omega
    by_cases ht : (x.toNat : Int) < l ∨ h < (x.toNat : Int)
    ·have HT4 : Hid (R = (65533, (k : Int), false)) := by
      have e := HT3.out
      rw [tail, if_pos ht] at e
      exact e
     clear HT3
     go_wp2
     all_goals
      go_ret3
      rw [HT4.out]
      exact ⟨rfl, Base.below_drewN (Below.refl _ _) _⟩
    ·have HT4 : Hid (R = tail (4 - (k + 1)) (k + 1) 128 191 (r * 64 + (x.toNat : Int) % 64) (L.drop (k + 1))) := by
      have e := HT3.out
      rw [tail, if_neg ht] at e
      exact e
     clear HT3
     have ht1 : l ≤ (x.toNat : Int) := by omega
     have ht2 : (x.toNat : Int) ≤ h := by omega
     clear ht
     go_wp2
     go_round
     case rel => exact ⟨k + 1, 128, 191, r * 64 + (x.toNat : Int) % 64, by omega, by omega, by omega, by go_num, rfl, rfl, rfl, by omega, by rw [HB.out]; omega, HT4⟩
     case measure => simp [intOf]; omega
   ·obtain rfl : k = L.length := by omega
    have HT4 : Hid (R = (65533, (L.length : Int), false)) := by
     have e := HT2.out
     rw [List.drop_length, tail] at e
     exact e
    clear HT2
    go_wp2
    go_ret3
    rw [HT4.out]
    exact ⟨rfl, Base.below_drewN (Below.refl _ _) _⟩
  ·obtain rfl : k = 4 := by omega
   have HT4 : Hid (R = (r, 4, true)) := by
    have e := HT.out
    rw [Nat.sub_self, tail] at e
    exact e
   clear HT
   go_wp2
   go_ret3
   rw [HT4.out]
   exact ⟨rfl, Base.below_drewN (Below.refl _ _) _⟩
end Go.Proofs.YtegpfgccaminkaaGreatDoor.UtfR
namespace Go.Proofs.YtegpfgccaminkaaGreatDoor.UtfR
open Go.RowKit Base
def rd : List UInt8 → Int × Int × Bool
 | [] => (65533, 1, false)
 | x :: t =>
  let c : Int := x.toNat
  if c ≤ 127 then (c, 1, true) else if c ≤ 193 ∨ 245 ≤ c then (65533, 1, false) else if c ≤ 223 then tail 1 1 (lo c) (hi c) (c % 32) t else if c ≤ 239 then tail 2 1 (lo c) (hi c) (c % 16) t else tail 3 1 (lo c) (hi c) (c % 8) t
theorem read_any (b off n cap : Nat) (L : List UInt8) (w : World) (h : Rds w (some ⟨b, off, none⟩) n (bcells L)) (hm : n ≤ maxLen) (h0 : 0 < n) (R : Int × Int × Bool) (hR : R = rd L) :
  Calls Tryz.prog 157 #[.slice (some ⟨b, off, none⟩) n cap] w fun e w' => e = .returned (.tuple #[.int .i32 R.1, .int .i64 R.2.1, .bool R.2.2]) ∧ Below w.heap.size w w' := by
 have hl : L.length = n := by rw [← length_bcells]; exact h.1
 subst hl
 obtain ⟨x, t, rfl⟩ : ∃ x t, L = x :: t := by
  cases L with
  | nil => simp at h0
  | cons x t => exact ⟨x, t, rfl⟩
 have hc : w.cell? ⟨b, off, none⟩ = some (.int .u8 (x.toNat : Int)) := by
  have := h.byte 0 (by simp)
  rw [Nat.add_zero] at this
  exact this
 have hL : ∀ j (hj : j < (x :: t).length), w.cell? ⟨b, off + j, none⟩ = some (.int .u8 ((x :: t)[j].toNat : Int)) := fun j hj => h.byte j hj
 have hx : (x.toNat : Int) < 256 := by have := x.toNat_lt; omega
 by_cases h1 : (x.toNat : Int) ≤ 127
 ·rw [rd, if_pos h1] at hR
  subst hR
  exact (read_one b off _ cap _ w hc h0 (by omega) h1).mono fun e w' ⟨he, hw⟩ => ⟨he, hw ▸ Below.refl _ _⟩
 by_cases h2 : (x.toNat : Int) ≤ 193 ∨ 245 ≤ (x.toNat : Int)
 ·rw [rd, if_neg h1, if_pos h2] at hR
  subst hR
  exact (read_none b off _ cap _ w hc h0 (by omega)).mono fun e w' ⟨he, hw⟩ => ⟨he, hw ▸ Below.refl _ _⟩
 by_cases h3 : (x.toNat : Int) ≤ 223
 ·rw [rd, if_neg h1, if_neg h2, if_pos h3] at hR
  exact read_2 b off cap _ _ w hc hL hm h0 (by omega) (by omega) R hR
 by_cases h4 : (x.toNat : Int) ≤ 239
 ·rw [rd, if_neg h1, if_neg h2, if_neg h3, if_pos h4] at hR
  exact read_3 b off cap _ _ w hc hL hm h0 (by omega) (by omega) R hR
 ·rw [rd, if_neg h1, if_neg h2, if_neg h3, if_neg h4] at hR
  exact read_4 b off cap _ _ w hc hL hm h0 (by omega) (by omega) R hR
theorem tail_size : ∀ (m k : Nat) (l h r : Int) (t : List UInt8), (k : Int) ≤ (tail m k l h r t).2.1 ∧ (tail m k l h r t).2.1 ≤ k + t.length
 | 0, k, _, _, _, t => by simp [tail]; omega
 | m + 1, k, l, h, r, [] => by simp [tail]
 | m + 1, k, l, h, r, c :: t => by
  rw [tail]
  split
  ·simp; omega
  ·have := tail_size m (k + 1) 128 191 (r * 64 + (c.toNat : Int) % 64) t
   simp only [List.length_cons]
   omega
theorem rd_size (x : UInt8) (t : List UInt8) : 1 ≤ (rd (x :: t)).2.1 ∧ (rd (x :: t)).2.1 ≤ (t.length : Int) + 1 := by
 simp only [rd]
 (repeat' split)
 ·simp; omega
 ·simp; omega
 ·have := tail_size 1 1 (lo x.toNat) (hi x.toNat) (x.toNat % 32) t; omega
 ·have := tail_size 2 1 (lo x.toNat) (hi x.toNat) (x.toNat % 16) t; omega
 ·have := tail_size 3 1 (lo x.toNat) (hi x.toNat) (x.toNat % 8) t; omega
def decF : Nat → List UInt8 → List Int
 | 0, _ => []
 | _ + 1, [] => []
 | n + 1, x :: t => (rd (x :: t)).1 :: decF n ((x :: t).drop (rd (x :: t)).2.1.toNat)
def dec (L : List UInt8) : List Int := decF L.length L
theorem decF_more : ∀ (n m : Nat) (L : List UInt8), L.length ≤ n → L.length ≤ m → decF n L = decF m L
 | 0, 0, _, _, _ => rfl
 | 0, m + 1, [], _, _ => rfl
 | 0, _ + 1, _ :: _, h, _ => by simp at h
 | n + 1, 0, [], _, _ => rfl
 | _ + 1, 0, _ :: _, _, h => by simp at h
 | _ + 1, _ + 1, [], _, _ => rfl
 | n + 1, m + 1, x :: t, h1, h2 => by
  have hs := rd_size x t
  simp only [List.length_cons] at h1 h2
  rw [decF, decF, decF_more n m _ (by simp; omega) (by simp; omega)]
theorem dec_nil : dec [] = [] := rfl
theorem dec_cons (x : UInt8) (t : List UInt8) : dec (x :: t) = (rd (x :: t)).1 :: dec ((x :: t).drop (rd (x :: t)).2.1.toNat) := by
 have hs := rd_size x t
 unfold dec
 rw [List.length_cons, decF, decF_more _ _ _ (by simp; omega) (Nat.le_refl _)]
theorem dec_drop (L : List UInt8) (k : Nat) (h : k < L.length) :
  dec (L.drop k) = (rd (L.drop k)).1 :: dec (L.drop (k + (rd (L.drop k)).2.1.toNat)) ∧ 1 ≤ (rd (L.drop k)).2.1 ∧ (rd (L.drop k)).2.1 ≤ (L.length : Int) - k := by
 obtain ⟨x, t, ht⟩ : ∃ x t, L.drop k = x :: t := by
  cases e : L.drop k with
  | nil => simp at e; omega
  | cons x t => exact ⟨x, t, rfl⟩
 have hs := rd_size x t
 have hl : (L.drop k).length = L.length - k := List.length_drop
 rw [ht, List.length_cons] at hl
 refine ⟨?_, ?_, ?_⟩
 ·rw [ht, dec_cons, ← ht, List.drop_drop]
 ·rw [ht]; exact hs.1
 ·rw [ht]; omega
theorem info21 : (Tryz.prog.info? 21).map (fun i => (i.zero, i.size, i.bytes)) = some (some (.int .i32 0), 1, 4) := by kernel_rfl
theorem decode_any (A : Option Addr) (n cap : Nat) (L : List UInt8) (w : World) (h : Rds w A n (bcells L)) (hm : n ≤ 1073741824) (hcap : n ≤ cap) :
  Calls Tryz.prog 106 #[.slice A n cap] w fun e w' => ∃ v, e = .returned v ∧ w'.ownsRow w.heap.size 21 1 v (dec L).length (icells .i32 (dec L)) ∧ Below w.heap.size w w' := by
 have hl : L.length = n := by rw [← length_bcells]; exact h.1
 have HL := hid hl
 clear hl
 obtain ⟨i0, hi, hz0, hz1, hz2⟩ := info_parts info21
 have HH := hid h
 clear h
 go_enter Tryz.func106, Tryz.ntmps106
 go_wp2
 go_loopw [3, 4] (fun v vk wr => ∃ (k : Nat) (acc : List Int), k ≤ n ∧ acc.length ≤ k ∧ vk = .int .i64 k ∧ wr.ownsRow w.heap.size 21 1 v acc.length (icells .i32 acc) ∧ Below w.heap.size w wr ∧ Hid (acc ++ dec (L.drop k) = dec L)) (fun _ vk _ => n - (intOf vk).toNat)
 case atStart => exact ⟨0, [], Nat.zero_le _, Nat.le_refl _, rfl, World.ownsRow_nil _ _ _ _, Below.refl _ _, rfl⟩
 case round =>
  obtain ⟨k, acc, hk, hacc, rfl, hown, hbel, HT⟩ := hrel
  by_cases hlt : k < n
  ·obtain ⟨b, off, rfl, hb, _⟩ := (HH.out).spot (by omega)
   have hcut : Hid (Rds wr (some ⟨b, off + k, none⟩) (n - k) (bcells (L.drop k))) := by
    rw [bcells_drop]
    exact (HH.out.cut k hk).below hbel
   have hne : ¬ cap = k := by omega
   obtain ⟨hd1, hd2, hd3⟩ := dec_drop L k (by rw [HL.out]; exact hlt)
   obtain ⟨R, hR⟩ : ∃ R, R = rd (L.drop k) := ⟨_, rfl⟩
   rw [← hR] at hd1 hd2 hd3
   rw [HL.out] at hd3
   have HD := hid hd1
   have HR := hid hR
   clear hd1 hR
   go_wp2_with fail
   refine (read_any b (off + k) (n - k) (cap - k) (L.drop k) _ hcut.out (by unfold maxLen; omega) (by omega) R HR.out).mono ?_
   rintro e w1 ⟨rfl, hb1⟩
   have hown1 := owns_below hown hb1
   have hbel1 := hbel.trans (hb1.mono hbel.size)
   clear hown hbel
   go_wp2_with (at_builtin; refine wpList_append_own _ rfl _ _ 197 rfl w.heap.size 21 i0 (.int .i32 0) 1 4 Tryz.underlying197 hi hz0 hz1 hz2 rfl (by decide) _ _ _ rfl (hown1.alloc _) ⟨w1.heap.size, 0, none⟩ 1 1 [.int .i32 R.1] rfl rfl ?c1 ?c2 ?c3 ?c4 ?c5 ?_)
   case c1 => exact cell_one_new _ _ _
   case c2 => intro u hu; simp at hu; subst hu; rfl
   case c3 => unfold maxLen; omega
   case c4 => omega
   case c5 => have := hbel1.size; simp; omega
   intro v' w2 hown2 hg2 _
   have hbel2 : Below w.heap.size w w2 := (hbel1.alloc hbel1.size _).grown hg2 (by have := hbel1.size; simp; omega) (fun g hg => (hown1.lt g hg).1)
   clear hown1 hbel1 hg2
   go_wp2
   go_roundw
   case rel => exact ⟨k + R.2.1.toNat, acc ++ [R.1], by omega, by simp; omega, by rw [show ((k + R.2.1.toNat : Nat) : Int) = (k : Int) + R.2.1 by omega], by rw [icells_append, List.length_append]; exact hown2, hbel2, by
     have := HT.out
     rw [HD.out] at this
     rw [List.append_assoc]
     exact this⟩
   case measure => simp [intOf]; omega
  ·obtain rfl : k = n := by omega
   have HE : Hid (acc = dec L) := by
    have e := HT.out
    rw [← HL.out, List.drop_length, dec_nil, List.append_nil] at e
    exact e
   go_wp2
   go_ret
   exact ⟨_, rfl, by rw [← HE.out]; exact hown, hbel⟩
def valF : Nat → List UInt8 → Bool
 | 0, _ => true
 | _ + 1, [] => true
 | n + 1, x :: t => (rd (x :: t)).2.2 && valF n ((x :: t).drop (rd (x :: t)).2.1.toNat)
def val (L : List UInt8) : Bool := valF L.length L
theorem valF_more : ∀ (n m : Nat) (L : List UInt8), L.length ≤ n → L.length ≤ m → valF n L = valF m L
 | 0, 0, _, _, _ => rfl
 | 0, m + 1, [], _, _ => rfl
 | 0, _ + 1, _ :: _, h, _ => by simp at h
 | n + 1, 0, [], _, _ => rfl
 | _ + 1, 0, _ :: _, _, h => by simp at h
 | _ + 1, _ + 1, [], _, _ => rfl
 | n + 1, m + 1, x :: t, h1, h2 => by
  have hs := rd_size x t
  simp only [List.length_cons] at h1 h2
  rw [valF, valF, valF_more n m _ (by simp; omega) (by simp; omega)]
theorem val_cons (x : UInt8) (t : List UInt8) : val (x :: t) = ((rd (x :: t)).2.2 && val ((x :: t).drop (rd (x :: t)).2.1.toNat)) := by
 have hs := rd_size x t
 unfold val
 rw [List.length_cons, valF, valF_more _ _ _ (by simp; omega) (Nat.le_refl _)]
theorem val_drop (L : List UInt8) (k : Nat) (h : k < L.length) : val (L.drop k) = ((rd (L.drop k)).2.2 && val (L.drop (k + (rd (L.drop k)).2.1.toNat))) := by
 obtain ⟨x, t, ht⟩ : ∃ x t, L.drop k = x :: t := by
  cases e : L.drop k with
  | nil => simp at e; omega
  | cons x t => exact ⟨x, t, rfl⟩
 rw [ht, val_cons, ← ht, List.drop_drop]
theorem valid_any (A : Option Addr) (n cap : Nat) (L : List UInt8) (w : World) (h : Rds w A n (bcells L)) (hm : n ≤ 1073741824) (hcap : n ≤ cap) :
  Calls Tryz.prog 144 #[.slice A n cap] w fun e w' => e = .returned (.bool (val L)) ∧ Below w.heap.size w w' := by
 have hl : L.length = n := by rw [← length_bcells]; exact h.1
 have HL := hid hl
 clear hl
 have HH := hid h
 clear h
 go_enter Tryz.func144, Tryz.ntmps144
 go_wp2
 go_loopw [3] (fun vk wr => ∃ (k : Nat), k ≤ n ∧ vk = .int .i64 k ∧ Below w.heap.size w wr ∧ Hid (val (L.drop k) = val L)) (fun vk _ => n - (intOf vk).toNat)
 case atStart => exact ⟨0, Nat.zero_le _, rfl, Below.refl _ _, rfl⟩
 case round =>
  obtain ⟨k, hk, rfl, hbel, HT⟩ := hrel
  by_cases hlt : k < n
  ·obtain ⟨b, off, rfl, hb, _⟩ := (HH.out).spot (by omega)
   have hcut : Hid (Rds wr (some ⟨b, off + k, none⟩) (n - k) (bcells (L.drop k))) := by
    rw [bcells_drop]
    exact (HH.out.cut k hk).below hbel
   have hne : ¬ cap = k := by omega
   obtain ⟨_, hd2, hd3⟩ := dec_drop L k (by rw [HL.out]; exact hlt)
   have hd1 := val_drop L k (by rw [HL.out]; exact hlt)
   obtain ⟨R, hR⟩ : ∃ R, R = rd (L.drop k) := ⟨_, rfl⟩
   rw [← hR] at hd1 hd2 hd3
   rw [HL.out] at hd3
   have HD := hid hd1
   have HR := hid hR
   clear hd1 hR
   go_wp2_with fail
   refine (read_any b (off + k) (n - k) (cap - k) (L.drop k) _ hcut.out (by unfold maxLen; omega) (by omega) R HR.out).mono ?_
   rintro e w1 ⟨rfl, hb1⟩
   have hbel1 := hbel.trans (hb1.mono hbel.size)
   clear hbel
   cases hw : R.2.2
   ·have HV : Hid (val L = false) := by
     have e := HT.out
     rw [HD.out, hw] at e
     exact e.symm
    go_wp2
    go_ret
    rw [HV.out]
    exact ⟨rfl, hbel1⟩
   ·have HV : Hid (val (L.drop (k + R.2.1.toNat)) = val L) := by
     have e := HT.out
     rw [HD.out, hw, Bool.true_and] at e
     exact e
    go_wp2
    go_roundw
    case rel => exact ⟨k + R.2.1.toNat, by omega, by rw [show ((k + R.2.1.toNat : Nat) : Int) = (k : Int) + R.2.1 by omega], hbel1, HV⟩
    case measure => simp [intOf]; omega
  ·obtain rfl : k = n := by omega
   have HE : Hid (val L = true) := by
    have e := HT.out
    rw [← HL.out, List.drop_length] at e
    exact e.symm
   go_wp2
   go_ret
   rw [HE.out]
   exact ⟨rfl, hbel⟩
end Go.Proofs.YtegpfgccaminkaaGreatDoor.UtfR
namespace Go.Proofs.YtegpfgccaminkaaGreatDoor.UtfE
open Go.RowKit Base
def enc (l : List Int) : List UInt8 := l.flatMap Lib.encodeRune
theorem cells_rune (r : Int) : Lib.runeCells r = bcells (Lib.encodeRune r) := (Lib.byteCells_encodeRune r).symm
theorem enc_snoc (l : List Int) (r : Int) : enc (l ++ [r]) = enc l ++ Lib.encodeRune r := by simp [enc]
theorem rune_len (r : Int) : 1 ≤ (Lib.encodeRune r).length ∧ (Lib.encodeRune r).length ≤ 4 := by
 have := Lib.runeCells_le r
 rw [Lib.runeCells_length] at this
 exact this
theorem enc_len (l : List Int) : (enc l).length ≤ 4 * l.length ∧ l.length ≤ (enc l).length := by
 induction l with
 | nil => simp [enc]
 | cons r l ih =>
  have h := rune_len r
  have e : enc (r :: l) = Lib.encodeRune r ++ enc l := by simp [enc]
  rw [e, List.length_append, List.length_cons]
  omega
def Rune (r : Int) : Prop := -2147483648 ≤ r ∧ r ≤ 2147483647
theorem encode_any (A : Option Addr) (n cap : Nat) (l : List Int) (w : World) (h : Rds w A n (icells .i32 l)) (hr : ∀ r ∈ l, Rune r) (hm : n ≤ 1073741824) :
  Calls Tryz.prog 105 #[.slice A n cap] w fun e w' => ∃ v, e = .returned v ∧ w'.ownsRow w.heap.size 5 1 v (enc l).length (bcells (enc l)) ∧ Below w.heap.size w w' := by
 have hl : l.length = n := by rw [← length_icells .i32]; exact h.1
 have HL := hid hl
 clear hl
 have HH := hid h
 clear h
 have HR := hid hr
 clear hr
 go_enter Tryz.func105, Tryz.ntmps105
 go_wp2
 go_loopw [3, 8] (fun v vk wr => ∃ (k : Nat), k ≤ n ∧ vk = .int .i64 k ∧ wr.ownsRow w.heap.size 5 1 v (enc (l.take k)).length (bcells (enc (l.take k))) ∧ Below w.heap.size w wr) (fun _ vk _ => n - (intOf vk).toNat)
 case atStart => exact ⟨0, Nat.zero_le _, rfl, World.ownsRow_nil _ _ _ _, Below.refl _ _⟩
 case round =>
  obtain ⟨k, hk, rfl, hown, hbel⟩ := hrel
  by_cases hlt : k < n
  ·obtain ⟨b, off, rfl, hb, _⟩ := (HH.out).spot (by omega)
   obtain ⟨r, hx⟩ : ∃ r, r = l[k]'(by rw [HL.out]; exact hlt) := ⟨_, rfl⟩
   have hcell : wr.cell? ⟨b, off + k, none⟩ = some (.int .i32 r) := by
    rw [hx, ← HH.out.int k (by rw [HL.out]; exact hlt)]
    exact hbel.cell (p := ⟨b, off + k, none⟩) hb
   have hRr : Rune r := by rw [hx]; exact HR.out _ (List.getElem_mem _)
   obtain ⟨hr1, hr2⟩ := hRr
   have HS : Hid (l.take (k + 1) = l.take k ++ [r]) := by
    rw [hx]
    exact List.take_succ_eq_append_getElem (by rw [HL.out]; exact hlt)
   clear hx
   have hle := (enc_len (l.take k)).1
   have hle2 : (l.take k).length ≤ k := List.length_take_le _ _
   obtain ⟨m, hmm⟩ : ∃ m, m = (enc (l.take k)).length := ⟨_, rfl⟩
   rw [← hmm] at hle hown
   have HM := hid hmm
   clear hmm
   go_wp2_with fail
   refine (Tryz.utf8_AppendRune_plain w.heap.size _ _ _ r hr1 hr2 _ hown (by omega) hbel.size).mono ?_
   rintro e w1 ⟨v', rfl, hown1, o, hg⟩
   have hbel1 : Below w.heap.size w w1 := (hbel.alloc hbel.size o).grown hg (by have := hbel.size; simp; omega) (fun g hg => (hown.lt g hg).1)
   clear hown hbel
   go_wp2
   go_roundw
   case rel => exact ⟨k + 1, by omega, by go_num, by
     rw [HS.out, enc_snoc, List.length_append, bcells_append, ← cells_rune, ← Lib.runeCells_length, ← HM.out]
     exact hown1, hbel1⟩
   case measure => simp [intOf]; omega
  ·obtain rfl : k = n := by omega
   have HE : Hid (l.take k = l) := by
    rw [← HL.out]; exact List.take_length
   go_wp2
   go_ret
   exact ⟨_, rfl, by rw [HE.out] at hown; exact hown, hbel⟩
end Go.Proofs.YtegpfgccaminkaaGreatDoor.UtfE
