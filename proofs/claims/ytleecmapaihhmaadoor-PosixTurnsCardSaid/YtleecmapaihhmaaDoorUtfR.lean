/- Contract of utf.lead and utf.read: the first character of bytes that aren't empty, how many bytes it takes, and whether they are its own. -/
import Derived.Test.YtleecmapaihhmaaDoorMA
import Derived.Deep.QuietTactic
import Derived.BigQuiet
set_option linter.unusedSimpArgs false
set_option linter.unusedVariables false
namespace Go.Proofs.YtleecmapaihhmaaDoor.UtfR
open Go.RowKit Go.Proofs.YtleecmapaihhmaaDoor.Base

def size (c : Int) : Int := if c ≤ 127 then 1 else if 194 ≤ c ∧ c ≤ 223 then 2 else if 224 ≤ c ∧ c ≤ 239 then 3 else if 240 ≤ c ∧ c ≤ 244 then 4 else 0
def lo (c : Int) : Int := if c ≤ 193 ∨ 245 ≤ c then 0 else if c = 224 then 160 else if c = 240 then 144 else 128
def hi (c : Int) : Int := if c ≤ 193 ∨ 245 ≤ c then 0 else if c = 237 then 159 else if c = 244 then 143 else 191
theorem lead_any (c : Int) (w : World) : Calls Tryd.prog 52 #[.int .u8 c] w fun e w' => e = .returned (.tuple #[.int .i64 (size c), .int .u8 (lo c), .int .u8 (hi c)]) ∧ w = w' := by
  go_enter Tryd.func52, Tryd.ntmps52
  go_wp2
  all_goals
    try simp only [beq_iff_eq, beq_eq_false_iff_ne, ne_eq] at *
    go_ret3
    exact ⟨ret3 (int_eq (by unfold size; (repeat' split) <;> omega)) (int_eq (by unfold lo; (repeat' split) <;> omega)) (int_eq (by unfold hi; (repeat' split) <;> omega)), rfl⟩
theorem read_one (b off n cap : Nat) (c : Int) (w : World) (hc : w.cell? ⟨b, off, none⟩ = some (.int .u8 c)) (h0 : 0 < n) (h1 : 0 ≤ c) (h2 : c ≤ 127) :
    Calls Tryd.prog 37 #[.slice (some ⟨b, off, none⟩) n cap] w fun e w' => e = .returned (.tuple #[.int .i32 c, .int .i64 1, .bool true]) ∧ w = w' := by
  have hs : size c = 1 := by unfold size; (repeat' split) <;> omega
  have HS := hid hs
  clear hs
  have hp : (0 : Int) < (n : Int) := by omega
  go_enter Tryd.func37, Tryd.ntmps37
  go_wp2_with (go_at_call 52; refine (lead_any _ _).mono ?_; rintro e w' ⟨rfl, rfl⟩; rw [HS.out])
  go_ret3
  exact ⟨rfl, rfl⟩
theorem read_none (b off n cap : Nat) (c : Int) (w : World) (hc : w.cell? ⟨b, off, none⟩ = some (.int .u8 c)) (h0 : 0 < n) (h1 : (128 ≤ c ∧ c ≤ 193) ∨ 245 ≤ c) :
    Calls Tryd.prog 37 #[.slice (some ⟨b, off, none⟩) n cap] w fun e w' => e = .returned (.tuple #[.int .i32 65533, .int .i64 1, .bool false]) ∧ w = w' := by
  have hs : size c = 0 := by unfold size; (repeat' split) <;> omega
  have HS := hid hs
  clear hs
  have hp : (0 : Int) < (n : Int) := by omega
  go_enter Tryd.func37, Tryd.ntmps37
  go_wp2_with (go_at_call 52; refine (lead_any _ _).mono ?_; rintro e w' ⟨rfl, rfl⟩; rw [HS.out])
  go_ret3
  exact ⟨rfl, rfl⟩

/-- What is left to be read of a character that takes more than one byte: m bytes more, k taken, the number r so far. -/
def tail : Nat → Nat → Int → Int → Int → List UInt8 → Int × Int × Bool
  | 0, k, _, _, r, _ => (r, k, true)
  | _ + 1, k, _, _, _, [] => (65533, k, false)
  | m + 1, k, l, h, r, c :: t => if (c.toNat : Int) < l ∨ h < (c.toNat : Int) then (65533, k, false) else tail m (k + 1) 128 191 (r * 64 + (c.toNat : Int) % 64) t
def room : Nat → Int
  | 0 => 0
  | 1 => 32
  | 2 => 2048
  | 3 => 131072
  | _ => 8388608
theorem room_step (k : Nat) (h0 : 1 ≤ k) (h1 : k ≤ 3) : room (k + 1) = room k * 64 ∧ room k ≤ 131072 := by
  match k, h0, h1 with
  | 1, _, _ => decide
  | 2, _, _ => decide
  | 3, _, _ => decide
set_option maxRecDepth 100000 in
theorem read_2 (b off cap : Nat) (L : List UInt8) (c : Int) (w : World) (hc : w.cell? ⟨b, off, none⟩ = some (.int .u8 c)) (hL : ∀ j (h : j < L.length), w.cell? ⟨b, off + j, none⟩ = some (.int .u8 (L[j].toNat : Int)))
    (hm : L.length ≤ maxLen) (h0 : 0 < L.length) (h1 : 194 ≤ c) (h2 : c ≤ 223) (R : Int × Int × Bool) (hR : R = tail 1 1 (lo c) (hi c) (c % 32) (L.drop 1)) :
    Calls Tryd.prog 37 #[.slice (some ⟨b, off, none⟩) L.length cap] w fun e w' => e = .returned (.tuple #[.int .i32 R.1, .int .i64 R.2.1, .bool R.2.2]) ∧ Below w.heap.size w w' := by
  have hs : size c = 2 := by unfold size; (repeat' split) <;> omega
  have HS := hid hs
  clear hs
  unfold maxLen at hm
  have hp : (0 : Int) < (L.length : Int) := by omega
  have HL := hid hL
  clear hL
  have HR := hid hR
  clear hR
  have hr0 : 0 ≤ c % 32 ∧ c % 32 < 32 := by omega
  go_enter Tryd.func37, Tryd.ntmps37
  go_wp2_with (go_at_call 52; refine (lead_any _ _).mono ?_; rintro e w' ⟨rfl, rfl⟩; rw [HS.out])
  go_quiet (fail)
  go_wp2
  go_loop [6, 7, 8, 9] (fun vl vh vr vk => ∃ (k : Nat) (l h r : Int), 1 ≤ k ∧ k ≤ 2 ∧ k ≤ L.length ∧ vk = .int .i64 k ∧ vl = .int .u8 l ∧ vh = .int .u8 h ∧ vr = .int .i32 r ∧ 0 ≤ r ∧ r < room k ∧ Hid (R = tail (2 - k) k l h r (L.drop k))) (fun _ _ _ vk => 2 - (intOf vk).toNat)
  case atStart => exact ⟨1, lo c, hi c, c % 32, by omega, by omega, by omega, rfl, rfl, rfl, rfl, hr0.1, hr0.2, HR⟩
  case round =>
    obtain ⟨k, l, h, r, hk1, hk2, hkn, rfl, rfl, rfl, rfl, hr1, hr2, HT⟩ := hrel
    by_cases hlt : k < 2
    · obtain ⟨hb1, hb2⟩ := room_step k hk1 (by omega)
      have HB := hid hb1
      clear hb1
      have hr3 : r < 131072 := by omega
      have es : 2 - k = (2 - (k + 1)) + 1 := by omega
      have HT2 : Hid (R = tail ((2 - (k + 1)) + 1) k l h r (L.drop k)) := by rw [← es]; exact HT
      clear es HT
      by_cases hn : k < L.length
      · obtain ⟨x, hx⟩ : ∃ x, x = L[k] := ⟨_, rfl⟩
        have hcell : w.cell? ⟨b, off + k, none⟩ = some (.int .u8 (x.toNat : Int)) := by rw [hx]; exact HL.out k hn
        have HT3 : Hid (R = tail ((2 - (k + 1)) + 1) k l h r (x :: L.drop (k + 1))) := by
          have hd : L.drop k = x :: L.drop (k + 1) := by rw [hx]; exact List.drop_eq_getElem_cons hn
          rw [← hd]; exact HT2
        clear HT2 hx
        have hx2 : (x.toNat : Int) < 256 := by have := x.toNat_lt; omega
        have hne : ((k : Int) == (L.length : Int)) = false := by simp; omega
        by_cases ht : (x.toNat : Int) < l ∨ h < (x.toNat : Int)
        · have HT4 : Hid (R = (65533, (k : Int), false)) := by
            have e := HT3.out
            rw [tail, if_pos ht] at e
            exact e
          clear HT3
          go_wp2
          all_goals
            go_ret3
            rw [HT4.out]
            exact ⟨rfl, Base.below_drewN (Below.refl _ _) _⟩
        · have HT4 : Hid (R = tail (2 - (k + 1)) (k + 1) 128 191 (r * 64 + (x.toNat : Int) % 64) (L.drop (k + 1))) := by
            have e := HT3.out
            rw [tail, if_neg ht] at e
            exact e
          clear HT3
          have ht1 : l ≤ (x.toNat : Int) := by omega
          have ht2 : (x.toNat : Int) ≤ h := by omega
          clear ht
          go_wp2
          go_round
          case rel => exact ⟨k + 1, 128, 191, r * 64 + (x.toNat : Int) % 64, by omega, by omega, by omega, by go_num, rfl, rfl, rfl, by omega, by rw [HB.out]; omega, HT4⟩
          case measure => simp [intOf]; omega
      · obtain rfl : k = L.length := by omega
        have HT4 : Hid (R = (65533, (L.length : Int), false)) := by
          have e := HT2.out
          rw [List.drop_length, tail] at e
          exact e
        clear HT2
        go_wp2
        go_ret3
        rw [HT4.out]
        exact ⟨rfl, Base.below_drewN (Below.refl _ _) _⟩
    · obtain rfl : k = 2 := by omega
      have HT4 : Hid (R = (r, 2, true)) := by
        have e := HT.out
        rw [Nat.sub_self, tail] at e
        exact e
      clear HT
      go_wp2
      go_ret3
      rw [HT4.out]
      exact ⟨rfl, Base.below_drewN (Below.refl _ _) _⟩
set_option maxRecDepth 100000 in
theorem read_3 (b off cap : Nat) (L : List UInt8) (c : Int) (w : World) (hc : w.cell? ⟨b, off, none⟩ = some (.int .u8 c)) (hL : ∀ j (h : j < L.length), w.cell? ⟨b, off + j, none⟩ = some (.int .u8 (L[j].toNat : Int)))
    (hm : L.length ≤ maxLen) (h0 : 0 < L.length) (h1 : 224 ≤ c) (h2 : c ≤ 239) (R : Int × Int × Bool) (hR : R = tail 2 1 (lo c) (hi c) (c % 16) (L.drop 1)) :
    Calls Tryd.prog 37 #[.slice (some ⟨b, off, none⟩) L.length cap] w fun e w' => e = .returned (.tuple #[.int .i32 R.1, .int .i64 R.2.1, .bool R.2.2]) ∧ Below w.heap.size w w' := by
  have hs : size c = 3 := by unfold size; (repeat' split) <;> omega
  have HS := hid hs
  clear hs
  unfold maxLen at hm
  have hp : (0 : Int) < (L.length : Int) := by omega
  have HL := hid hL
  clear hL
  have HR := hid hR
  clear hR
  have hr0 : 0 ≤ c % 16 ∧ c % 16 < 32 := by omega
  go_enter Tryd.func37, Tryd.ntmps37
  go_wp2_with (go_at_call 52; refine (lead_any _ _).mono ?_; rintro e w' ⟨rfl, rfl⟩; rw [HS.out])
  go_quiet (fail)
  go_wp2
  go_loop [6, 7, 8, 9] (fun vl vh vr vk => ∃ (k : Nat) (l h r : Int), 1 ≤ k ∧ k ≤ 3 ∧ k ≤ L.length ∧ vk = .int .i64 k ∧ vl = .int .u8 l ∧ vh = .int .u8 h ∧ vr = .int .i32 r ∧ 0 ≤ r ∧ r < room k ∧ Hid (R = tail (3 - k) k l h r (L.drop k))) (fun _ _ _ vk => 3 - (intOf vk).toNat)
  case atStart => exact ⟨1, lo c, hi c, c % 16, by omega, by omega, by omega, rfl, rfl, rfl, rfl, hr0.1, hr0.2, HR⟩
  case round =>
    obtain ⟨k, l, h, r, hk1, hk2, hkn, rfl, rfl, rfl, rfl, hr1, hr2, HT⟩ := hrel
    by_cases hlt : k < 3
    · obtain ⟨hb1, hb2⟩ := room_step k hk1 (by omega)
      have HB := hid hb1
      clear hb1
      have hr3 : r < 131072 := by omega
      have es : 3 - k = (3 - (k + 1)) + 1 := by omega
      have HT2 : Hid (R = tail ((3 - (k + 1)) + 1) k l h r (L.drop k)) := by rw [← es]; exact HT
      clear es HT
      by_cases hn : k < L.length
      · obtain ⟨x, hx⟩ : ∃ x, x = L[k] := ⟨_, rfl⟩
        have hcell : w.cell? ⟨b, off + k, none⟩ = some (.int .u8 (x.toNat : Int)) := by rw [hx]; exact HL.out k hn
        have HT3 : Hid (R = tail ((3 - (k + 1)) + 1) k l h r (x :: L.drop (k + 1))) := by
          have hd : L.drop k = x :: L.drop (k + 1) := by rw [hx]; exact List.drop_eq_getElem_cons hn
          rw [← hd]; exact HT2
        clear HT2 hx
        have hx2 : (x.toNat : Int) < 256 := by have := x.toNat_lt; omega
        have hne : ((k : Int) == (L.length : Int)) = false := by simp; omega
        by_cases ht : (x.toNat : Int) < l ∨ h < (x.toNat : Int)
        · have HT4 : Hid (R = (65533, (k : Int), false)) := by
            have e := HT3.out
            rw [tail, if_pos ht] at e
            exact e
          clear HT3
          go_wp2
          all_goals
            go_ret3
            rw [HT4.out]
            exact ⟨rfl, Base.below_drewN (Below.refl _ _) _⟩
        · have HT4 : Hid (R = tail (3 - (k + 1)) (k + 1) 128 191 (r * 64 + (x.toNat : Int) % 64) (L.drop (k + 1))) := by
            have e := HT3.out
            rw [tail, if_neg ht] at e
            exact e
          clear HT3
          have ht1 : l ≤ (x.toNat : Int) := by omega
          have ht2 : (x.toNat : Int) ≤ h := by omega
          clear ht
          go_wp2
          go_round
          case rel => exact ⟨k + 1, 128, 191, r * 64 + (x.toNat : Int) % 64, by omega, by omega, by omega, by go_num, rfl, rfl, rfl, by omega, by rw [HB.out]; omega, HT4⟩
          case measure => simp [intOf]; omega
      · obtain rfl : k = L.length := by omega
        have HT4 : Hid (R = (65533, (L.length : Int), false)) := by
          have e := HT2.out
          rw [List.drop_length, tail] at e
          exact e
        clear HT2
        go_wp2
        go_ret3
        rw [HT4.out]
        exact ⟨rfl, Base.below_drewN (Below.refl _ _) _⟩
    · obtain rfl : k = 3 := by omega
      have HT4 : Hid (R = (r, 3, true)) := by
        have e := HT.out
        rw [Nat.sub_self, tail] at e
        exact e
      clear HT
      go_wp2
      go_ret3
      rw [HT4.out]
      exact ⟨rfl, Base.below_drewN (Below.refl _ _) _⟩
set_option maxRecDepth 100000 in
theorem read_4 (b off cap : Nat) (L : List UInt8) (c : Int) (w : World) (hc : w.cell? ⟨b, off, none⟩ = some (.int .u8 c)) (hL : ∀ j (h : j < L.length), w.cell? ⟨b, off + j, none⟩ = some (.int .u8 (L[j].toNat : Int)))
    (hm : L.length ≤ maxLen) (h0 : 0 < L.length) (h1 : 240 ≤ c) (h2 : c ≤ 244) (R : Int × Int × Bool) (hR : R = tail 3 1 (lo c) (hi c) (c % 8) (L.drop 1)) :
    Calls Tryd.prog 37 #[.slice (some ⟨b, off, none⟩) L.length cap] w fun e w' => e = .returned (.tuple #[.int .i32 R.1, .int .i64 R.2.1, .bool R.2.2]) ∧ Below w.heap.size w w' := by
  have hs : size c = 4 := by unfold size; (repeat' split) <;> omega
  have HS := hid hs
  clear hs
  unfold maxLen at hm
  have hp : (0 : Int) < (L.length : Int) := by omega
  have HL := hid hL
  clear hL
  have HR := hid hR
  clear hR
  have hr0 : 0 ≤ c % 8 ∧ c % 8 < 32 := by omega
  go_enter Tryd.func37, Tryd.ntmps37
  go_wp2_with (go_at_call 52; refine (lead_any _ _).mono ?_; rintro e w' ⟨rfl, rfl⟩; rw [HS.out])
  go_quiet (fail)
  go_wp2
  go_loop [6, 7, 8, 9] (fun vl vh vr vk => ∃ (k : Nat) (l h r : Int), 1 ≤ k ∧ k ≤ 4 ∧ k ≤ L.length ∧ vk = .int .i64 k ∧ vl = .int .u8 l ∧ vh = .int .u8 h ∧ vr = .int .i32 r ∧ 0 ≤ r ∧ r < room k ∧ Hid (R = tail (4 - k) k l h r (L.drop k))) (fun _ _ _ vk => 4 - (intOf vk).toNat)
  case atStart => exact ⟨1, lo c, hi c, c % 8, by omega, by omega, by omega, rfl, rfl, rfl, rfl, hr0.1, hr0.2, HR⟩
  case round =>
    obtain ⟨k, l, h, r, hk1, hk2, hkn, rfl, rfl, rfl, rfl, hr1, hr2, HT⟩ := hrel
    by_cases hlt : k < 4
    · obtain ⟨hb1, hb2⟩ := room_step k hk1 (by omega)
      have HB := hid hb1
      clear hb1
      have hr3 : r < 131072 := by omega
      have es : 4 - k = (4 - (k + 1)) + 1 := by omega
      have HT2 : Hid (R = tail ((4 - (k + 1)) + 1) k l h r (L.drop k)) := by rw [← es]; exact HT
      clear es HT
      by_cases hn : k < L.length
      · obtain ⟨x, hx⟩ : ∃ x, x = L[k] := ⟨_, rfl⟩
        have hcell : w.cell? ⟨b, off + k, none⟩ = some (.int .u8 (x.toNat : Int)) := by rw [hx]; exact HL.out k hn
        have HT3 : Hid (R = tail ((4 - (k + 1)) + 1) k l h r (x :: L.drop (k + 1))) := by
          have hd : L.drop k = x :: L.drop (k + 1) := by rw [hx]; exact List.drop_eq_getElem_cons hn
          rw [← hd]; exact HT2
        clear HT2 hx
        have hx2 : (x.toNat : Int) < 256 := by have := x.toNat_lt; omega
        have hne : ((k : Int) == (L.length : Int)) = false := by simp; omega
        by_cases ht : (x.toNat : Int) < l ∨ h < (x.toNat : Int)
        · have HT4 : Hid (R = (65533, (k : Int), false)) := by
            have e := HT3.out
            rw [tail, if_pos ht] at e
            exact e
          clear HT3
          go_wp2
          all_goals
            go_ret3
            rw [HT4.out]
            exact ⟨rfl, Base.below_drewN (Below.refl _ _) _⟩
        · have HT4 : Hid (R = tail (4 - (k + 1)) (k + 1) 128 191 (r * 64 + (x.toNat : Int) % 64) (L.drop (k + 1))) := by
            have e := HT3.out
            rw [tail, if_neg ht] at e
            exact e
          clear HT3
          have ht1 : l ≤ (x.toNat : Int) := by omega
          have ht2 : (x.toNat : Int) ≤ h := by omega
          clear ht
          go_wp2
          go_round
          case rel => exact ⟨k + 1, 128, 191, r * 64 + (x.toNat : Int) % 64, by omega, by omega, by omega, by go_num, rfl, rfl, rfl, by omega, by rw [HB.out]; omega, HT4⟩
          case measure => simp [intOf]; omega
      · obtain rfl : k = L.length := by omega
        have HT4 : Hid (R = (65533, (L.length : Int), false)) := by
          have e := HT2.out
          rw [List.drop_length, tail] at e
          exact e
        clear HT2
        go_wp2
        go_ret3
        rw [HT4.out]
        exact ⟨rfl, Base.below_drewN (Below.refl _ _) _⟩
    · obtain rfl : k = 4 := by omega
      have HT4 : Hid (R = (r, 4, true)) := by
        have e := HT.out
        rw [Nat.sub_self, tail] at e
        exact e
      clear HT
      go_wp2
      go_ret3
      rw [HT4.out]
      exact ⟨rfl, Base.below_drewN (Below.refl _ _) _⟩

end Go.Proofs.YtleecmapaihhmaaDoor.UtfR
