/- The document's own number of layer 1: of a character's bytes. -/
import Derived.Test.YtleecmapaihhmaaDoorRefN
set_option linter.unusedSimpArgs false
set_option linter.unusedVariables false
namespace Go.Proofs.YtleecmapaihhmaaDoor.RefM
open Go.RowKit Go.Proofs.YtleecmapaihhmaaDoor.Base Go.Proofs.YtleecmapaihhmaaDoor.Base2 Go.Proofs.YtleecmapaihhmaaDoor.UtfR Go.Proofs.YtleecmapaihhmaaDoor.RefS Go.Proofs.YtleecmapaihhmaaDoor.RefN

set_option maxRecDepth 100000 in
theorem number_1 (b off cap : Nat) (x : UInt8) (t : List UInt8) (w : World) (hn : t.length = 0) (k2 : (x.toNat : Int) ≤ 127)
    (hL : ∀ j (h : j < (x :: t).length), w.cell? ⟨b, off + j, none⟩ = some (.int .u8 ((x :: t)[j].toNat : Int))) (hok : okT t) :
    Calls Tryd.prog 46 #[.slice (some ⟨b, off, none⟩) 1 cap] w fun e w' => e = .returned (.int .i32 (fo (first x.toNat) t)) ∧ w = w' := by
  have hc0 : w.cell? ⟨b, off, none⟩ = some (.int .u8 (x.toNat : Int)) := by
    have := hL 0 (by simp)
    rw [Nat.add_zero] at this
    exact this
  have hx0 : 0 ≤ (x.toNat : Int) := by omega
  have hf : first x.toNat = (x.toNat : Int) := by unfold first; (repeat' split) <;> omega
  obtain ⟨f, hf2⟩ : ∃ f, f = first x.toNat := ⟨_, rfl⟩
  rw [← hf2] at hf ⊢
  have hb0 : 0 ≤ (x.toNat : Int) ∧ (x.toNat : Int) < 128 := by omega
  have HL := hid hL
  have HN := hid hn
  have HO := hid hok
  have HF := hid hf
  clear hL hn hok hf hf2
  go_enter Tryd.func46, Tryd.ntmps46
  go_wp2
  go_loop [3, 4] (fun vr vk => ∃ (k : Nat) (r : Int), 1 ≤ k ∧ k ≤ 1 ∧ vk = .int .i64 k ∧ vr = .int .i32 r ∧ 0 ≤ r ∧ r < 4 * room k ∧ Hid (fo r (t.drop (k - 1)) = fo f t)) (fun _ vk => 1 - (intOf vk).toNat)
  case atStart => exact ⟨1, (x.toNat : Int), by omega, by omega, rfl, rfl, by omega, by have : room 1 = 32 := rfl; omega, by rw [HF.out]; exact rfl⟩
  case round =>
    obtain ⟨k, r, hk1, hk2, rfl, rfl, hr1, hr2, HT⟩ := hrel
    by_cases hlt : k < 1
    · exact absurd hlt (by omega)
    · obtain rfl : k = 1 := by omega
      have HE : Hid (fo f t = r) := by
        have e := HT.out
        rw [List.drop_of_length_le (by have := HN.out; omega)] at e
        exact e.symm
      go_wp2
      go_ret
      rw [HE.out]
      exact ⟨rfl, rfl⟩
set_option maxRecDepth 100000 in
theorem number_2 (b off cap : Nat) (x : UInt8) (t : List UInt8) (w : World) (hn : t.length = 1) (k1 : 194 ≤ (x.toNat : Int)) (k2 : (x.toNat : Int) ≤ 223)
    (hL : ∀ j (h : j < (x :: t).length), w.cell? ⟨b, off + j, none⟩ = some (.int .u8 ((x :: t)[j].toNat : Int))) (hok : okT t) :
    Calls Tryd.prog 46 #[.slice (some ⟨b, off, none⟩) 2 cap] w fun e w' => e = .returned (.int .i32 (fo (first x.toNat) t)) ∧ w = w' := by
  have hc0 : w.cell? ⟨b, off, none⟩ = some (.int .u8 (x.toNat : Int)) := by
    have := hL 0 (by simp)
    rw [Nat.add_zero] at this
    exact this
  have hx0 : 0 ≤ (x.toNat : Int) := by omega
  have hf : first x.toNat = (x.toNat : Int) - 192 := by unfold first; (repeat' split) <;> omega
  obtain ⟨f, hf2⟩ : ∃ f, f = first x.toNat := ⟨_, rfl⟩
  rw [← hf2] at hf ⊢
  have hb0 : 0 ≤ (x.toNat : Int) - 192 ∧ (x.toNat : Int) - 192 < 128 := by omega
  have HL := hid hL
  have HN := hid hn
  have HO := hid hok
  have HF := hid hf
  clear hL hn hok hf hf2
  go_enter Tryd.func46, Tryd.ntmps46
  go_wp2
  go_loop [3, 4] (fun vr vk => ∃ (k : Nat) (r : Int), 1 ≤ k ∧ k ≤ 2 ∧ vk = .int .i64 k ∧ vr = .int .i32 r ∧ 0 ≤ r ∧ r < 4 * room k ∧ Hid (fo r (t.drop (k - 1)) = fo f t)) (fun _ vk => 2 - (intOf vk).toNat)
  case atStart => exact ⟨1, (x.toNat : Int) - 192, by omega, by omega, rfl, rfl, by omega, by have : room 1 = 32 := rfl; omega, by rw [HF.out]; exact rfl⟩
  case round =>
    obtain ⟨k, r, hk1, hk2, rfl, rfl, hr1, hr2, HT⟩ := hrel
    by_cases hlt : k < 2
    · obtain ⟨hb1, hb2⟩ := room_step k hk1 (by omega)
      have HB := hid hb1
      clear hb1
      have hr3 : r < 524288 := by omega
      have hlx : k - 1 < t.length := by have := HN.out; omega
      obtain ⟨c, hc⟩ : ∃ c, c = t[k - 1] := ⟨_, rfl⟩
      have hcell : w.cell? ⟨b, off + k, none⟩ = some (.int .u8 (c.toNat : Int)) := by
        rw [HL.out k (by simp; omega), hc]
        obtain ⟨i, rfl⟩ : ∃ i, k = i + 1 := ⟨k - 1, by omega⟩
        simp
      obtain ⟨hc1, hc2⟩ := HO.out c (by rw [hc]; exact List.getElem_mem _)
      have HD : Hid (fo (r * 64 + ((c.toNat : Int) - 128)) (t.drop k) = fo f t) := by
        have e := HT.out
        rw [List.drop_eq_getElem_cons hlx, ← hc, show k - 1 + 1 = k by omega] at e
        rw [show (c.toNat : Int) - 128 = (c.toNat : Int) % 64 by omega]
        exact e
      clear hc HT
      go_wp2
      go_round
      case rel => exact ⟨k + 1, r * 64 + ((c.toNat : Int) - 128), by omega, by omega, by go_num, int_eq (by omega), by omega, by rw [HB.out]; omega, HD⟩
      case measure => simp [intOf]; omega
    · obtain rfl : k = 2 := by omega
      have HE : Hid (fo f t = r) := by
        have e := HT.out
        rw [List.drop_of_length_le (by have := HN.out; omega)] at e
        exact e.symm
      go_wp2
      go_ret
      rw [HE.out]
      exact ⟨rfl, rfl⟩
set_option maxRecDepth 100000 in
theorem number_3 (b off cap : Nat) (x : UInt8) (t : List UInt8) (w : World) (hn : t.length = 2) (k1 : 224 ≤ (x.toNat : Int)) (k2 : (x.toNat : Int) ≤ 239)
    (hL : ∀ j (h : j < (x :: t).length), w.cell? ⟨b, off + j, none⟩ = some (.int .u8 ((x :: t)[j].toNat : Int))) (hok : okT t) :
    Calls Tryd.prog 46 #[.slice (some ⟨b, off, none⟩) 3 cap] w fun e w' => e = .returned (.int .i32 (fo (first x.toNat) t)) ∧ w = w' := by
  have hc0 : w.cell? ⟨b, off, none⟩ = some (.int .u8 (x.toNat : Int)) := by
    have := hL 0 (by simp)
    rw [Nat.add_zero] at this
    exact this
  have hx0 : 0 ≤ (x.toNat : Int) := by omega
  have hf : first x.toNat = (x.toNat : Int) - 224 := by unfold first; (repeat' split) <;> omega
  obtain ⟨f, hf2⟩ : ∃ f, f = first x.toNat := ⟨_, rfl⟩
  rw [← hf2] at hf ⊢
  have hb0 : 0 ≤ (x.toNat : Int) - 224 ∧ (x.toNat : Int) - 224 < 128 := by omega
  have HL := hid hL
  have HN := hid hn
  have HO := hid hok
  have HF := hid hf
  clear hL hn hok hf hf2
  go_enter Tryd.func46, Tryd.ntmps46
  go_wp2
  go_loop [3, 4] (fun vr vk => ∃ (k : Nat) (r : Int), 1 ≤ k ∧ k ≤ 3 ∧ vk = .int .i64 k ∧ vr = .int .i32 r ∧ 0 ≤ r ∧ r < 4 * room k ∧ Hid (fo r (t.drop (k - 1)) = fo f t)) (fun _ vk => 3 - (intOf vk).toNat)
  case atStart => exact ⟨1, (x.toNat : Int) - 224, by omega, by omega, rfl, rfl, by omega, by have : room 1 = 32 := rfl; omega, by rw [HF.out]; exact rfl⟩
  case round =>
    obtain ⟨k, r, hk1, hk2, rfl, rfl, hr1, hr2, HT⟩ := hrel
    by_cases hlt : k < 3
    · obtain ⟨hb1, hb2⟩ := room_step k hk1 (by omega)
      have HB := hid hb1
      clear hb1
      have hr3 : r < 524288 := by omega
      have hlx : k - 1 < t.length := by have := HN.out; omega
      obtain ⟨c, hc⟩ : ∃ c, c = t[k - 1] := ⟨_, rfl⟩
      have hcell : w.cell? ⟨b, off + k, none⟩ = some (.int .u8 (c.toNat : Int)) := by
        rw [HL.out k (by simp; omega), hc]
        obtain ⟨i, rfl⟩ : ∃ i, k = i + 1 := ⟨k - 1, by omega⟩
        simp
      obtain ⟨hc1, hc2⟩ := HO.out c (by rw [hc]; exact List.getElem_mem _)
      have HD : Hid (fo (r * 64 + ((c.toNat : Int) - 128)) (t.drop k) = fo f t) := by
        have e := HT.out
        rw [List.drop_eq_getElem_cons hlx, ← hc, show k - 1 + 1 = k by omega] at e
        rw [show (c.toNat : Int) - 128 = (c.toNat : Int) % 64 by omega]
        exact e
      clear hc HT
      go_wp2
      go_round
      case rel => exact ⟨k + 1, r * 64 + ((c.toNat : Int) - 128), by omega, by omega, by go_num, int_eq (by omega), by omega, by rw [HB.out]; omega, HD⟩
      case measure => simp [intOf]; omega
    · obtain rfl : k = 3 := by omega
      have HE : Hid (fo f t = r) := by
        have e := HT.out
        rw [List.drop_of_length_le (by have := HN.out; omega)] at e
        exact e.symm
      go_wp2
      go_ret
      rw [HE.out]
      exact ⟨rfl, rfl⟩
set_option maxRecDepth 100000 in
theorem number_4 (b off cap : Nat) (x : UInt8) (t : List UInt8) (w : World) (hn : t.length = 3) (k1 : 240 ≤ (x.toNat : Int)) (k2 : (x.toNat : Int) ≤ 244)
    (hL : ∀ j (h : j < (x :: t).length), w.cell? ⟨b, off + j, none⟩ = some (.int .u8 ((x :: t)[j].toNat : Int))) (hok : okT t) :
    Calls Tryd.prog 46 #[.slice (some ⟨b, off, none⟩) 4 cap] w fun e w' => e = .returned (.int .i32 (fo (first x.toNat) t)) ∧ w = w' := by
  have hc0 : w.cell? ⟨b, off, none⟩ = some (.int .u8 (x.toNat : Int)) := by
    have := hL 0 (by simp)
    rw [Nat.add_zero] at this
    exact this
  have hx0 : 0 ≤ (x.toNat : Int) := by omega
  have hf : first x.toNat = (x.toNat : Int) - 240 := by unfold first; (repeat' split) <;> omega
  obtain ⟨f, hf2⟩ : ∃ f, f = first x.toNat := ⟨_, rfl⟩
  rw [← hf2] at hf ⊢
  have hb0 : 0 ≤ (x.toNat : Int) - 240 ∧ (x.toNat : Int) - 240 < 128 := by omega
  have HL := hid hL
  have HN := hid hn
  have HO := hid hok
  have HF := hid hf
  clear hL hn hok hf hf2
  go_enter Tryd.func46, Tryd.ntmps46
  go_wp2
  go_loop [3, 4] (fun vr vk => ∃ (k : Nat) (r : Int), 1 ≤ k ∧ k ≤ 4 ∧ vk = .int .i64 k ∧ vr = .int .i32 r ∧ 0 ≤ r ∧ r < 4 * room k ∧ Hid (fo r (t.drop (k - 1)) = fo f t)) (fun _ vk => 4 - (intOf vk).toNat)
  case atStart => exact ⟨1, (x.toNat : Int) - 240, by omega, by omega, rfl, rfl, by omega, by have : room 1 = 32 := rfl; omega, by rw [HF.out]; exact rfl⟩
  case round =>
    obtain ⟨k, r, hk1, hk2, rfl, rfl, hr1, hr2, HT⟩ := hrel
    by_cases hlt : k < 4
    · obtain ⟨hb1, hb2⟩ := room_step k hk1 (by omega)
      have HB := hid hb1
      clear hb1
      have hr3 : r < 524288 := by omega
      have hlx : k - 1 < t.length := by have := HN.out; omega
      obtain ⟨c, hc⟩ : ∃ c, c = t[k - 1] := ⟨_, rfl⟩
      have hcell : w.cell? ⟨b, off + k, none⟩ = some (.int .u8 (c.toNat : Int)) := by
        rw [HL.out k (by simp; omega), hc]
        obtain ⟨i, rfl⟩ : ∃ i, k = i + 1 := ⟨k - 1, by omega⟩
        simp
      obtain ⟨hc1, hc2⟩ := HO.out c (by rw [hc]; exact List.getElem_mem _)
      have HD : Hid (fo (r * 64 + ((c.toNat : Int) - 128)) (t.drop k) = fo f t) := by
        have e := HT.out
        rw [List.drop_eq_getElem_cons hlx, ← hc, show k - 1 + 1 = k by omega] at e
        rw [show (c.toNat : Int) - 128 = (c.toNat : Int) % 64 by omega]
        exact e
      clear hc HT
      go_wp2
      go_round
      case rel => exact ⟨k + 1, r * 64 + ((c.toNat : Int) - 128), by omega, by omega, by go_num, int_eq (by omega), by omega, by rw [HB.out]; omega, HD⟩
      case measure => simp [intOf]; omega
    · obtain rfl : k = 4 := by omega
      have HE : Hid (fo f t = r) := by
        have e := HT.out
        rw [List.drop_of_length_le (by have := HN.out; omega)] at e
        exact e.symm
      go_wp2
      go_ret
      rw [HE.out]
      exact ⟨rfl, rfl⟩

theorem starts_any (b off n cap : Nat) (x : UInt8) (t : List UInt8) (w : World) (h : Rds w (some ⟨b, off, none⟩) n (bcells (x :: t))) (hm : n ≤ 16) :
    Calls Tryd.prog 45 #[.slice (some ⟨b, off, none⟩) n cap] w fun e w' => e = .returned (.tuple #[.bool (st (x :: t)).1, .bool (st (x :: t)).2]) ∧ w = w' := by
  have hn : t.length + 1 = n := by have := h.1; rw [length_bcells] at this; exact this
  have hL : ∀ j (hj : j < (x :: t).length), w.cell? ⟨b, off + j, none⟩ = some (.int .u8 ((x :: t)[j].toNat : Int)) := fun j hj => h.byte j hj
  by_cases a : (x.toNat : Int) < 128
  · exact starts_1 b off cap x t n w hn hm (by unfold size; (repeat' split) <;> omega) hL a _ rfl
  by_cases b0 : (x.toNat : Int) ≤ 193
  · exact starts_0a b off cap x t n w hn hm (by unfold size; (repeat' split) <;> omega) hL (by omega) b0 _ rfl
  by_cases b1 : (x.toNat : Int) ≤ 223
  · exact starts_2 b off cap x t n w hn hm (by unfold size; (repeat' split) <;> omega) hL (by omega) b1 _ rfl
  by_cases b2 : (x.toNat : Int) ≤ 239
  · exact starts_3 b off cap x t n w hn hm (by unfold size; (repeat' split) <;> omega) hL (by omega) b2 _ rfl
  by_cases b3 : (x.toNat : Int) ≤ 244
  · exact starts_4 b off cap x t n w hn hm (by unfold size; (repeat' split) <;> omega) hL (by omega) b3 _ rfl
  · exact starts_0b b off cap x t n w hn hm (by unfold size; (repeat' split) <;> omega) hL (by omega) _ rfl
theorem number_any (b off n cap : Nat) (x : UInt8) (t : List UInt8) (w : World) (h : Rds w (some ⟨b, off, none⟩) n (bcells (x :: t))) (hs : st (x :: t) = (true, true)) :
    Calls Tryd.prog 46 #[.slice (some ⟨b, off, none⟩) n cap] w fun e w' => e = .returned (.int .i32 (fo (first x.toNat) t)) ∧ w = w' := by
  have hn : t.length + 1 = n := by have := h.1; rw [length_bcells] at this; exact this
  have hL : ∀ j (hj : j < (x :: t).length), w.cell? ⟨b, off + j, none⟩ = some (.int .u8 ((x :: t)[j].toNat : Int)) := fun j hj => h.byte j hj
  obtain ⟨h1, h2, h3, h4⟩ := st_cases x t true hs
  have h5 : (t.length : Int) + 1 = size x.toNat := by simpa using h4.symm
  have h6 := size_le x.toNat
  have hx0 : 0 ≤ (x.toNat : Int) := by omega
  have hcase : n = 1 ∨ n = 2 ∨ n = 3 ∨ n = 4 := by omega
  rcases hcase with rfl | rfl | rfl | rfl
  · exact number_1 b off cap x t w (by omega) (by have e : size x.toNat = 1 := by omega
                                                  unfold size at e; (repeat' split at e) <;> omega) hL h2
  · have e : 194 ≤ (x.toNat : Int) ∧ (x.toNat : Int) ≤ 223 := by
      have e : size x.toNat = 2 := by omega
      unfold size at e
      (repeat' split at e) <;> omega
    exact number_2 b off cap x t w (by omega) e.1 e.2 hL h2
  · have e : 224 ≤ (x.toNat : Int) ∧ (x.toNat : Int) ≤ 239 := by
      have e : size x.toNat = 3 := by omega
      unfold size at e
      (repeat' split at e) <;> omega
    exact number_3 b off cap x t w (by omega) e.1 e.2 hL h2
  · have e : 240 ≤ (x.toNat : Int) ∧ (x.toNat : Int) ≤ 244 := by
      have e : size x.toNat = 4 := by omega
      unfold size at e
      (repeat' split at e) <;> omega
    exact number_4 b off cap x t w (by omega) e.1 e.2 hL h2
end Go.Proofs.YtleecmapaihhmaaDoor.RefM
