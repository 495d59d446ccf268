/- Contracts of span.pass, span.number, and of the document's own skip and number. -/
import Derived.Test.YtiencfgmdikepaaDoorSpnP
import Derived.Test.YtiencfgmdikepaaDoorRefA
import Derived.Test.YtiencfgmdikepaaDoorRegs
import Derived.Test.YtiencfgmdikepaaDoorShelf
import Derived.Deep.QuietTactic
import Derived.BigQuiet
namespace Go.Proofs.YtiencfgmdikepaaDoor.SpnA
open Go.RowKit Go.Proofs.YtiencfgmdikepaaDoor.Base Go.Proofs.YtiencfgmdikepaaDoor.Base2 Go.Proofs.YtiencfgmdikepaaDoor.UtfA Go.Proofs.YtiencfgmdikepaaDoor.SpnP

theorem dlen (s : ByteArray) : s.data.toList.length = s.size := Array.length_toList
theorem drop_at (s : ByteArray) (k : Nat) (h : k < s.size) : s.data.toList.drop k = s[k] :: s.data.toList.drop (k + 1) := by
  have h' : k < s.data.toList.length := by rw [Array.length_toList]; exact h
  rw [List.drop_eq_getElem_cons h']
  rfl
theorem ext_from (s : ByteArray) (k n : Nat) (h : n = s.size) : s.extract k n = strOf (s.data.toList.drop k) := by
  subst h
  apply ByteArray.ext
  apply Array.ext'
  rw [ByteArray.data_extract]
  simp only [strOf, Array.toList_extract, List.extract_eq_take_drop]
  rw [List.take_of_length_le]
  rw [List.length_drop, Array.length_toList]
  exact Nat.le_refl _
theorem ext_to (s : ByteArray) (k : Nat) : s.extract 0 k = strOf (s.data.toList.take k) := by
  apply ByteArray.ext
  apply Array.ext'
  rw [ByteArray.data_extract]
  simp [strOf, Array.toList_extract, List.extract_eq_take_drop]
theorem pass_any (s : ByteArray) (w : World) (_hs : s.size ≤ 1073741824) :
    Calls Tryd.prog 18 #[.string s] w fun e w' => e = .returned (.string (strOf (pass s.data.toList))) ∧ Below w.heap.size w w' := by
  have hcon : Calls Tryd.prog 25 #[.string s, .string (strOf sp)] w fun e w' => e = .returned (.string (strOf (pass s.data.toList))) ∧ Below w.heap.size w w' :=
    Tryd.strings_TrimLeft_set s (strOf sp) w (by decide) (ascii_of_all (by decide))
  obtain ⟨r, hr⟩ : ∃ r, r = strOf (pass s.data.toList) := ⟨_, rfl⟩
  rw [← hr] at hcon ⊢
  clear hr
  go_enter Tryd.func18, Tryd.ntmps18
  go_wp2_with fail
  refine hcon.mono ?_
  rintro e w1 ⟨rfl, hb⟩
  go_wp2_with fail
  go_ret
  exact ⟨rfl, hb⟩
theorem num_step (z : Int) (c : UInt8) (t : List UInt8) (h : digit c.toNat = true) : num z (c :: t) = num (nstep z c) t := by rw [num, if_pos h]
theorem num_stop (z : Int) (c : UInt8) (t : List UInt8) (h : digit c.toNat = false) : num z (c :: t) = (z, c :: t) := by rw [num, if_neg (by rw [h]; decide)]
set_option maxRecDepth 100000 in
set_option maxHeartbeats 1000000 in
theorem number_any (s : ByteArray) (w : World) (hs : s.size ≤ 1073741824) :
    Calls Tryd.prog 19 #[.string s] w fun e w' => e = .returned (.tuple #[.int .i64 (num 0 s.data.toList).1, .bool (hasNum s.data.toList), .string (strOf (num 0 s.data.toList).2)]) ∧ Below w.heap.size w w' := by
  have HL := hid (dlen s)
  go_enter Tryd.func19, Tryd.ntmps19
  go_wp2
  go_loop [5, 6] (fun vn vk => ∃ (k : Nat) (z : Int), k ≤ s.size ∧ 0 ≤ z ∧ z ≤ 4611686018427387904 ∧ vn = .int .i64 z ∧ vk = .int .i64 k ∧ Hid (num 0 s.data.toList = num z (s.data.toList.drop k))) (fun _ vk => s.size - (intOf vk).toNat)
  case atStart => exact ⟨0, 0, Nat.zero_le _, by omega, by omega, rfl, rfl, rfl⟩
  case round =>
    obtain ⟨k, z, hk, hz0, hz1, rfl, rfl, HN⟩ := hrel
    have fin : ∀ (Y : List UInt8), num z (s.data.toList.drop k) = (z, s.data.toList.drop k) → Y = s.data.toList.drop k →
        Value.tuple #[.int .i64 z, .bool (decide (0 < k)), .string (strOf Y)] = Value.tuple #[.int .i64 (num 0 s.data.toList).1, .bool (hasNum s.data.toList), .string (strOf (num 0 s.data.toList).2)] := by
      intro Y h1 h2
      have e := HN.out
      rw [h1] at e
      have h3 : hasNum s.data.toList = decide (0 < k) := by
        unfold hasNum
        rw [e, Bool.eq_iff_iff, decide_eq_true_iff, decide_eq_true_iff, List.length_drop, HL.out]
        omega
      rw [h3, e, h2]
    have HF := hid fin
    clear fin
    have hx := ext_from s k s.size rfl
    obtain ⟨Y, hY⟩ : ∃ Y, Y = s.data.toList.drop k := ⟨_, rfl⟩
    rw [← hY] at hx
    have HY := hid hY
    clear hY
    by_cases hlt : k < s.size
    · obtain ⟨c, hc⟩ : ∃ c, s[k] = c := ⟨_, rfl⟩
      have HC : Hid (s.data.toList.drop k = c :: s.data.toList.drop (k + 1)) := by
        have := drop_at s k hlt
        rw [hc] at this
        exact this
      cases hd : digit c.toNat
      · have HE : Hid (num z (s.data.toList.drop k) = (z, s.data.toList.drop k)) := by
          show _ = _
          rw [HC.out, num_stop z c _ hd]
        have HD := hid hd
        clear hd
        go_wp2_with fail
        refine (digit_any _ _).mono ?_
        rintro e w2 ⟨rfl, rfl⟩
        rw [HD.out]
        go_wp2_with fail
        go_quiet (fail)
        go_wp2
        go_ret3
        exact ⟨congrArg Ending.returned (HF.out Y HE.out HY.out), below_drewN (Below.refl _ _) _⟩
      · obtain ⟨d0, d1⟩ := digit_range c hd
        have HNE : Hid (num 0 s.data.toList = num (nstep z c) (s.data.toList.drop (k + 1))) := by
          show _ = _
          rw [HN.out, HC.out, num_step z c _ hd]
        have HD := hid hd
        clear hd
        by_cases hbig : 461168601842738790 < z
        · have HS : Hid (nstep z c = 4611686018427387904) := by
            show _ = _
            unfold nstep
            rw [if_pos hbig]
          rw [HS.out] at HNE
          go_wp2_with fail
          refine (digit_any _ _).mono ?_
          rintro e w2 ⟨rfl, rfl⟩
          rw [HD.out]
          go_wp2_with fail
          go_round
          case rel => exact ⟨k + 1, 4611686018427387904, by omega, by omega, by omega, rfl, by go_num, HNE⟩
          case measure => simp [intOf]; omega
        · obtain ⟨q, hq⟩ : ∃ q : Int, nstep z c = q := ⟨_, rfl⟩
          have HS : Hid (q = min (z * 10 + ((c.toNat : Int) - 48)) 4611686018427387904 ∧ 0 ≤ q ∧ q ≤ 4611686018427387904) := by
            show _ ∧ _
            rw [← hq]
            unfold nstep
            rw [if_neg hbig]
            split <;> omega
          rw [hq] at HNE
          clear hq
          go_wp2_with fail
          refine (digit_any _ _).mono ?_
          rintro e w2 ⟨rfl, rfl⟩
          rw [HD.out]
          go_wp2_with fail
          all_goals
            go_round
            case rel => exact ⟨k + 1, q, by omega, HS.out.2.1, HS.out.2.2, by first | exact int_eq (by have := HS.out.1; omega) | exact int_eq (HS.out.1.symm), by go_num, HNE⟩
            case measure => simp [intOf]; omega
    · obtain rfl : k = s.size := by omega
      have HE : Hid (num z (s.data.toList.drop s.size) = (z, s.data.toList.drop s.size)) := by
        show _ = _
        rw [← HL.out, List.drop_length]
        rfl
      go_wp2
      go_quiet (fail)
      go_wp2
      go_ret3
      exact ⟨congrArg Ending.returned (HF.out [] HE.out (by rw [← HL.out, List.drop_length])), below_drewN (Below.refl _ _) _⟩
theorem sp_has (c : UInt8) : sp.contains c = decide ((c.toNat : Int) = 32 ∨ (c.toNat : Int) = 9) := by
  have H : ∀ n : Fin 256, sp.contains (UInt8.ofNat n.val) = decide (((UInt8.ofNat n.val).toNat : Int) = 32 ∨ ((UInt8.ofNat n.val).toNat : Int) = 9) := by decide +kernel
  have := H ⟨c.toNat, c.toNat_lt⟩
  simpa using this
set_option maxRecDepth 100000 in
/-- The first place from k on where no blank stands. -/
theorem skip_any (s : ByteArray) (k : Nat) (w : World) (hs : s.size ≤ 1073741824) (hk : k ≤ s.size) :
    Calls Tryd.prog 21 #[.string s, .int .i64 (k : Int)] w fun e w' => (∃ j : Nat, e = .returned (.int .i64 (j : Int)) ∧ k ≤ j ∧ j ≤ s.size ∧ s.data.toList.drop j = pass (s.data.toList.drop k)) ∧ w = w' := by
  have HL := hid (dlen s)
  go_enter Tryd.func21, Tryd.ntmps21
  go_wp2
  go_loop [1] (fun vk => ∃ (j : Nat), k ≤ j ∧ j ≤ s.size ∧ vk = .int .i64 j ∧ Hid (pass (s.data.toList.drop j) = pass (s.data.toList.drop k))) (fun vk => s.size - (intOf vk).toNat)
  case atStart => exact ⟨k, Nat.le_refl _, hk, rfl, rfl⟩
  case round =>
    obtain ⟨j, hkj, hj, rfl, HP⟩ := hrel
    by_cases hlt : j < s.size
    · obtain ⟨c, hc⟩ : ∃ c, s[j] = c := ⟨_, rfl⟩
      have HC : Hid (s.data.toList.drop j = c :: s.data.toList.drop (j + 1)) := by
        have := drop_at s j hlt
        rw [hc] at this
        exact this
      by_cases hb : (c.toNat : Int) = 32 ∨ (c.toNat : Int) = 9
      · have HPN : Hid (pass (s.data.toList.drop (j + 1)) = pass (s.data.toList.drop k)) := by
          show _ = _
          rw [← HP.out, HC.out, pass_cons, if_pos (by rw [sp_has]; exact decide_eq_true hb)]
        have hcase : ((c.toNat : Int) == 32) = true ∨ ((c.toNat : Int) == 32) = false ∧ ((c.toNat : Int) == 9) = true := by
          by_cases h : (c.toNat : Int) = 32
          · exact .inl (by simp [h])
          · exact .inr ⟨by simp [h], by simp; omega⟩
        clear hb
        rcases hcase with e1 | ⟨e1, e2⟩
        all_goals
          go_wp2
          go_round
          case rel => exact ⟨j + 1, by omega, by omega, by go_num, HPN⟩
          case measure => simp [intOf]; omega
      · have e1 : ((c.toNat : Int) == 32) = false := by simp; omega
        have e2 : ((c.toNat : Int) == 9) = false := by simp; omega
        have HE : Hid (s.data.toList.drop j = pass (s.data.toList.drop k)) := by
          show _ = _
          rw [← HP.out, HC.out, pass_cons, if_neg (by rw [sp_has]; simpa using hb)]
        clear hb
        have HF : Hid ((∃ i : Nat, Ending.returned (.int .i64 (j : Int)) = .returned (.int .i64 (i : Int)) ∧ k ≤ i ∧ i ≤ s.size ∧ s.data.toList.drop i = pass (s.data.toList.drop k))) := ⟨j, rfl, hkj, hj, HE.out⟩
        go_wp2
        go_ret
        exact ⟨HF.out, rfl⟩
    · obtain rfl : j = s.size := by omega
      have HE : Hid (s.data.toList.drop s.size = pass (s.data.toList.drop k)) := by
        show _ = _
        rw [← HP.out, ← HL.out, List.drop_length]
        rfl
      have HF : Hid ((∃ i : Nat, Ending.returned (.int .i64 (s.size : Int)) = .returned (.int .i64 (i : Int)) ∧ k ≤ i ∧ i ≤ s.size ∧ s.data.toList.drop i = pass (s.data.toList.drop k))) := ⟨s.size, rfl, hkj, hj, HE.out⟩
      go_wp2
      go_ret
      exact ⟨HF.out, rfl⟩
set_option maxRecDepth 100000 in
set_option maxHeartbeats 1000000 in
/-- The number that stands at k, and the place behind it. -/
theorem ref_number (s : ByteArray) (k : Nat) (w : World) (hs : s.size ≤ 1073741824) (hk : k ≤ s.size) :
    Calls Tryd.prog 22 #[.string s, .int .i64 (k : Int)] w fun e w' => (∃ j : Nat, e = .returned (.tuple #[.int .i64 (num 0 (s.data.toList.drop k)).1, .int .i64 (j : Int)]) ∧ k ≤ j ∧ j ≤ s.size ∧ s.data.toList.drop j = (num 0 (s.data.toList.drop k)).2) ∧ w = w' := by
  have HL := hid (dlen s)
  go_enter Tryd.func22, Tryd.ntmps22
  go_wp2
  go_loop [1, 6, 7] (fun vk vn _ => ∃ (j : Nat) (z : Int), k ≤ j ∧ j ≤ s.size ∧ 0 ≤ z ∧ z ≤ 4611686018427387904 ∧ vn = .int .i64 z ∧ vk = .int .i64 j ∧ Hid (num 0 (s.data.toList.drop k) = num z (s.data.toList.drop j))) (fun vk _ _ => s.size - (intOf vk).toNat)
  case atStart => exact ⟨k, 0, Nat.le_refl _, hk, by omega, by omega, rfl, rfl, rfl⟩
  case round =>
    obtain ⟨j, z, hkj, hj, hz0, hz1, rfl, rfl, HN⟩ := hrel
    have fin : num z (s.data.toList.drop j) = (z, s.data.toList.drop j) → ∃ i : Nat, Ending.returned (.tuple #[.int .i64 z, .int .i64 (j : Int)]) = .returned (.tuple #[.int .i64 (num 0 (s.data.toList.drop k)).1, .int .i64 (i : Int)]) ∧ k ≤ i ∧ i ≤ s.size ∧ s.data.toList.drop i = (num 0 (s.data.toList.drop k)).2 := by
      intro h1
      have e := HN.out
      rw [h1] at e
      exact ⟨j, by rw [e], hkj, hj, by rw [e]⟩
    have HF := hid fin
    clear fin
    by_cases hlt : j < s.size
    · obtain ⟨c, hc⟩ : ∃ c, s[j] = c := ⟨_, rfl⟩
      have HC : Hid (s.data.toList.drop j = c :: s.data.toList.drop (j + 1)) := by
        have := drop_at s j hlt
        rw [hc] at this
        exact this
      cases hd : digit c.toNat
      · have HE : Hid (num z (s.data.toList.drop j) = (z, s.data.toList.drop j)) := by
          show _ = _
          rw [HC.out, num_stop z c _ hd]
        have HD := hid hd
        clear hd
        go_wp2_with fail
        refine (RefA.digit_any _ _).mono ?_
        rintro e w2 ⟨rfl, rfl⟩
        rw [HD.out]
        go_wp2_with fail
        go_ret2
        exact ⟨HF.out HE.out, rfl⟩
      · obtain ⟨d0, d1⟩ := digit_range c hd
        have HNE : Hid (num 0 (s.data.toList.drop k) = num (nstep z c) (s.data.toList.drop (j + 1))) := by
          show _ = _
          rw [HN.out, HC.out, num_step z c _ hd]
        have HD := hid hd
        clear hd
        obtain ⟨q, hq⟩ : ∃ q : Int, nstep z c = q := ⟨_, rfl⟩
        have HS : Hid ((461168601842738790 < z ∨ 4611686018427387904 - ((c.toNat : Int) - 48) < 10 * z → q = 4611686018427387904) ∧ (¬ (461168601842738790 < z ∨ 4611686018427387904 - ((c.toNat : Int) - 48) < 10 * z) → q = 10 * z + ((c.toNat : Int) - 48)) ∧ 0 ≤ q ∧ q ≤ 4611686018427387904) := by
          show _ ∧ _
          rw [← hq]
          unfold nstep
          refine ⟨fun h => ?_, fun h => ?_, ?_⟩
          · (repeat' split) <;> omega
          · (repeat' split) <;> omega
          · (repeat' split) <;> omega
        rw [hq] at HNE
        clear hq
        have hcase : 461168601842738790 < z ∨ ¬ 461168601842738790 < z ∧ 4611686018427387904 - ((c.toNat : Int) - 48) < 10 * z ∨ ¬ 461168601842738790 < z ∧ ¬ 4611686018427387904 - ((c.toNat : Int) - 48) < 10 * z := by omega
        rcases hcase with h1 | ⟨h1, h2⟩ | ⟨h1, h2⟩
        · have HQ : Hid (q = 4611686018427387904) := HS.out.1 (.inl h1)
          go_wp2_with fail
          refine (RefA.digit_any _ _).mono ?_
          rintro e w2 ⟨rfl, rfl⟩
          rw [HD.out]
          go_wp2_with fail
          go_round
          case rel => exact ⟨j + 1, q, by omega, by omega, HS.out.2.2.1, HS.out.2.2.2, int_eq HQ.out.symm, by go_num, HNE⟩
          case measure => simp [intOf]; omega
        · have HQ : Hid (q = 4611686018427387904) := HS.out.1 (.inr h2)
          go_wp2_with fail
          refine (RefA.digit_any _ _).mono ?_
          rintro e w2 ⟨rfl, rfl⟩
          rw [HD.out]
          go_wp2_with fail
          go_round
          case rel => exact ⟨j + 1, q, by omega, by omega, HS.out.2.2.1, HS.out.2.2.2, int_eq HQ.out.symm, by go_num, HNE⟩
          case measure => simp [intOf]; omega
        · have HQ : Hid (q = 10 * z + ((c.toNat : Int) - 48)) := HS.out.2.1 (by omega)
          have hb : 10 * z ≤ 4611686018427387904 := by omega
          go_wp2_with fail
          refine (RefA.digit_any _ _).mono ?_
          rintro e w2 ⟨rfl, rfl⟩
          rw [HD.out]
          go_wp2_with fail
          go_round
          case rel => exact ⟨j + 1, q, by omega, by omega, HS.out.2.2.1, HS.out.2.2.2, int_eq HQ.out.symm, by go_num, HNE⟩
          case measure => simp [intOf]; omega
    · obtain rfl : j = s.size := by omega
      have HE : Hid (num z (s.data.toList.drop s.size) = (z, s.data.toList.drop s.size)) := by
        show _ = _
        rw [← HL.out, List.drop_length]
        rfl
      go_wp2
      go_ret2
      exact ⟨HF.out HE.out, rfl⟩
end Go.Proofs.YtiencfgmdikepaaDoor.SpnA
