/- Contracts of token.Is, of the document's own Is, Has, Trim and Right, and of token.Trim and token.Right. -/
import Derived.Test.YtlbgcibdpeaomaaDoorTokQ
import Derived.Test.YtlbgcibdpeaomaaDoorRefA
import Derived.Test.YtlbgcibdpeaomaaDoorShelf
namespace Go.Proofs.YtlbgcibdpeaomaaDoor.TokA
open Go.RowKit Go.Proofs.YtlbgcibdpeaomaaDoor.Base Go.Proofs.YtlbgcibdpeaomaaDoor.Base2 Go.Proofs.YtlbgcibdpeaomaaDoor.UtfA Go.Proofs.YtlbgcibdpeaomaaDoor.TokP Go.Proofs.YtlbgcibdpeaomaaDoor.TokQ

def has (L : List UInt8) (c : UInt8) : Bool := L.contains c
theorem has_any (s : ByteArray) (c : UInt8) (w : World) (hs : s.size ≤ 1073741824) :
    Calls Tryd.prog 33 #[.string s, .int .u8 (c.toNat : Int)] w fun e w' => e = .returned (.bool (has s.data.toList c)) ∧ w = w' := by
  have hl : s.data.toList.length = s.size := Array.length_toList
  have HL := hid hl
  clear hl
  go_enter Tryd.func33, Tryd.ntmps33
  go_wp2
  go_loop [8] (fun vk => ∃ j : Nat, j ≤ s.size ∧ vk = .int .i64 j ∧ Hid (has s.data.toList c = has (s.data.toList.drop j) c)) (fun vk => s.size - (intOf vk).toNat)
  case atStart => exact ⟨0, Nat.zero_le _, rfl, rfl⟩
  case round =>
    obtain ⟨j, hj, rfl, HT⟩ := hrel
    by_cases hlt : j < s.size
    · obtain ⟨d, hd⟩ : ∃ d, s[j] = d := ⟨_, rfl⟩
      have HC : Hid (s.data.toList.drop j = d :: s.data.toList.drop (j + 1)) := by
        have := drop_at s j hlt
        rw [hd] at this
        exact this
      by_cases h : (d.toNat : Int) = (c.toNat : Int)
      · have e1 : ((d.toNat : Int) == (c.toNat : Int)) = true := by simp [h]
        have HV : Hid (has s.data.toList c = true) := by
          show _ = _
          rw [HT.out, HC.out, eq_u8 d c h]
          simp [has]
        clear h
        go_wp2
        go_ret
        rw [HV.out]
        exact ⟨rfl, rfl⟩
      · have e1 : ((d.toNat : Int) == (c.toNat : Int)) = false := by simp; omega
        have HV : Hid (has s.data.toList c = has (s.data.toList.drop (j + 1)) c) := by
          show _ = _
          rw [HT.out, HC.out, has, List.contains_cons, show (c == d) = false by simp; intro e; exact h (by rw [e]), Bool.false_or]
          rfl
        clear h
        go_wp2
        go_round
        case rel => exact ⟨j + 1, by omega, by go_num, HV⟩
        case measure => simp [intOf]; omega
    · obtain rfl : j = s.size := by omega
      have HV : Hid (has s.data.toList c = false) := by
        show _ = _
        rw [HT.out, ← HL.out, List.drop_length]
        rfl
      go_wp2
      go_ret
      rw [HV.out]
      exact ⟨rfl, rfl⟩
theorem tch_no (c : UInt8) (h1 : letter c.toNat = false) (h2 : digit c.toNat = false) (h3 : decide (Lib.indexByte marks c < 0) = true) : tch c = false := by
  rw [index_has] at h3
  unfold tch
  rw [h1, h2]
  simpa using h3
theorem tch_yes (c : UInt8) (h : letter c.toNat = true ∨ digit c.toNat = true ∨ decide (Lib.indexByte marks c < 0) = false) : tch c = true := by
  unfold tch
  rcases h with h | h | h
  · simp [h]
  · simp [h]
  · rw [index_has] at h
    simp at h
    simp [h]
set_option maxRecDepth 100000 in
theorem is_any (s : ByteArray) (w : World) (hs : s.size ≤ 1073741824) :
    Calls Tryd.prog 25 #[.string s] w fun e w' => e = .returned (.bool (isTok s.data.toList)) ∧ w = w' := by
  have hl : s.data.toList.length = s.size := Array.length_toList
  have HL := hid hl
  clear hl
  go_enter Tryd.func25, Tryd.ntmps25
  go_wp2
  go_loop [3] (fun vk => ∃ j : Nat, j ≤ s.size ∧ vk = .int .i64 j ∧ Hid (s.data.toList.all tch = (s.data.toList.drop j).all tch)) (fun vk => s.size - (intOf vk).toNat)
  case atStart => exact ⟨0, Nat.zero_le _, rfl, rfl⟩
  case round =>
    obtain ⟨j, hj, rfl, HT⟩ := hrel
    by_cases hlt : j < s.size
    · obtain ⟨c, hd⟩ : ∃ d, s[j] = d := ⟨_, rfl⟩
      have HC : Hid (s.data.toList.drop j = c :: s.data.toList.drop (j + 1)) := by
        have := drop_at s j hlt
        rw [hd] at this
        exact this
      have hix := fun w => Tryd.strings_IndexByte ⟨#[33, 35, 36, 37, 38, 39, 42, 43, 45, 46, 94, 95, 96, 124, 126]⟩ (c.toNat : Int) w
      rw [show ((c.toNat : Int).toNat.toUInt8) = c by simp] at hix
      have HIX := hid hix
      clear hix
      obtain ⟨z, hz⟩ : ∃ z, z = Lib.indexByte marks c := ⟨_, rfl⟩
      have HZ := hid hz
      have hzr : -1 ≤ z := by rw [hz]; exact Lib.indexByte_ge _ _
      clear hz
      have hcase : (letter c.toNat = true ∨ letter c.toNat = false ∧ digit c.toNat = true ∨ letter c.toNat = false ∧ digit c.toNat = false ∧ 0 ≤ z) ∨ (letter c.toNat = false ∧ digit c.toNat = false ∧ z < 0) := by
        cases letter c.toNat <;> cases digit c.toNat <;> simp <;> omega
      rcases hcase with h | ⟨h1, h2, h3⟩
      · have HV : Hid (s.data.toList.all tch = (s.data.toList.drop (j + 1)).all tch) := by
          show _ = _
          rw [HT.out, HC.out, List.all_cons, tch_yes c (by rcases h with h | ⟨_, h⟩ | ⟨_, _, h⟩; exact .inl h; exact .inr (.inl h); exact .inr (.inr (by rw [← HZ.out]; simp; omega))), Bool.true_and]
        rcases h with h | ⟨h1, h2⟩ | ⟨h1, h2, h3⟩
        · have H1 := hid h
          clear h
          go_wp2_with fail
          refine (letter_any _ _).mono ?_
          rintro e w2 ⟨rfl, rfl⟩
          rw [H1.out]
          go_wp2_with fail
          go_round
          case rel => exact ⟨j + 1, by omega, by go_num, HV⟩
          case measure => simp [intOf]; omega
        · have H1 := hid h1
          have H2 := hid h2
          clear h1 h2
          go_wp2_with fail
          refine (letter_any _ _).mono ?_
          rintro e w2 ⟨rfl, rfl⟩
          rw [H1.out]
          go_wp2_with fail
          refine (digit_any _ _).mono ?_
          rintro e w2 ⟨rfl, rfl⟩
          rw [H2.out]
          go_wp2_with fail
          go_round
          case rel => exact ⟨j + 1, by omega, by go_num, HV⟩
          case measure => simp [intOf]; omega
        · have H1 := hid h1
          have H2 := hid h2
          clear h1 h2
          go_wp2_with fail
          refine (letter_any _ _).mono ?_
          rintro e w2 ⟨rfl, rfl⟩
          rw [H1.out]
          go_wp2_with fail
          refine (digit_any _ _).mono ?_
          rintro e w2 ⟨rfl, rfl⟩
          rw [H2.out]
          go_wp2_with fail
          refine (HIX.out _).mono ?_
          rintro e w2 ⟨rfl, rfl⟩
          rw [show Lib.indexByte (⟨#[33, 35, 36, 37, 38, 39, 42, 43, 45, 46, 94, 95, 96, 124, 126]⟩ : ByteArray).data.toList c = z from HZ.out.symm]
          go_wp2_with fail
          go_round
          case rel => exact ⟨j + 1, by omega, by go_num, HV⟩
          case measure => simp [intOf]; omega
      · have HV : Hid (isTok s.data.toList = false) := by
          show _ = _
          rw [isTok, HT.out, HC.out, List.all_cons, tch_no c h1 h2 (by rw [← HZ.out]; simpa using h3), Bool.false_and, Bool.false_and]
        have H1 := hid h1
        have H2 := hid h2
        clear h1 h2
        go_wp2_with fail
        refine (letter_any _ _).mono ?_
        rintro e w2 ⟨rfl, rfl⟩
        rw [H1.out]
        go_wp2_with fail
        refine (digit_any _ _).mono ?_
        rintro e w2 ⟨rfl, rfl⟩
        rw [H2.out]
        go_wp2_with fail
        refine (HIX.out _).mono ?_
        rintro e w2 ⟨rfl, rfl⟩
        rw [show Lib.indexByte (⟨#[33, 35, 36, 37, 38, 39, 42, 43, 45, 46, 94, 95, 96, 124, 126]⟩ : ByteArray).data.toList c = z from HZ.out.symm]
        go_wp2_with fail
        go_ret
        rw [HV.out]
        exact ⟨rfl, rfl⟩
    · obtain rfl : j = s.size := by omega
      have HV : Hid (isTok s.data.toList = !s.toList.isEmpty) := by
        show _ = _
        rw [isTok, HT.out, ← HL.out, List.drop_length, Lib.toList_data]
        rfl
      rcases Nat.eq_zero_or_pos s.size with h0 | h0
      · have e0 := toList_eq s h0
        have HV2 : Hid (isTok s.data.toList = false) := by rw [HV.out, e0]; exact rfl
        go_wp2
        go_ret
        rw [HV2.out]
        exact ⟨rfl, rfl⟩
      · have e0 := toList_ne s h0
        have e0' := toList_ne' s h0
        have HV2 : Hid (isTok s.data.toList = true) := by rw [HV.out, e0]; exact rfl
        go_wp2
        go_ret
        rw [HV2.out]
        exact ⟨rfl, rfl⟩
set_option maxRecDepth 100000 in
theorem ref_is (s : ByteArray) (w : World) (hs : s.size ≤ 1073741824) :
    Calls Tryd.prog 30 #[.string s] w fun e w' => e = .returned (.bool (isTok s.data.toList)) ∧ w = w' := by
  have hl : s.data.toList.length = s.size := Array.length_toList
  have HL := hid hl
  clear hl
  go_enter Tryd.func30, Tryd.ntmps30
  go_wp2
  go_loop [6] (fun vk => ∃ j : Nat, j ≤ s.size ∧ vk = .int .i64 j ∧ Hid (s.data.toList.all tch = (s.data.toList.drop j).all tch)) (fun vk => s.size - (intOf vk).toNat)
  case atStart => exact ⟨0, Nat.zero_le _, rfl, rfl⟩
  case round =>
    obtain ⟨j, hj, rfl, HT⟩ := hrel
    by_cases hlt : j < s.size
    · obtain ⟨c, hd⟩ : ∃ d, s[j] = d := ⟨_, rfl⟩
      have HC : Hid (s.data.toList.drop j = c :: s.data.toList.drop (j + 1)) := by
        have := drop_at s j hlt
        rw [hd] at this
        exact this
      have hcase : (letter c.toNat = true ∨ letter c.toNat = false ∧ digit c.toNat = true ∨ letter c.toNat = false ∧ digit c.toNat = false ∧ has marks c = true) ∨ (letter c.toNat = false ∧ digit c.toNat = false ∧ has marks c = false) := by
        cases letter c.toNat <;> cases digit c.toNat <;> cases has marks c <;> simp
      rcases hcase with h | ⟨h1, h2, h3⟩
      · have HV : Hid (s.data.toList.all tch = (s.data.toList.drop (j + 1)).all tch) := by
          show _ = _
          rw [HT.out, HC.out, List.all_cons, show tch c = true by unfold tch; rcases h with h | ⟨_, h⟩ | ⟨_, _, h⟩; simp [h]; simp [h]; unfold has at h; rw [h]; simp, Bool.true_and]
        rcases h with h | ⟨h1, h2⟩ | ⟨h1, h2, h3⟩
        · have H1 := hid h
          clear h
          go_wp2_with fail
          refine (RefA.letter_any _ _).mono ?_
          rintro e w2 ⟨rfl, rfl⟩
          rw [H1.out]
          go_wp2_with fail
          go_round
          case rel => exact ⟨j + 1, by omega, by go_num, HV⟩
          case measure => simp [intOf]; omega
        · have H1 := hid h1
          have H2 := hid h2
          clear h1 h2
          go_wp2_with fail
          refine (RefA.letter_any _ _).mono ?_
          rintro e w2 ⟨rfl, rfl⟩
          rw [H1.out]
          go_wp2_with fail
          refine (RefA.digit_any _ _).mono ?_
          rintro e w2 ⟨rfl, rfl⟩
          rw [H2.out]
          go_wp2_with fail
          go_round
          case rel => exact ⟨j + 1, by omega, by go_num, HV⟩
          case measure => simp [intOf]; omega
        · have H1 := hid h1
          have H2 := hid h2
          have H3 := hid h3
          clear h1 h2 h3
          go_wp2_with fail
          refine (RefA.letter_any _ _).mono ?_
          rintro e w2 ⟨rfl, rfl⟩
          rw [H1.out]
          go_wp2_with fail
          refine (RefA.digit_any _ _).mono ?_
          rintro e w2 ⟨rfl, rfl⟩
          rw [H2.out]
          go_wp2_with fail
          refine (has_any (strOf marks) c _ (by decide)).mono ?_
          rintro e w2 ⟨rfl, rfl⟩
          rw [show has (strOf marks).data.toList c = true from H3.out]
          go_wp2_with fail
          go_round
          case rel => exact ⟨j + 1, by omega, by go_num, HV⟩
          case measure => simp [intOf]; omega
      · have HV : Hid (isTok s.data.toList = false) := by
          show _ = _
          rw [isTok, HT.out, HC.out, List.all_cons, show tch c = false by unfold tch; unfold has at h3; rw [h1, h2, h3]; rfl, Bool.false_and, Bool.false_and]
        have H1 := hid h1
        have H2 := hid h2
        have H3 := hid h3
        clear h1 h2 h3
        go_wp2_with fail
        refine (RefA.letter_any _ _).mono ?_
        rintro e w2 ⟨rfl, rfl⟩
        rw [H1.out]
        go_wp2_with fail
        refine (RefA.digit_any _ _).mono ?_
        rintro e w2 ⟨rfl, rfl⟩
        rw [H2.out]
        go_wp2_with fail
        refine (has_any (strOf marks) c _ (by decide)).mono ?_
        rintro e w2 ⟨rfl, rfl⟩
        rw [show has (strOf marks).data.toList c = false from H3.out]
        go_wp2_with fail
        go_ret
        rw [HV.out]
        exact ⟨rfl, rfl⟩
    · obtain rfl : j = s.size := by omega
      have HV : Hid (isTok s.data.toList = !s.toList.isEmpty) := by
        show _ = _
        rw [isTok, HT.out, ← HL.out, List.drop_length, Lib.toList_data]
        rfl
      rcases Nat.eq_zero_or_pos s.size with h0 | h0
      · have e0 := toList_eq s h0
        have HV2 : Hid (isTok s.data.toList = false) := by rw [HV.out, e0]; exact rfl
        go_wp2
        go_ret
        rw [HV2.out]
        exact ⟨rfl, rfl⟩
      · have e0 := toList_ne s h0
        have e0' := toList_ne' s h0
        have HV2 : Hid (isTok s.data.toList = true) := by rw [HV.out, e0]; exact rfl
        go_wp2
        go_ret
        rw [HV2.out]
        exact ⟨rfl, rfl⟩
end Go.Proofs.YtlbgcibdpeaomaaDoor.TokA
