/- escape.Decode and the document's own: the bytes that a text means. -/
import Derived.Test.YtleecmapaihhmaaDoorEscR
import Derived.Test.YtleecmapaihhmaaDoorRefA
import Derived.Deep.QuietTactic
import Derived.BigQuiet
set_option linter.unusedSimpArgs false
set_option linter.unusedVariables false
namespace Go.Proofs.YtleecmapaihhmaaDoor.EscD
open Go.RowKit Go.Proofs.YtleecmapaihhmaaDoor.Base Go.Proofs.YtleecmapaihhmaaDoor.UtfA

/-- The byte that a text begins with, escaped, and whether it does. -/
def esc : List UInt8 → Option UInt8
  | a :: b :: c :: _ => if a = 37 ∧ 0 ≤ hex b.toNat ∧ 0 ≤ hex c.toNat then some (UInt8.ofNat (16 * hex b.toNat + hex c.toNat).toNat) else none
  | _ => none
def decF : Nat → List UInt8 → List UInt8
  | 0, _ => []
  | _ + 1, [] => []
  | n + 1, x :: t => match esc (x :: t) with
    | some c => c :: decF n (t.drop 2)
    | none => x :: decF n t
def dec (L : List UInt8) : List UInt8 := decF L.length L
theorem decF_more : ∀ (n m : Nat) (L : List UInt8), L.length ≤ n → L.length ≤ m → decF n L = decF m L
  | 0, 0, _, _, _ => rfl
  | 0, m + 1, [], _, _ => rfl
  | 0, _ + 1, _ :: _, h, _ => by simp at h
  | n + 1, 0, [], _, _ => rfl
  | _ + 1, 0, _ :: _, _, h => by simp at h
  | _ + 1, _ + 1, [], _, _ => rfl
  | n + 1, m + 1, x :: t, h1, h2 => by
    simp only [List.length_cons] at h1 h2
    rw [decF, decF, decF_more n m _ (by simp; omega) (by simp; omega), decF_more n m _ (by omega) (by omega)]
theorem dec_nil : dec [] = [] := rfl
theorem dec_some (x : UInt8) (t : List UInt8) (c : UInt8) (h : esc (x :: t) = some c) : dec (x :: t) = c :: dec (t.drop 2) := by
  unfold dec
  rw [List.length_cons, decF, h]
  rw [decF_more t.length (t.drop 2).length _ (by simp) (Nat.le_refl _)]
theorem dec_none (x : UInt8) (t : List UInt8) (h : esc (x :: t) = none) : dec (x :: t) = x :: dec t := by
  unfold dec
  rw [List.length_cons, decF, h]
theorem dec_len (L : List UInt8) : (dec L).length ≤ L.length := by
  have H : ∀ (n : Nat) (L : List UInt8), (decF n L).length ≤ L.length := by
    intro n
    induction n with
    | zero => intro L; simp [decF]
    | succ n ih =>
      intro L
      cases L with
      | nil => simp [decF]
      | cons x t =>
        rw [decF]
        split
        · have := ih (t.drop 2)
          simp at this ⊢
          omega
        · have := ih t
          simp at this ⊢
          omega
  exact H _ _
theorem hex_le (c : UInt8) : -1 ≤ hex c.toNat ∧ hex c.toNat ≤ 15 := by
  unfold hex
  (repeat' split) <;> omega

attribute [local go_sem ↓] Go.wp_at_zero Go.wp_at_succ
def escV (L : List UInt8) : Value × Bool := match esc L with
  | some c => (.int .u8 (c.toNat : Int), true)
  | none => (.int .u8 0, false)
theorem esc_short (s : ByteArray) (h : s.size < 3) : esc s.data.toList = none := by
  have hl : s.data.toList.length < 3 := by rw [Array.length_toList]; exact h
  match e : s.data.toList, hl with
  | [], _ => rfl
  | [_], _ => rfl
  | [_, _], _ => rfl
theorem esc_long (s : ByteArray) (h : 3 ≤ s.size) : ∃ t, s.data.toList = s[0] :: s[1] :: s[2] :: t := by
  have hl : 3 ≤ s.data.toList.length := by rw [Array.length_toList]; exact h
  match e : s.data.toList, hl with
  | a :: b :: c :: t, _ =>
    have e0 : s[0] = a := by
      have : s.data.toList[0]'(by omega) = a := by simp [e]
      exact this
    have e1 : s[1] = b := by
      have : s.data.toList[1]'(by omega) = b := by simp [e]
      exact this
    have e2 : s[2] = c := by
      have : s.data.toList[2]'(by omega) = c := by simp [e]
      exact this
    exact ⟨t, by rw [e0, e1, e2]⟩
theorem u8_of (z : Int) (h0 : 0 ≤ z) (h1 : z ≤ 255) : ((UInt8.ofNat z.toNat).toNat : Int) = z := by simp; omega
theorem or16 (h l : Int) (h0 : 0 ≤ h) (h1 : h ≤ 15) (l0 : 0 ≤ l) (l1 : l ≤ 15) : bits .or .i64 (h * 16) l = 16 * h + l := by
  have H : ∀ a b : Fin 16, bits .or .i64 ((a.val : Int) * 16) (b.val : Int) = 16 * (a.val : Int) + (b.val : Int) := by decide +kernel
  have := H ⟨h.toNat, by omega⟩ ⟨l.toNat, by omega⟩
  simp only [Int.toNat_of_nonneg h0, Int.toNat_of_nonneg l0] at this
  exact this
theorem hexq (c : Int) (w : World) (h0 : 0 ≤ c) (h1 : c ≤ 255) : Calls Tryd.prog 57 #[.int .u8 c] w fun e w' => e = .returned (.int .i64 (hex c)) ∧ w' = w :=
  (hex_any c w h0 h1).mono fun _ _ ⟨he, hw⟩ => ⟨he, hw.symm⟩
set_option maxRecDepth 100000 in
theorem escaped_any (s : ByteArray) (w : World) (hs : s.size ≤ maxLen) : Calls Tryd.prog 43 #[.string s] w fun e w' => e = .returned (.tuple #[(escV s.data.toList).1, .bool (escV s.data.toList).2]) ∧ Below w.heap.size w w' := by
  unfold maxLen at hs
  by_cases h3 : s.size < 3
  · have HE : Hid (escV s.data.toList = (.int .u8 0, false)) := by unfold escV; rw [esc_short s h3]; exact rfl
    have h3' : (s.size : Int) < 3 := by omega
    go_enter Tryd.func43, Tryd.ntmps43
    go_wp2
    go_ret2
    rw [HE.out]
    exact ⟨rfl, Below.refl _ _⟩
  · have h3' : (3 : Int) ≤ (s.size : Int) := by omega
    obtain ⟨t, ht⟩ := esc_long s (by omega)
    obtain ⟨a, ha⟩ : ∃ a, s[0] = a := ⟨_, rfl⟩
    obtain ⟨b, hb⟩ : ∃ b, s[1] = b := ⟨_, rfl⟩
    obtain ⟨c, hc⟩ : ∃ c, s[2] = c := ⟨_, rfl⟩
    rw [ha, hb, hc] at ht
    have HT := hid ht
    clear ht
    have hb0 : 0 ≤ (b.toNat : Int) ∧ (b.toNat : Int) ≤ 255 := by have := b.toNat_lt; omega
    have hc0 : 0 ≤ (c.toNat : Int) ∧ (c.toNat : Int) ≤ 255 := by have := c.toNat_lt; omega
    by_cases h37 : a = 37
    · subst h37
      have h37' : (((37 : UInt8).toNat : Int) != 37) = false := by decide
      obtain ⟨hx1, hx2⟩ := hex_le b
      obtain ⟨hy1, hy2⟩ := hex_le c
      by_cases hx : hex b.toNat < 0
      · have HE : Hid (escV s.data.toList = (.int .u8 0, false)) := by
          unfold escV
          rw [HT.out, esc, if_neg (by intro h; omega)]
          exact rfl
        go_enter Tryd.func43, Tryd.ntmps43
        go_wp2
        go_quiet ((go_at_call 57; exact Calls.quiet_of_same (hexq _ _ (by omega) (by omega))))
        go_wp2
        go_ret2
        rw [HE.out]
        exact ⟨rfl, Base.below_drewN (Below.refl _ _) _⟩
      · have hx' : 0 ≤ hex b.toNat := by omega
        clear hx hx1
        by_cases hy : hex c.toNat < 0
        · have HE : Hid (escV s.data.toList = (.int .u8 0, false)) := by
            unfold escV
            rw [HT.out, esc, if_neg (by intro h; omega)]
            exact rfl
          go_enter Tryd.func43, Tryd.ntmps43
          go_wp2
          go_quiet ((go_at_call 57; exact Calls.quiet_of_same (hexq _ _ (by omega) (by omega))))
          go_wp2
          go_ret2
          rw [HE.out]
          exact ⟨rfl, Base.below_drewN (Below.refl _ _) _⟩
        · have hy' : 0 ≤ hex c.toNat := by omega
          clear hy hy1
          have HE : Hid (escV s.data.toList = (.int .u8 (16 * hex b.toNat + hex c.toNat), true)) := by
            unfold escV
            rw [HT.out, esc, if_pos ⟨rfl, hx', hy'⟩]
            show (Value.int .u8 ((UInt8.ofNat (16 * hex b.toNat + hex c.toNat).toNat).toNat : Int), true) = _
            rw [u8_of _ (by omega) (by omega)]
          have hor := or16 _ _ hx' hx2 hy' hy2
          go_enter Tryd.func43, Tryd.ntmps43
          go_wp2
          go_quiet ((go_at_call 57; exact Calls.quiet_of_same (hexq _ _ (by omega) (by omega))))
          go_wp2
          go_ret2
          rw [HE.out]
          exact ⟨ret2 rfl rfl, Base.below_drewN (Below.refl _ _) _⟩
    · have HE : Hid (escV s.data.toList = (.int .u8 0, false)) := by
        unfold escV
        rw [HT.out, esc, if_neg (by intro h; exact h37 h.1)]
        exact rfl
      have h37' : ((a.toNat : Int) != 37) = true := by
        simp
        intro h
        exact h37 (UInt8.toNat_inj.1 (by simp; omega))
      go_enter Tryd.func43, Tryd.ntmps43
      go_wp2
      go_ret2
      rw [HE.out]
      exact ⟨rfl, Below.refl _ _⟩

/-- What is left of a text: nothing, or its first byte and the rest. -/
theorem extract_drop (s : ByteArray) (k : Nat) (_h : k ≤ s.size) : (s.extract k s.size).data.toList = s.data.toList.drop k := by
  rw [ByteArray.data_extract]
  simp [Array.toList_extract, List.extract_eq_take_drop]
  rw [List.take_of_length_le (by rw [List.length_drop, Array.length_toList]; exact Nat.le_refl _)]
theorem decode_any (s : ByteArray) (w : World) (hs : s.size ≤ 1073741824) : Calls Tryd.prog 32 #[.string s] w fun e w' => ∃ v, e = .returned v ∧ w'.ownsRow w.heap.size 5 1 v (dec s.data.toList).length (bcells (dec s.data.toList)) ∧ Below w.heap.size w w' := by
  obtain ⟨i0, hi, hz0, hz1, hz2⟩ := info_parts info_u8
  have hl : s.data.toList.length = s.size := Array.length_toList
  have HL := hid hl
  clear hl
  go_enter Tryd.func32, Tryd.ntmps32
  go_wp2_with (at_make; refine wpList_make_own _ rfl _ _ 37 rfl w.heap.size 5 i0 (.int .u8 0) 1 Tryd.underlying37 hi hz0 hz1 .i64 .i64 _ s.size rfl rfl rfl (by rw [hz2]; omega) (by unfold maxLen; omega) (Nat.le_refl _) ?_)
  intro w1 hown1 hg1
  have hbel1 : Below w.heap.size w w1 := (Below.refl _ _).grown hg1 (Nat.le_refl _) (by intro k h; cases h)
  clear hg1
  go_wp2
  go_loopw [3, 4] (fun v vk wr => ∃ (j : Nat) (X : List UInt8), j ≤ s.size ∧ X.length ≤ j ∧ vk = .int .i64 j ∧ wr.ownsRow w.heap.size 5 1 v X.length (bcells X) ∧ Below w.heap.size w wr ∧ Hid (X ++ dec (s.data.toList.drop j) = dec s.data.toList)) (fun _ vk _ => s.size - (intOf vk).toNat)
  case atStart => exact ⟨0, [], Nat.zero_le _, Nat.le_refl _, rfl, hown1, hbel1, rfl⟩
  case round =>
    clear hown1 hbel1
    obtain ⟨j, X, hj, hX, rfl, hown, hbel, HT⟩ := hrel
    by_cases hlt : j < s.size
    · obtain ⟨x, hx⟩ : ∃ x, s[j] = x := ⟨_, rfl⟩
      have hd : s.data.toList.drop j = x :: s.data.toList.drop (j + 1) := by
        rw [← hx]
        exact List.drop_eq_getElem_cons (by rw [HL.out]; exact hlt)
      have HD := hid hd
      clear hd
      have HEX : Hid ((s.extract j s.size).data.toList = s.data.toList.drop j) := extract_drop s j hj
      have hsz : (s.extract j s.size).size = s.size - j := by simp
      have HSZ := hid hsz
      clear hsz
      cases hesc : esc (s.data.toList.drop j) with
      | none =>
        have HV : Hid (escV (s.extract j s.size).data.toList = (.int .u8 0, false)) := by
          unfold escV
          rw [HEX.out, hesc]
          exact rfl
        have HN : Hid (dec (s.data.toList.drop j) = x :: dec (s.data.toList.drop (j + 1))) := by
          rw [HD.out] at hesc ⊢
          exact dec_none _ _ hesc
        clear hesc
        go_wp2_with fail
        refine (escaped_any _ _ (by rw [HSZ.out]; unfold maxLen; omega)).mono ?_
        rintro e w2 ⟨rfl, hb2⟩
        rw [HV.out]
        have hown2 := owns_below hown hb2
        have hbel2 := hbel.trans (hb2.mono hbel.size)
        clear hown hbel
        go_wp2_with (at_builtin; refine wpList_app rfl _ _ 37 rfl w.heap.size 5 i0 (.int .u8 0) 1 Tryd.underlying37 hi hz0 hz1 hz2 rfl _ X.length _ rfl hown2 hbel2 hbel2.size [.int .u8 (x.toNat : Int)] 1 rfl rfl (by intro u hu; simp at hu; subst hu; rfl) (by unfold maxLen; omega) (by omega) ?_)
        intro v' w3 hown3 hbel3
        clear hown2 hbel2
        go_wp2
        go_roundw
        case rel => exact ⟨j + 1, X ++ [x], by omega, by simp; omega, by go_num, by rw [bcells_append, List.length_append]; exact hown3, hbel3, by
            rw [List.append_assoc]
            have := HT.out
            rw [HN.out] at this
            exact this⟩
        case measure => simp [intOf]; omega
      | some c =>
        have h3 : j + 3 ≤ s.size := by
          rcases Nat.lt_or_ge (s.size - j) 3 with h | h
          · have := esc_short (s.extract j s.size) (by rw [HSZ.out]; exact h)
            rw [HEX.out, hesc] at this
            cases this
          · omega
        have HV : Hid (escV (s.extract j s.size).data.toList = (.int .u8 (c.toNat : Int), true)) := by
          unfold escV
          rw [HEX.out, hesc]
          exact rfl
        have HN : Hid (dec (s.data.toList.drop j) = c :: dec (s.data.toList.drop (j + 3))) := by
          rw [HD.out] at hesc ⊢
          rw [dec_some _ _ _ hesc, List.drop_drop]
          exact rfl
        clear hesc
        go_wp2_with fail
        refine (escaped_any _ _ (by rw [HSZ.out]; unfold maxLen; omega)).mono ?_
        rintro e w2 ⟨rfl, hb2⟩
        rw [HV.out]
        have hown2 := owns_below hown hb2
        have hbel2 := hbel.trans (hb2.mono hbel.size)
        clear hown hbel
        go_wp2_with (at_builtin; refine wpList_app rfl _ _ 37 rfl w.heap.size 5 i0 (.int .u8 0) 1 Tryd.underlying37 hi hz0 hz1 hz2 rfl _ X.length _ rfl hown2 hbel2 hbel2.size [.int .u8 (c.toNat : Int)] 1 rfl rfl (by intro u hu; simp at hu; subst hu; rfl) (by unfold maxLen; omega) (by omega) ?_)
        intro v' w3 hown3 hbel3
        clear hown2 hbel2
        go_wp2
        go_roundw
        case rel => exact ⟨j + 3, X ++ [c], by omega, by simp; omega, by rw [show ((j + 3 : Nat) : Int) = (j : Int) + 2 + 1 by omega], by rw [bcells_append, List.length_append]; exact hown3, hbel3, by
            rw [List.append_assoc]
            have := HT.out
            rw [HN.out] at this
            exact this⟩
        case measure => simp [intOf]; omega
    · obtain rfl : j = s.size := by omega
      have HE : Hid (X = dec s.data.toList) := by
        have e := HT.out
        rw [← HL.out, List.drop_length, dec_nil, List.append_nil] at e
        exact e
      go_wp2
      go_ret
      exact ⟨_, rfl, by rw [← HE.out]; exact hown, hbel⟩
end Go.Proofs.YtleecmapaihhmaaDoor.EscD
