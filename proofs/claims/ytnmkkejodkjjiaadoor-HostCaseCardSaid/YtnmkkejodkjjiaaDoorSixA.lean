/- IPv6 addresses: six.piece, six.small. -/
import Derived.Test.YtnmkkejodkjjiaaDoorSixQ
import Derived.Test.YtnmkkejodkjjiaaDoorBase2
import Derived.Laws.BitsAllLaws
namespace Go.Proofs.YtnmkkejodkjjiaaDoor.SixA
open Go.RowKit Go.Proofs.YtnmkkejodkjjiaaDoor.Base Go.Proofs.YtnmkkejodkjjiaaDoor.Base2 Go.Proofs.YtnmkkejodkjjiaaDoor.UtfA Go.Proofs.YtnmkkejodkjjiaaDoor.QudP Go.Proofs.YtnmkkejodkjjiaaDoor.SixP Go.Proofs.YtnmkkejodkjjiaaDoor.SixQ

theorem take_snoc {α : Type} (l : List α) (k : Nat) (h : k < l.length) : l.take (k + 1) = l.take k ++ [l[k]] := List.take_succ_eq_append_getElem h
theorem hex_dv (b : Nat) (c : UInt8) (h : isD b c = true) : hex c.toNat = (dv c : Int) := by
  unfold isD at h
  rw [Bool.and_eq_true] at h
  have := of_decide_eq_true h.1
  unfold dv
  omega
theorem hex_neg (c : UInt8) (h : hex c.toNat < 0) : isD 16 c = false := by
  unfold isD
  rw [decide_eq_false (by omega)]
  rfl
theorem hex_pos (c : UInt8) (h : 0 ≤ hex c.toNat) : isD 16 c = true := by
  have := hex_le c
  unfold isD
  rw [decide_eq_true h, decide_eq_true (by omega)]
  rfl
theorem dv_lt (b : Nat) (c : UInt8) (h : isD b c = true) : dv c < b := by
  unfold isD at h
  rw [Bool.and_eq_true] at h
  have h1 := of_decide_eq_true h.1
  have h2 := of_decide_eq_true h.2
  unfold dv
  omega
theorem val_lt (b : Nat) (hb : 1 ≤ b) (L : List UInt8) (h : digs b L = true) : val b L < b ^ L.length := by
  have H : ∀ M : List UInt8, digs b M.reverse = true → val b M.reverse < b ^ M.length := by
    intro M
    induction M with
    | nil => intro _; simp [val]
    | cons c M ih =>
      intro h
      rw [List.reverse_cons] at h ⊢
      unfold digs at h
      rw [List.all_append, Bool.and_eq_true] at h
      have h1 := ih h.1
      have h2 : isD b c = true := by simpa using h.2
      have h3 := dv_lt b c h2
      rw [val_snoc, List.length_cons, Nat.pow_succ]
      have : (val b M.reverse + 1) * b ≤ b ^ M.length * b := Nat.mul_le_mul_right _ h1
      rw [Nat.add_mul] at this
      omega
  have := H L.reverse (by rwa [List.reverse_reverse])
  rwa [List.reverse_reverse, List.length_reverse] at this
theorem digs_snoc (b : Nat) (L : List UInt8) (c : UInt8) : digs b (L ++ [c]) = (digs b L && isD b c) := by
  unfold digs
  rw [List.all_append]
  simp
theorem ofInt_i64 (a : Nat) (ha : a < 9223372036854775808) : (BitVec.ofInt 64 (a : Int)).toNat = a := by
  rw [BitVec.ofInt_natCast, BitVec.toNat_ofNat]; exact Nat.mod_eq_of_lt (by omega)
theorem i64_or_nat (a b : Nat) (ha : a < 9223372036854775808) (hb : b < 9223372036854775808) : bits .or .i64 (a : Int) (b : Int) = ((a ||| b : Nat) : Int) := by
  have hx : a ||| b < 2 ^ 63 := Nat.or_lt_two_pow (by omega) (by omega)
  show IntKind.i64.wrap ((BitVec.ofInt 64 (a : Int) ||| BitVec.ofInt 64 (b : Int)).toNat : Int) = _
  rw [BitVec.toNat_or, ofInt_i64 a ha, ofInt_i64 b hb, IntKind.wrap_i64]
  omega
theorem or_hex (n d : Nat) (hn : n < 65536) (hd : d < 16) : bits .or .i64 ((n : Int) * 16) (d : Int) = ((n * 16 + d : Nat) : Int) := by
  rw [show ((n : Int) * 16) = ((n * 16 : Nat) : Int) by omega, i64_or_nat _ _ (by omega) (by omega)]
  have := Nat.shiftLeft_add_eq_or_of_lt (i := 4) (b := d) (by omega) n
  rw [Nat.shiftLeft_eq] at this
  rw [← this]
def PV (o : Option Nat) : Value := match o with
  | some v => .tuple #[.int .u16 (v : Int), .bool true]
  | none => .tuple #[.int .u16 0, .bool false]
theorem pv_none {o : Option Nat} (h : o = none) : PV o = .tuple #[.int .u16 0, .bool false] := by rw [h]; rfl
theorem pv_some {o : Option Nat} {v : Nat} (h : o = some v) : PV o = .tuple #[.int .u16 (v : Int), .bool true] := by rw [h]; rfl
theorem piece_bad {p : List UInt8} (h : ¬ (1 ≤ p.length ∧ p.length ≤ 4)) : piece p = none := if_neg (fun e => h ⟨e.1, e.2.1⟩)
set_option maxRecDepth 100000 in
theorem piece_any (s : ByteArray) (w : World) : Calls Tryd.prog 46 #[.string s] w fun e w' => e = .returned (PV (piece s.data.toList)) ∧ w = w' := by
  have hl : s.data.toList.length = s.size := Array.length_toList
  have HL := hid hl
  by_cases h1 : s.size < 1
  · have HE := hid (pv_none (piece_bad (p := s.data.toList) (by omega)))
    have hi : (s.size : Int) < 1 := by omega
    clear hl h1
    go_enter Tryd.func46, Tryd.ntmps46
    go_wp2
    go_ret2
    exact ⟨by rw [HE.out]; rfl, rfl⟩
  by_cases h4 : 4 < s.size
  · have HE := hid (pv_none (piece_bad (p := s.data.toList) (by omega)))
    have hi : (4 : Int) < (s.size : Int) := by omega
    have hi1 : ¬ (s.size : Int) < 1 := by omega
    clear hl h1 h4
    go_enter Tryd.func46, Tryd.ntmps46
    go_wp2
    go_ret2
    exact ⟨by rw [HE.out]; rfl, rfl⟩
  have hi : ¬ (4 : Int) < (s.size : Int) := by omega
  have hi1 : ¬ (s.size : Int) < 1 := by omega
  have HSZ : Hid (1 ≤ s.size ∧ s.size ≤ 4) := ⟨by omega, by omega⟩
  clear hl h1 h4
  go_enter Tryd.func46, Tryd.ntmps46
  go_wp2
  clear hi hi1
  generalize decide ((s.size : Int) < 1) = d1
  generalize decide ((4 : Int) < (s.size : Int)) = d2
  go_loopw [4, 5, 6] (fun vn vk _ wr => ∃ (k n : Nat), k ≤ s.size ∧ vk = .int .i64 (k : Int) ∧ vn = .int .i64 (n : Int) ∧ wr = w ∧ Hid (n = val 16 (s.data.toList.take k)) ∧ Hid (digs 16 (s.data.toList.take k) = true)) (fun _ vk _ _ => s.size - (intOf vk).toNat)
  case atStart => exact ⟨0, 0, Nat.zero_le _, rfl, rfl, rfl, rfl, rfl⟩
  case round =>
    obtain ⟨k, n, hk, rfl, rfl, rfl, HV, HT⟩ := hrel
    have hs4 : s.size ≤ 4 := HSZ.out.2
    by_cases hlt : k < s.size
    · obtain ⟨c, hc⟩ : ∃ c, s[k] = c := ⟨_, rfl⟩
      have hkl : k < s.data.toList.length := by rw [HL.out]; exact hlt
      have hcl : s.data.toList[k] = c := hc
      have HS : Hid (s.data.toList.take (k + 1) = s.data.toList.take k ++ [c]) := by rw [← hcl]; exact take_snoc _ k hkl
      have HM : Hid (c ∈ s.data.toList) := by show _ ∈ _; rw [← hcl]; exact List.getElem_mem _
      have h0 : 0 ≤ (c.toNat : Int) := by omega
      have h1 : (c.toNat : Int) ≤ 255 := by have := c.toNat_lt; omega
      have hn : n < 4096 := by
        have h := val_lt 16 (by omega) _ HT.out
        rw [← HV.out, List.length_take, HL.out] at h
        have h2 : k ≤ 3 := by have := HSZ.out.2; omega
        have h3 : 16 ^ min k s.size ≤ 16 ^ 3 := Nat.pow_le_pow_right (by omega) (by omega)
        omega
      clear hcl hkl
      by_cases hx : hex c.toNat < 0
      · have HE := hid (pv_none (piece_odd HM.out (hex_neg c hx)))
        obtain ⟨x, hxx⟩ : ∃ x, x = hex c.toNat := ⟨_, rfl⟩
        rw [← hxx] at hx
        have HX := hid hxx
        clear hxx
        go_wp2_with fail
        refine (UtfA.hex_any _ _ h0 h1).mono ?_
        rintro e w2 ⟨rfl, hw2⟩
        subst hw2
        rw [← HX.out]
        go_wp2
        go_ret2
        exact ⟨by rw [HE.out]; rfl, rfl⟩
      · have hD : isD 16 c = true := hex_pos c (by omega)
        obtain ⟨d, hd⟩ : ∃ d, d = dv c := ⟨_, rfl⟩
        have hd16 : d < 16 := by rw [hd]; exact dv_lt 16 c hD
        have HX : Hid (hex c.toNat = (d : Int)) := by show _ = _; rw [hd]; exact hex_dv 16 c hD
        have HV2 : Hid (n * 16 + d = val 16 (s.data.toList.take (k + 1))) := by show _ = _; rw [HS.out, val_snoc, ← HV.out, hd]
        have HT2 : Hid (digs 16 (s.data.toList.take (k + 1)) = true) := by show _ = _; rw [HS.out, digs_snoc, HT.out, hD]; rfl
        have hor := or_hex n d (by omega) hd16
        have hd0 : ¬ (d : Int) < 0 := by omega
        have hnb : (n : Int) < 4096 := by omega
        clear hx hD hd
        go_wp2_with fail
        refine (UtfA.hex_any _ _ h0 h1).mono ?_
        rintro e w2 ⟨rfl, hw2⟩
        subst hw2
        rw [HX.out]
        go_wp2
        go_roundw
        case rel => exact ⟨k + 1, n * 16 + d, by omega, by go_num, by first | rfl | go_num, by first | rfl | trivial, HV2.out, HT2.out⟩
        case measure => simp [intOf]; omega
    · obtain rfl : k = s.size := by omega
      have hfull : s.data.toList.take s.size = s.data.toList := List.take_of_length_le (by rw [HL.out]; exact Nat.le_refl _)
      have hn : n < 65536 := by
        have h := val_lt 16 (by omega) _ HT.out
        rw [← HV.out, hfull, HL.out] at h
        have h3 : 16 ^ s.size ≤ 16 ^ 4 := Nat.pow_le_pow_right (by omega) HSZ.out.2
        omega
      have HE : Hid (PV (piece s.data.toList) = .tuple #[.int .u16 (n : Int), .bool true]) := by
        show _ = _
        have h1 := HT.out
        have h2 := HV.out
        rw [hfull] at h1 h2
        rw [h2]
        exact pv_some (piece_some (by rw [HL.out]; exact HSZ.out.1) (by rw [HL.out]; exact HSZ.out.2) h1)
      have hni : (n : Int) < 65536 := by omega
      clear hfull
      go_wp2
      go_ret2
      exact ⟨by rw [HE.out]; rfl, rfl⟩
/-- small answers its number just if it is one: what it answers beside 'false' is no matter. -/
def SV (o : Option Nat) (e : Ending) : Prop := match o with
  | some v => e = .returned (.tuple #[.int .u16 (v : Int), .bool true])
  | none => ∃ x : Int, e = .returned (.tuple #[.int .u16 x, .bool false])
theorem sv_none {o : Option Nat} (h : o = none) (x : Int) : SV o (.returned (.tuple #[.int .u16 x, .bool false])) := by rw [h]; exact ⟨x, rfl⟩
theorem sv_some {o : Option Nat} {v : Nat} (h : o = some v) : SV o (.returned (.tuple #[.int .u16 (v : Int), .bool true])) := by rw [h]; rfl
theorem digit_val (c : UInt8) (h : isD 10 c = true) : 48 ≤ c.toNat ∧ c.toNat ≤ 57 ∧ dv c = c.toNat - 48 := by
  have H : ∀ n : Fin 256, (decide (0 ≤ hex (n.val : Int)) && decide (hex (n.val : Int) < (10 : Nat))) = true → 48 ≤ n.val ∧ n.val ≤ 57 ∧ (hex (n.val : Int)).toNat = n.val - 48 := by decide +kernel
  exact H ⟨c.toNat, c.toNat_lt⟩ h
theorem small_bad {p : List UInt8} (h : ¬ (1 ≤ p.length ∧ p.length ≤ 3)) : small p = none := if_neg (fun e => h ⟨e.1, e.2.1⟩)
theorem small_zero {p : List UInt8} (h1 : 1 < p.length) (h2 : p.head? = some 48) : small p = none := if_neg (fun e => e.2.2.1 ⟨h1, h2⟩)
set_option maxHeartbeats 2000000 in
theorem small_any (s : ByteArray) (w : World) : Calls Tryd.prog 67 #[.string s] w fun e w' => SV (small s.data.toList) e ∧ w = w' := by
  have hl : s.data.toList.length = s.size := Array.length_toList
  have HL := hid hl
  by_cases h1 : s.size < 1
  · have HE : Hid (small s.data.toList = none) := small_bad (by omega)
    have hi : (s.size : Int) < 1 := by omega
    clear hl h1
    go_enter Tryd.func67, Tryd.ntmps67
    go_wp2
    go_ret2
    exact ⟨sv_none HE.out _, rfl⟩
  by_cases h4 : 3 < s.size
  · have HE : Hid (small s.data.toList = none) := small_bad (by omega)
    have hi : (3 : Int) < (s.size : Int) := by omega
    have hi1 : ¬ (s.size : Int) < 1 := by omega
    clear hl h1 h4
    go_enter Tryd.func67, Tryd.ntmps67
    go_wp2
    go_ret2
    exact ⟨sv_none HE.out _, rfl⟩
  have hi : ¬ (3 : Int) < (s.size : Int) := by omega
  have hi1 : ¬ (s.size : Int) < 1 := by omega
  have HSZ : Hid (1 ≤ s.size ∧ s.size ≤ 3) := ⟨by omega, by omega⟩
  have h0s : 0 < s.size := by omega
  obtain ⟨a, ha⟩ : ∃ a, s[0] = a := ⟨_, rfl⟩
  have HA : Hid (s.data.toList.head? = some a) := by
    show _ = _
    have hcl : s.data.toList[0]'(by omega) = a := ha
    rw [List.head?_eq_getElem?, List.getElem?_eq_getElem (by omega), hcl]
  have hbr : (1 < s.size ∧ a = 48) ∨ ¬ (1 < s.size ∧ a = 48) := Classical.em _
  clear hl h1 h4
  rcases hbr with ⟨hb1, hb2⟩ | hb
  · have HE : Hid (small s.data.toList = none) := small_zero (by rw [HL.out]; exact hb1) (by rw [HA.out, hb2])
    have hb1i : (1 : Int) < (s.size : Int) := by omega
    have hb2i : ((a.toNat : Int) == 48) = true := by rw [hb2]; rfl
    clear hb2
    go_enter Tryd.func67, Tryd.ntmps67
    go_wp2
    go_ret2
    exact ⟨sv_none HE.out _, rfl⟩
  have HBR : Hid (¬ (1 < s.size ∧ s.data.toList.head? = some 48)) := by
    rintro ⟨x1, x2⟩
    rw [HA.out] at x2
    injection x2 with x2
    exact hb ⟨x1, x2⟩
  have hbr2 : ¬ (1 : Int) < (s.size : Int) ∨ ((1 : Int) < (s.size : Int) ∧ ((a.toNat : Int) == 48) = false) := by
    by_cases h : 1 < s.size
    · refine .inr ⟨by omega, ?_⟩
      have : a ≠ 48 := fun e => hb ⟨h, e⟩
      rw [beq_eq_false_iff_ne]
      intro e
      exact this (UInt8.toNat_inj.1 (by show _ = 48; omega))
    · exact .inl (by omega)
  clear hb
  rcases hbr2 with hq | ⟨hq, hq2⟩
  all_goals
    go_enter Tryd.func67, Tryd.ntmps67
    go_wp2
    try generalize decide ((s.size : Int) < 1) = d1
    try generalize decide ((3 : Int) < (s.size : Int)) = d2
    try generalize decide ((1 : Int) < (s.size : Int)) = d3
    clear hi hi1 hq
    go_loopw [4, 5] (fun vn vk wr => ∃ (k n : Nat), k ≤ s.size ∧ vk = .int .i64 (k : Int) ∧ vn = .int .u16 (n : Int) ∧ wr = w ∧ Hid (n = val 10 (s.data.toList.take k)) ∧ Hid (digs 10 (s.data.toList.take k) = true)) (fun _ vk _ => s.size - (intOf vk).toNat)
    case atStart => exact ⟨0, 0, Nat.zero_le _, rfl, rfl, rfl, rfl, rfl⟩
    case round =>
      obtain ⟨k, n, hk, rfl, rfl, rfl, HV, HT⟩ := hrel
      have hs3 : s.size ≤ 3 := HSZ.out.2
      by_cases hlt : k < s.size
      · obtain ⟨c, hc⟩ : ∃ c, s[k] = c := ⟨_, rfl⟩
        have hkl : k < s.data.toList.length := by rw [HL.out]; exact hlt
        have hcl : s.data.toList[k] = c := hc
        have HS : Hid (s.data.toList.take (k + 1) = s.data.toList.take k ++ [c]) := by rw [← hcl]; exact take_snoc _ k hkl
        have HM : Hid (c ∈ s.data.toList) := by show _ ∈ _; rw [← hcl]; exact List.getElem_mem _
        have hn : n < 100 := by
          have h := val_lt 10 (by omega) _ HT.out
          rw [← HV.out, List.length_take, HL.out] at h
          have h2 : k ≤ 2 := by have := HSZ.out.2; omega
          have h3 : 10 ^ min k s.size ≤ 10 ^ 2 := Nat.pow_le_pow_right (by omega) (by omega)
          omega
        clear hcl hkl
        cases hD : isD 10 c with
        | false =>
          have HE : Hid (small s.data.toList = none) := small_odd HM.out hD
          have hdg : UtfA.digit (c.toNat : Int) = false := by rw [digit_isD, hD]
          have HDG := hid hdg
          clear hD hdg
          go_wp2_with fail
          refine (UtfA.digit_any _ _).mono ?_
          rintro e w2 ⟨rfl, hw2⟩
          subst hw2
          rw [HDG.out]
          go_wp2
          go_ret2
          exact ⟨sv_none HE.out _, rfl⟩
        | true =>
          obtain ⟨hc1, hc2, hc3⟩ := digit_val c hD
          have HDG : Hid (UtfA.digit (c.toNat : Int) = true) := by show _ = _; rw [digit_isD, hD]
          have HV2 : Hid (n * 10 + (c.toNat - 48) = val 10 (s.data.toList.take (k + 1))) := by show _ = _; rw [HS.out, val_snoc, ← HV.out, hc3]
          have HT2 : Hid (digs 10 (s.data.toList.take (k + 1)) = true) := by show _ = _; rw [HS.out, digs_snoc, HT.out, hD]; rfl
          have hnb : (n : Int) < 100 := by omega
          have hci : 48 ≤ (c.toNat : Int) := by omega
          have hci2 : (c.toNat : Int) ≤ 57 := by omega
          have HSUM : Hid ((n : Int) * 10 + ((c.toNat : Int) - 48) = ((n * 10 + (c.toNat - 48) : Nat) : Int)) := by show _ = _; omega
          clear hD hc3 hc1 hc2
          go_wp2_with fail
          refine (UtfA.digit_any _ _).mono ?_
          rintro e w2 ⟨rfl, hw2⟩
          subst hw2
          rw [HDG.out]
          go_wp2
          go_roundw
          case rel => exact ⟨k + 1, n * 10 + (c.toNat - 48), by omega, by go_num, by first | exact int_eq HSUM.out | go_num, by first | rfl | trivial, HV2.out, HT2.out⟩
          case measure => simp [intOf]; omega
      · obtain rfl : k = s.size := by omega
        have hfull : s.data.toList.take s.size = s.data.toList := List.take_of_length_le (by rw [HL.out]; exact Nat.le_refl _)
        have hn : n < 1000 := by
          have h := val_lt 10 (by omega) _ HT.out
          rw [← HV.out, hfull, HL.out] at h
          have h3 : 10 ^ s.size ≤ 10 ^ 3 := Nat.pow_le_pow_right (by omega) HSZ.out.2
          omega
        have h1 := HT.out
        have h2 := HV.out
        rw [hfull] at h1 h2
        have hni : (n : Int) < 1000 := by omega
        clear hfull
        by_cases h255 : n ≤ 255
        · have HE : Hid (small s.data.toList = some n) := by
            show _ = _
            rw [h2] at h255 ⊢
            exact if_pos ⟨by rw [HL.out]; exact HSZ.out.1, by rw [HL.out]; exact HSZ.out.2, by rw [HL.out]; exact HBR.out, h1, h255⟩
          have hle : (n : Int) ≤ 255 := by omega
          clear h1 h2 h255
          go_wp2
          go_ret2
          exact ⟨sv_some HE.out, rfl⟩
        · have HE : Hid (small s.data.toList = none) := if_neg (fun e => h255 (by rw [h2]; exact e.2.2.2.2))
          have hle : ¬ (n : Int) ≤ 255 := by omega
          clear h1 h2 h255
          go_wp2
          go_ret2
          exact ⟨sv_none HE.out _, rfl⟩
end Go.Proofs.YtnmkkejodkjjiaaDoor.SixA
