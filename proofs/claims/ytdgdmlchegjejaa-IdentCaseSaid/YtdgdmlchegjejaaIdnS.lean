/- Names: the law's own 'is' tells whether a text is its own digits' name. -/
import Derived.Test.YtdgdmlchegjejaaIdnR
import Derived.Test.YtdgdmlchegjejaaRefA
import Derived.Deep.DeepCutAuto
namespace Go.Proofs.Ytdgdmlchegjejaa.IdnS
open Go.RowKit Go.Proofs.Ytdgdmlchegjejaa.Base Go.Proofs.Ytdgdmlchegjejaa.Base2 Go.Proofs.Ytdgdmlchegjejaa.IdnA Go.Proofs.Ytdgdmlchegjejaa.IdnP Go.Proofs.Ytdgdmlchegjejaa.IdnR

theorem okh_hex (c : UInt8) : okh c = true ↔ (0 ≤ UtfA.hex (c.toNat : Int) ∧ ((c.toNat : Int) < 65 ∨ 70 < (c.toNat : Int))) := by
  have H : ∀ n : Fin 256, okh (UInt8.ofNat n.val) = true ↔ (0 ≤ UtfA.hex (((UInt8.ofNat n.val).toNat : Nat) : Int) ∧ ((((UInt8.ofNat n.val).toNat : Nat) : Int) < 65 ∨ 70 < (((UInt8.ofNat n.val).toNat : Nat) : Int))) := by decide +kernel
  have := H ⟨c.toNat, c.toNat_lt⟩
  simpa using this
def Oks (L : List UInt8) (k : Nat) : Prop := ∀ j (h : j < L.length), j < k → okAt j L[j] = true
theorem oks_zero (L : List UInt8) : Oks L 0 := fun j h hj => absurd hj (by omega)
theorem oks_succ {L : List UInt8} {k : Nat} (hk : k < L.length) (c : UInt8) (hc : L[k] = c) (h : Oks L k) (ho : okAt k c = true) : Oks L (k + 1) := fun j hj hl => by
  by_cases e : j = k
  · subst e; rw [hc]; exact ho
  · exact h j hj (by omega)
theorem oks_not {L : List UInt8} {k : Nat} (hk : k < L.length) (c : UInt8) (hc : L[k] = c) (ho : okAt k c = false) : decide (own L = L) = false := by
  rw [decide_eq_false_iff_not, own_isn]
  intro h
  have := h.2 k hk
  rw [hc, ho] at this
  cases this
theorem beq_int (a b : Nat) : (((a : Nat) : Int) == (b : Int)) = decide (a = b) := by
  rw [Bool.eq_iff_iff]; simp; omega
theorem eq_u8 (c : UInt8) (n : Nat) (hn : n < 256) : (c == UInt8.ofNat n) = decide (c.toNat = n) := by
  rw [Bool.eq_iff_iff]
  simp
  constructor
  · rintro rfl; simp; omega
  · intro h; rw [← h]; simp
theorem at_dash (k : Nat) (c : UInt8) (h : k = 8 ∨ k = 13 ∨ k = 18 ∨ k = 23) : okAt k c = decide (c.toNat = 45) := by
  unfold okAt; rw [if_pos h]; exact eq_u8 c 45 (by omega)
theorem at_four (k : Nat) (c : UInt8) (h : k = 14) : okAt k c = decide (c.toNat = 52) := by
  unfold okAt; rw [if_neg (by omega), if_pos h]; exact eq_u8 c 52 (by omega)
theorem at_var (k : Nat) (c : UInt8) (h : k = 19) : okAt k c = (decide (c.toNat = 56) || decide (c.toNat = 57) || decide (c.toNat = 97) || decide (c.toNat = 98)) := by
  unfold okAt; rw [if_neg (by omega), if_neg (by omega), if_pos h]
  have h1 := eq_u8 c 56 (by omega)
  have h2 := eq_u8 c 57 (by omega)
  have h3 := eq_u8 c 97 (by omega)
  have h4 := eq_u8 c 98 (by omega)
  rw [← h1, ← h2, ← h3, ← h4]
  rfl
theorem at_hex (k : Nat) (c : UInt8) (h : k ≠ 8 ∧ k ≠ 13 ∧ k ≠ 18 ∧ k ≠ 23 ∧ k ≠ 14 ∧ k ≠ 19) : okAt k c = okh c := by
  unfold okAt; rw [if_neg (by omega), if_neg (by omega), if_neg (by omega)]
set_option linter.unusedSimpArgs false in
set_option maxHeartbeats 4000000 in
theorem is_ref (s : ByteArray) (w : World) (hm : s.size ≤ 1073741824) : Calls Try.prog 26 #[.string s] w fun e w' => e = .returned (.bool (decide (own s.data.toList = s.data.toList))) ∧ w = w' := by
  have hl : s.data.toList.length = s.size := Array.length_toList
  have HL := hid hl
  clear hl
  by_cases h36 : s.size = 36
  · have HS := hid h36
    have h1 : 36 ≤ s.size := by omega
    have h2 : s.size ≤ 36 := by omega
    have h3 : ((s.size : Int) == 36) = true := by simp; omega
    have h3' : ((s.size : Int) != 36) = false := by simp; omega
    clear h36
    go_enter Try.func26, Try.ntmps26
    go_wp2
    go_loop [11] (fun i => ∃ k : Nat, k ≤ 36 ∧ i = .int .i64 k ∧ Hid (Oks s.data.toList k)) (fun i => 36 - (intOf i).toNat)
    case atStart => exact ⟨0, by omega, rfl, oks_zero _⟩
    case round =>
      obtain ⟨k, hk, rfl, HO⟩ := hrel
      by_cases hlt : k < 36
      · have hks : k < s.size := by omega
        obtain ⟨c, hc⟩ : ∃ c, s[k] = c := ⟨_, rfl⟩
        have HC : Hid (∃ h : k < s.data.toList.length, s.data.toList[k] = c) := ⟨by rw [HL.out]; exact hks, by rw [← hc]; rfl⟩
        have hc1 : (c.toNat : Int) ≤ 255 := by have := c.toNat_lt; omega
        have hc0 : (0 : Int) ≤ (c.toNat : Int) := by omega
        obtain ⟨h, hh⟩ : ∃ h, h = UtfA.hex (c.toNat : Int) := ⟨_, rfl⟩
        have HH := hid hh
        clear hh
        obtain ⟨o, ho⟩ : ∃ o, o = okh c := ⟨_, rfl⟩
        have HOK := hid ho
        clear ho
        go_upto_region 7 with (fail)
        go_cut [5] (fun v wx => v = .bool o ∧ wx = w)
        case first =>
          by_cases q1 : 0 ≤ h
          · by_cases q2 : (c.toNat : Int) < 65
            · have HT : Hid (o = true) := by rw [HOK.out]; exact (okh_hex c).2 ⟨by rw [← HH.out]; exact q1, Or.inl q2⟩
              go_wp2_with ((refine (RefA.hex_any _ _).mono ?_); rintro e w1 ⟨rfl, rfl⟩; rw [← HH.out])
              go_meet
              exact ⟨by rw [HT.out], rfl⟩
            · by_cases q3 : 70 < (c.toNat : Int)
              · have HT : Hid (o = true) := by rw [HOK.out]; exact (okh_hex c).2 ⟨by rw [← HH.out]; exact q1, Or.inr q3⟩
                go_wp2_with ((refine (RefA.hex_any _ _).mono ?_); rintro e w1 ⟨rfl, rfl⟩; rw [← HH.out])
                go_meet
                exact ⟨by rw [HT.out], rfl⟩
              · have HT : Hid (o = false) := by rw [HOK.out, Bool.eq_false_iff]; intro hx; have := (okh_hex c).1 hx; omega
                go_wp2_with ((refine (RefA.hex_any _ _).mono ?_); rintro e w1 ⟨rfl, rfl⟩; rw [← HH.out])
                go_meet
                exact ⟨by rw [HT.out]; simp; omega, rfl⟩
          · have HT : Hid (o = false) := by rw [HOK.out, Bool.eq_false_iff]; intro hx; have := (okh_hex c).1 hx; rw [← HH.out] at this; omega
            go_wp2_with ((refine (RefA.hex_any _ _).mono ?_); rintro e w1 ⟨rfl, rfl⟩; rw [← HH.out])
            go_meet
            exact ⟨by rw [HT.out], rfl⟩
        case rest =>
        obtain ⟨rfl, hwc⟩ := hcut
        subst hwc
        obtain hcase | hcase | hcase | hcase | hcase | hcase | hcase : k = 8 ∨ k = 13 ∨ k = 18 ∨ k = 23 ∨ k = 14 ∨ k = 19 ∨ (k ≠ 8 ∧ k ≠ 13 ∧ k ≠ 18 ∧ k ≠ 23 ∧ k ≠ 14 ∧ k ≠ 19) := by omega
        · have HK := hid hcase
          clear hcase
          by_cases hd : c.toNat = 45
          · have b8 : ((k : Int) == 8) = true := by rw [show (8 : Int) = ((8 : Nat) : Int) from rfl, beq_int]; simp; exact HK.out
            have d45 : ((c.toNat : Int) == 45) = true := by rw [show (45 : Int) = ((45 : Nat) : Int) from rfl, beq_int]; simp; omega
            have HE : Hid (okAt k c = true) := by show _ = _; rw [at_dash k c (by have := HK.out; omega)]; simpa using hd
            clear hd
            go_wp2
            all_goals
              go_round
              case rel => exact ⟨k + 1, by omega, by go_num, oks_succ HC.out.1 c HC.out.2 HO.out HE.out⟩
              case measure => simp [intOf]; omega
          · have b8 : ((k : Int) == 8) = true := by rw [show (8 : Int) = ((8 : Nat) : Int) from rfl, beq_int]; simp; exact HK.out
            have d45 : ((c.toNat : Int) == 45) = false := by rw [show (45 : Int) = ((45 : Nat) : Int) from rfl, beq_int]; simp; omega
            have HE : Hid (decide (own s.data.toList = s.data.toList) = false) := oks_not HC.out.1 c HC.out.2 (by rw [at_dash k c (by have := HK.out; omega)]; simpa using hd)
            clear hd
            go_wp2
            all_goals
              go_ret
              first | exact ⟨ret_bool HE.out.symm, rfl⟩ | exact ⟨by rw [HE.out], rfl⟩
        · have HK := hid hcase
          clear hcase
          by_cases hd : c.toNat = 45
          · have b8 : ((k : Int) == 8) = false := by rw [show (8 : Int) = ((8 : Nat) : Int) from rfl, beq_int]; simp; have := HK.out; omega
            have b13 : ((k : Int) == 13) = true := by rw [show (13 : Int) = ((13 : Nat) : Int) from rfl, beq_int]; simp; exact HK.out
            have d45 : ((c.toNat : Int) == 45) = true := by rw [show (45 : Int) = ((45 : Nat) : Int) from rfl, beq_int]; simp; omega
            have HE : Hid (okAt k c = true) := by show _ = _; rw [at_dash k c (by have := HK.out; omega)]; simpa using hd
            clear hd
            go_wp2
            all_goals
              go_round
              case rel => exact ⟨k + 1, by omega, by go_num, oks_succ HC.out.1 c HC.out.2 HO.out HE.out⟩
              case measure => simp [intOf]; omega
          · have b8 : ((k : Int) == 8) = false := by rw [show (8 : Int) = ((8 : Nat) : Int) from rfl, beq_int]; simp; have := HK.out; omega
            have b13 : ((k : Int) == 13) = true := by rw [show (13 : Int) = ((13 : Nat) : Int) from rfl, beq_int]; simp; exact HK.out
            have d45 : ((c.toNat : Int) == 45) = false := by rw [show (45 : Int) = ((45 : Nat) : Int) from rfl, beq_int]; simp; omega
            have HE : Hid (decide (own s.data.toList = s.data.toList) = false) := oks_not HC.out.1 c HC.out.2 (by rw [at_dash k c (by have := HK.out; omega)]; simpa using hd)
            clear hd
            go_wp2
            all_goals
              go_ret
              first | exact ⟨ret_bool HE.out.symm, rfl⟩ | exact ⟨by rw [HE.out], rfl⟩
        · have HK := hid hcase
          clear hcase
          by_cases hd : c.toNat = 45
          · have b8 : ((k : Int) == 8) = false := by rw [show (8 : Int) = ((8 : Nat) : Int) from rfl, beq_int]; simp; have := HK.out; omega
            have b13 : ((k : Int) == 13) = false := by rw [show (13 : Int) = ((13 : Nat) : Int) from rfl, beq_int]; simp; have := HK.out; omega
            have b18 : ((k : Int) == 18) = true := by rw [show (18 : Int) = ((18 : Nat) : Int) from rfl, beq_int]; simp; exact HK.out
            have d45 : ((c.toNat : Int) == 45) = true := by rw [show (45 : Int) = ((45 : Nat) : Int) from rfl, beq_int]; simp; omega
            have HE : Hid (okAt k c = true) := by show _ = _; rw [at_dash k c (by have := HK.out; omega)]; simpa using hd
            clear hd
            go_wp2
            all_goals
              go_round
              case rel => exact ⟨k + 1, by omega, by go_num, oks_succ HC.out.1 c HC.out.2 HO.out HE.out⟩
              case measure => simp [intOf]; omega
          · have b8 : ((k : Int) == 8) = false := by rw [show (8 : Int) = ((8 : Nat) : Int) from rfl, beq_int]; simp; have := HK.out; omega
            have b13 : ((k : Int) == 13) = false := by rw [show (13 : Int) = ((13 : Nat) : Int) from rfl, beq_int]; simp; have := HK.out; omega
            have b18 : ((k : Int) == 18) = true := by rw [show (18 : Int) = ((18 : Nat) : Int) from rfl, beq_int]; simp; exact HK.out
            have d45 : ((c.toNat : Int) == 45) = false := by rw [show (45 : Int) = ((45 : Nat) : Int) from rfl, beq_int]; simp; omega
            have HE : Hid (decide (own s.data.toList = s.data.toList) = false) := oks_not HC.out.1 c HC.out.2 (by rw [at_dash k c (by have := HK.out; omega)]; simpa using hd)
            clear hd
            go_wp2
            all_goals
              go_ret
              first | exact ⟨ret_bool HE.out.symm, rfl⟩ | exact ⟨by rw [HE.out], rfl⟩
        · have HK := hid hcase
          clear hcase
          by_cases hd : c.toNat = 45
          · have b8 : ((k : Int) == 8) = false := by rw [show (8 : Int) = ((8 : Nat) : Int) from rfl, beq_int]; simp; have := HK.out; omega
            have b13 : ((k : Int) == 13) = false := by rw [show (13 : Int) = ((13 : Nat) : Int) from rfl, beq_int]; simp; have := HK.out; omega
            have b18 : ((k : Int) == 18) = false := by rw [show (18 : Int) = ((18 : Nat) : Int) from rfl, beq_int]; simp; have := HK.out; omega
            have b23 : ((k : Int) == 23) = true := by rw [show (23 : Int) = ((23 : Nat) : Int) from rfl, beq_int]; simp; exact HK.out
            have d45 : ((c.toNat : Int) == 45) = true := by rw [show (45 : Int) = ((45 : Nat) : Int) from rfl, beq_int]; simp; omega
            have HE : Hid (okAt k c = true) := by show _ = _; rw [at_dash k c (by have := HK.out; omega)]; simpa using hd
            clear hd
            go_wp2
            all_goals
              go_round
              case rel => exact ⟨k + 1, by omega, by go_num, oks_succ HC.out.1 c HC.out.2 HO.out HE.out⟩
              case measure => simp [intOf]; omega
          · have b8 : ((k : Int) == 8) = false := by rw [show (8 : Int) = ((8 : Nat) : Int) from rfl, beq_int]; simp; have := HK.out; omega
            have b13 : ((k : Int) == 13) = false := by rw [show (13 : Int) = ((13 : Nat) : Int) from rfl, beq_int]; simp; have := HK.out; omega
            have b18 : ((k : Int) == 18) = false := by rw [show (18 : Int) = ((18 : Nat) : Int) from rfl, beq_int]; simp; have := HK.out; omega
            have b23 : ((k : Int) == 23) = true := by rw [show (23 : Int) = ((23 : Nat) : Int) from rfl, beq_int]; simp; exact HK.out
            have d45 : ((c.toNat : Int) == 45) = false := by rw [show (45 : Int) = ((45 : Nat) : Int) from rfl, beq_int]; simp; omega
            have HE : Hid (decide (own s.data.toList = s.data.toList) = false) := oks_not HC.out.1 c HC.out.2 (by rw [at_dash k c (by have := HK.out; omega)]; simpa using hd)
            clear hd
            go_wp2
            all_goals
              go_ret
              first | exact ⟨ret_bool HE.out.symm, rfl⟩ | exact ⟨by rw [HE.out], rfl⟩
        · have HK := hid hcase
          clear hcase
          by_cases hd : c.toNat = 52
          · have b8 : ((k : Int) == 8) = false := by rw [show (8 : Int) = ((8 : Nat) : Int) from rfl, beq_int]; simp; have := HK.out; omega
            have b13 : ((k : Int) == 13) = false := by rw [show (13 : Int) = ((13 : Nat) : Int) from rfl, beq_int]; simp; have := HK.out; omega
            have b18 : ((k : Int) == 18) = false := by rw [show (18 : Int) = ((18 : Nat) : Int) from rfl, beq_int]; simp; have := HK.out; omega
            have b23 : ((k : Int) == 23) = false := by rw [show (23 : Int) = ((23 : Nat) : Int) from rfl, beq_int]; simp; have := HK.out; omega
            have b14 : ((k : Int) == 14) = true := by rw [show (14 : Int) = ((14 : Nat) : Int) from rfl, beq_int]; simp; exact HK.out
            have d52 : ((c.toNat : Int) == 52) = true := by rw [show (52 : Int) = ((52 : Nat) : Int) from rfl, beq_int]; simp; omega
            have HE : Hid (okAt k c = true) := by show _ = _; rw [at_four k c HK.out]; simpa using hd
            clear hd
            go_wp2
            all_goals
              go_round
              case rel => exact ⟨k + 1, by omega, by go_num, oks_succ HC.out.1 c HC.out.2 HO.out HE.out⟩
              case measure => simp [intOf]; omega
          · have b8 : ((k : Int) == 8) = false := by rw [show (8 : Int) = ((8 : Nat) : Int) from rfl, beq_int]; simp; have := HK.out; omega
            have b13 : ((k : Int) == 13) = false := by rw [show (13 : Int) = ((13 : Nat) : Int) from rfl, beq_int]; simp; have := HK.out; omega
            have b18 : ((k : Int) == 18) = false := by rw [show (18 : Int) = ((18 : Nat) : Int) from rfl, beq_int]; simp; have := HK.out; omega
            have b23 : ((k : Int) == 23) = false := by rw [show (23 : Int) = ((23 : Nat) : Int) from rfl, beq_int]; simp; have := HK.out; omega
            have b14 : ((k : Int) == 14) = true := by rw [show (14 : Int) = ((14 : Nat) : Int) from rfl, beq_int]; simp; exact HK.out
            have d52 : ((c.toNat : Int) == 52) = false := by rw [show (52 : Int) = ((52 : Nat) : Int) from rfl, beq_int]; simp; omega
            have HE : Hid (decide (own s.data.toList = s.data.toList) = false) := oks_not HC.out.1 c HC.out.2 (by rw [at_four k c HK.out]; simpa using hd)
            clear hd
            go_wp2
            all_goals
              go_ret
              first | exact ⟨ret_bool HE.out.symm, rfl⟩ | exact ⟨by rw [HE.out], rfl⟩
        · have HK := hid hcase
          clear hcase
          obtain hd | hd | hd | hd | hd : c.toNat = 56 ∨ c.toNat = 57 ∨ c.toNat = 97 ∨ c.toNat = 98 ∨ (c.toNat ≠ 56 ∧ c.toNat ≠ 57 ∧ c.toNat ≠ 97 ∧ c.toNat ≠ 98) := by omega
          · have b8 : ((k : Int) == 8) = false := by rw [show (8 : Int) = ((8 : Nat) : Int) from rfl, beq_int]; simp; have := HK.out; omega
            have b13 : ((k : Int) == 13) = false := by rw [show (13 : Int) = ((13 : Nat) : Int) from rfl, beq_int]; simp; have := HK.out; omega
            have b18 : ((k : Int) == 18) = false := by rw [show (18 : Int) = ((18 : Nat) : Int) from rfl, beq_int]; simp; have := HK.out; omega
            have b23 : ((k : Int) == 23) = false := by rw [show (23 : Int) = ((23 : Nat) : Int) from rfl, beq_int]; simp; have := HK.out; omega
            have b14 : ((k : Int) == 14) = false := by rw [show (14 : Int) = ((14 : Nat) : Int) from rfl, beq_int]; simp; have := HK.out; omega
            have b19 : ((k : Int) == 19) = true := by rw [show (19 : Int) = ((19 : Nat) : Int) from rfl, beq_int]; simp; exact HK.out
            have d56 : ((c.toNat : Int) == 56) = true := by rw [show (56 : Int) = ((56 : Nat) : Int) from rfl, beq_int]; simp; omega
            have HE : Hid (okAt k c = true) := by show _ = _; rw [at_var k c HK.out, hd]; rfl
            clear hd
            go_wp2
            all_goals
              go_round
              case rel => exact ⟨k + 1, by omega, by go_num, oks_succ HC.out.1 c HC.out.2 HO.out HE.out⟩
              case measure => simp [intOf]; omega
          · have b8 : ((k : Int) == 8) = false := by rw [show (8 : Int) = ((8 : Nat) : Int) from rfl, beq_int]; simp; have := HK.out; omega
            have b13 : ((k : Int) == 13) = false := by rw [show (13 : Int) = ((13 : Nat) : Int) from rfl, beq_int]; simp; have := HK.out; omega
            have b18 : ((k : Int) == 18) = false := by rw [show (18 : Int) = ((18 : Nat) : Int) from rfl, beq_int]; simp; have := HK.out; omega
            have b23 : ((k : Int) == 23) = false := by rw [show (23 : Int) = ((23 : Nat) : Int) from rfl, beq_int]; simp; have := HK.out; omega
            have b14 : ((k : Int) == 14) = false := by rw [show (14 : Int) = ((14 : Nat) : Int) from rfl, beq_int]; simp; have := HK.out; omega
            have b19 : ((k : Int) == 19) = true := by rw [show (19 : Int) = ((19 : Nat) : Int) from rfl, beq_int]; simp; exact HK.out
            have d56 : ((c.toNat : Int) == 56) = false := by rw [show (56 : Int) = ((56 : Nat) : Int) from rfl, beq_int]; simp; omega
            have d57 : ((c.toNat : Int) == 57) = true := by rw [show (57 : Int) = ((57 : Nat) : Int) from rfl, beq_int]; simp; omega
            have HE : Hid (okAt k c = true) := by show _ = _; rw [at_var k c HK.out, hd]; rfl
            clear hd
            go_wp2
            all_goals
              go_round
              case rel => exact ⟨k + 1, by omega, by go_num, oks_succ HC.out.1 c HC.out.2 HO.out HE.out⟩
              case measure => simp [intOf]; omega
          · have b8 : ((k : Int) == 8) = false := by rw [show (8 : Int) = ((8 : Nat) : Int) from rfl, beq_int]; simp; have := HK.out; omega
            have b13 : ((k : Int) == 13) = false := by rw [show (13 : Int) = ((13 : Nat) : Int) from rfl, beq_int]; simp; have := HK.out; omega
            have b18 : ((k : Int) == 18) = false := by rw [show (18 : Int) = ((18 : Nat) : Int) from rfl, beq_int]; simp; have := HK.out; omega
            have b23 : ((k : Int) == 23) = false := by rw [show (23 : Int) = ((23 : Nat) : Int) from rfl, beq_int]; simp; have := HK.out; omega
            have b14 : ((k : Int) == 14) = false := by rw [show (14 : Int) = ((14 : Nat) : Int) from rfl, beq_int]; simp; have := HK.out; omega
            have b19 : ((k : Int) == 19) = true := by rw [show (19 : Int) = ((19 : Nat) : Int) from rfl, beq_int]; simp; exact HK.out
            have d56 : ((c.toNat : Int) == 56) = false := by rw [show (56 : Int) = ((56 : Nat) : Int) from rfl, beq_int]; simp; omega
            have d57 : ((c.toNat : Int) == 57) = false := by rw [show (57 : Int) = ((57 : Nat) : Int) from rfl, beq_int]; simp; omega
            have d97 : ((c.toNat : Int) == 97) = true := by rw [show (97 : Int) = ((97 : Nat) : Int) from rfl, beq_int]; simp; omega
            have HE : Hid (okAt k c = true) := by show _ = _; rw [at_var k c HK.out, hd]; rfl
            clear hd
            go_wp2
            all_goals
              go_round
              case rel => exact ⟨k + 1, by omega, by go_num, oks_succ HC.out.1 c HC.out.2 HO.out HE.out⟩
              case measure => simp [intOf]; omega
          · have b8 : ((k : Int) == 8) = false := by rw [show (8 : Int) = ((8 : Nat) : Int) from rfl, beq_int]; simp; have := HK.out; omega
            have b13 : ((k : Int) == 13) = false := by rw [show (13 : Int) = ((13 : Nat) : Int) from rfl, beq_int]; simp; have := HK.out; omega
            have b18 : ((k : Int) == 18) = false := by rw [show (18 : Int) = ((18 : Nat) : Int) from rfl, beq_int]; simp; have := HK.out; omega
            have b23 : ((k : Int) == 23) = false := by rw [show (23 : Int) = ((23 : Nat) : Int) from rfl, beq_int]; simp; have := HK.out; omega
            have b14 : ((k : Int) == 14) = false := by rw [show (14 : Int) = ((14 : Nat) : Int) from rfl, beq_int]; simp; have := HK.out; omega
            have b19 : ((k : Int) == 19) = true := by rw [show (19 : Int) = ((19 : Nat) : Int) from rfl, beq_int]; simp; exact HK.out
            have d56 : ((c.toNat : Int) == 56) = false := by rw [show (56 : Int) = ((56 : Nat) : Int) from rfl, beq_int]; simp; omega
            have d57 : ((c.toNat : Int) == 57) = false := by rw [show (57 : Int) = ((57 : Nat) : Int) from rfl, beq_int]; simp; omega
            have d97 : ((c.toNat : Int) == 97) = false := by rw [show (97 : Int) = ((97 : Nat) : Int) from rfl, beq_int]; simp; omega
            have d98 : ((c.toNat : Int) == 98) = true := by rw [show (98 : Int) = ((98 : Nat) : Int) from rfl, beq_int]; simp; omega
            have HE : Hid (okAt k c = true) := by show _ = _; rw [at_var k c HK.out, hd]; rfl
            clear hd
            go_wp2
            all_goals
              go_round
              case rel => exact ⟨k + 1, by omega, by go_num, oks_succ HC.out.1 c HC.out.2 HO.out HE.out⟩
              case measure => simp [intOf]; omega
          · have b8 : ((k : Int) == 8) = false := by rw [show (8 : Int) = ((8 : Nat) : Int) from rfl, beq_int]; simp; have := HK.out; omega
            have b13 : ((k : Int) == 13) = false := by rw [show (13 : Int) = ((13 : Nat) : Int) from rfl, beq_int]; simp; have := HK.out; omega
            have b18 : ((k : Int) == 18) = false := by rw [show (18 : Int) = ((18 : Nat) : Int) from rfl, beq_int]; simp; have := HK.out; omega
            have b23 : ((k : Int) == 23) = false := by rw [show (23 : Int) = ((23 : Nat) : Int) from rfl, beq_int]; simp; have := HK.out; omega
            have b14 : ((k : Int) == 14) = false := by rw [show (14 : Int) = ((14 : Nat) : Int) from rfl, beq_int]; simp; have := HK.out; omega
            have b19 : ((k : Int) == 19) = true := by rw [show (19 : Int) = ((19 : Nat) : Int) from rfl, beq_int]; simp; exact HK.out
            have d56 : ((c.toNat : Int) == 56) = false := by rw [show (56 : Int) = ((56 : Nat) : Int) from rfl, beq_int]; simp; omega
            have d57 : ((c.toNat : Int) == 57) = false := by rw [show (57 : Int) = ((57 : Nat) : Int) from rfl, beq_int]; simp; omega
            have d97 : ((c.toNat : Int) == 97) = false := by rw [show (97 : Int) = ((97 : Nat) : Int) from rfl, beq_int]; simp; omega
            have d98 : ((c.toNat : Int) == 98) = false := by rw [show (98 : Int) = ((98 : Nat) : Int) from rfl, beq_int]; simp; omega
            have HE : Hid (decide (own s.data.toList = s.data.toList) = false) := oks_not HC.out.1 c HC.out.2 (by rw [at_var k c HK.out]; simp; omega)
            clear hd
            go_wp2
            all_goals
              go_ret
              first | exact ⟨ret_bool HE.out.symm, rfl⟩ | exact ⟨by rw [HE.out], rfl⟩
        · have HK := hid hcase
          clear hcase
          by_cases hd : okh c = true
          · have b8 : ((k : Int) == 8) = false := by rw [show (8 : Int) = ((8 : Nat) : Int) from rfl, beq_int]; simp; have := HK.out; omega
            have b13 : ((k : Int) == 13) = false := by rw [show (13 : Int) = ((13 : Nat) : Int) from rfl, beq_int]; simp; have := HK.out; omega
            have b18 : ((k : Int) == 18) = false := by rw [show (18 : Int) = ((18 : Nat) : Int) from rfl, beq_int]; simp; have := HK.out; omega
            have b23 : ((k : Int) == 23) = false := by rw [show (23 : Int) = ((23 : Nat) : Int) from rfl, beq_int]; simp; have := HK.out; omega
            have b14 : ((k : Int) == 14) = false := by rw [show (14 : Int) = ((14 : Nat) : Int) from rfl, beq_int]; simp; have := HK.out; omega
            have b19 : ((k : Int) == 19) = false := by rw [show (19 : Int) = ((19 : Nat) : Int) from rfl, beq_int]; simp; have := HK.out; omega
            have HE : Hid (okAt k c = true) := by show _ = _; rw [at_hex k c HK.out]; exact hd
            obtain rfl : o = true := HOK.out.trans hd
            clear hd
            go_wp2
            all_goals
              go_round
              case rel => exact ⟨k + 1, by omega, by go_num, oks_succ HC.out.1 c HC.out.2 HO.out HE.out⟩
              case measure => simp [intOf]; omega
          · have b8 : ((k : Int) == 8) = false := by rw [show (8 : Int) = ((8 : Nat) : Int) from rfl, beq_int]; simp; have := HK.out; omega
            have b13 : ((k : Int) == 13) = false := by rw [show (13 : Int) = ((13 : Nat) : Int) from rfl, beq_int]; simp; have := HK.out; omega
            have b18 : ((k : Int) == 18) = false := by rw [show (18 : Int) = ((18 : Nat) : Int) from rfl, beq_int]; simp; have := HK.out; omega
            have b23 : ((k : Int) == 23) = false := by rw [show (23 : Int) = ((23 : Nat) : Int) from rfl, beq_int]; simp; have := HK.out; omega
            have b14 : ((k : Int) == 14) = false := by rw [show (14 : Int) = ((14 : Nat) : Int) from rfl, beq_int]; simp; have := HK.out; omega
            have b19 : ((k : Int) == 19) = false := by rw [show (19 : Int) = ((19 : Nat) : Int) from rfl, beq_int]; simp; have := HK.out; omega
            have HE : Hid (decide (own s.data.toList = s.data.toList) = false) := oks_not HC.out.1 c HC.out.2 (by rw [at_hex k c HK.out]; simpa using hd)
            obtain rfl : o = false := HOK.out.trans (by simpa using hd)
            clear hd
            go_wp2
            all_goals
              go_ret
              first | exact ⟨ret_bool HE.out.symm, rfl⟩ | exact ⟨by rw [HE.out], rfl⟩
      · obtain rfl : k = 36 := by omega
        have HE : Hid (decide (own s.data.toList = s.data.toList) = true) := by
          refine decide_eq_true ((own_isn _).2 ⟨by rw [HL.out]; exact HS.out, fun j hj => HO.out j hj (by rw [HL.out, HS.out] at hj; exact hj)⟩)
        go_wp2
        go_ret
        exact ⟨ret_bool HE.out.symm, rfl⟩
  · have HE : Hid (decide (own s.data.toList = s.data.toList) = false) := by
      show _ = _
      rw [decide_eq_false_iff_not, own_isn]
      intro h
      exact h36 (HL.out ▸ h.1)
    have h3 : ((s.size : Int) == 36) = false := by simp; omega
    have h3' : ((s.size : Int) != 36) = true := by simp; omega
    clear h36
    go_enter Try.func26, Try.ntmps26
    go_wp2
    go_ret
    exact ⟨ret_bool HE.out.symm, rfl⟩
end Go.Proofs.Ytdgdmlchegjejaa.IdnS
