/- IPv6 addresses: the document's hex and four. -/
import Derived.Test.YtnmkkejodkjjiaaDoorSixB
import Derived.Test.YtnmkkejodkjjiaaDoorRefA
namespace Go.Proofs.YtnmkkejodkjjiaaDoor.SixD
open Go.RowKit Go.Proofs.YtnmkkejodkjjiaaDoor.Base Go.Proofs.YtnmkkejodkjjiaaDoor.Base2 Go.Proofs.YtnmkkejodkjjiaaDoor.Base3 Go.Proofs.YtnmkkejodkjjiaaDoor.UtfA Go.Proofs.YtnmkkejodkjjiaaDoor.QudP Go.Proofs.YtnmkkejodkjjiaaDoor.SixP Go.Proofs.YtnmkkejodkjjiaaDoor.SixQ Go.Proofs.YtnmkkejodkjjiaaDoor.SixA Go.Proofs.YtnmkkejodkjjiaaDoor.SixB

theorem take_drop_snoc (l : List UInt8) (a k : Nat) (h : a + k < l.length) : (l.drop a).take (k + 1) = (l.drop a).take k ++ [l[a + k]] := by
  rw [take_snoc (l.drop a) k (by rw [List.length_drop]; omega), List.getElem_drop]
theorem drop_get (l : List UInt8) (a k : Nat) : (l.drop a)[k]? = l[a + k]? := by rw [List.getElem?_drop]
/-- What the document's hex answers. -/
def Hex (t : List UInt8) (e : Ending) : Prop := ∃ m, Pre 16 t m ∧ e = .returned (.tuple #[.int .i64 ((val 16 (t.take m) : Nat) : Int), .int .i64 (m : Int)])
theorem val_lt4 {t : List UInt8} {m : Nat} (h : Pre 16 t m) : val 16 (t.take m) < 65536 := by
  have h1 := val_lt 16 (by omega) _ h.all
  have h2 : (t.take m).length ≤ 4 := by rw [List.length_take]; have := h.four; omega
  have h3 : 16 ^ (t.take m).length ≤ 16 ^ 4 := Nat.pow_le_pow_right (by omega) h2
  omega
set_option maxRecDepth 100000 in
set_option maxHeartbeats 2000000 in
theorem hex_any (s : ByteArray) (at_ : Nat) (w : World) (ha : at_ ≤ s.size) (hs : s.size ≤ 1073741824) : Calls Tryd.prog 25 #[.string s, .int .i64 (at_ : Int)] w fun e w' => Hex (s.data.toList.drop at_) e ∧ w = w' := by
  have hl : s.data.toList.length = s.size := Array.length_toList
  have HL := hid hl
  clear hl
  go_enter Tryd.func25, Tryd.ntmps25
  go_wp2
  go_loopw [6, 7] (fun vn vk wr => ∃ (k n : Nat), k ≤ 4 ∧ at_ + k ≤ s.size ∧ vk = .int .i64 (k : Int) ∧ vn = .int .i64 (n : Int) ∧ n < 65536 ∧ wr = w ∧ Hid (n = val 16 ((s.data.toList.drop at_).take k)) ∧ Hid (digs 16 ((s.data.toList.drop at_).take k) = true)) (fun _ vk _ => 4 - (intOf vk).toNat)
  case atStart => exact ⟨0, 0, by omega, ha, rfl, rfl, by omega, rfl, rfl, rfl⟩
  case round =>
    obtain ⟨k, n, hk, hak, rfl, rfl, hn, rfl, HV, HT⟩ := hrel
    by_cases h4 : k < 4
    · by_cases hlt : at_ + k < s.size
      · obtain ⟨c, hc⟩ : ∃ c, s[at_ + k] = c := ⟨_, rfl⟩
        have hkl : at_ + k < s.data.toList.length := by rw [HL.out]; exact hlt
        have hcl : s.data.toList[at_ + k] = c := hc
        have HS : Hid ((s.data.toList.drop at_).take (k + 1) = (s.data.toList.drop at_).take k ++ [c]) := by rw [← hcl]; exact take_drop_snoc _ _ k hkl
        have HG : Hid ((s.data.toList.drop at_)[k]? = some c) := by show _ = _; rw [drop_get, List.getElem?_eq_getElem hkl, hcl]
        have h0 : 0 ≤ (c.toNat : Int) := by omega
        have h1 : (c.toNat : Int) ≤ 255 := by have := c.toNat_lt; omega
        clear hcl hkl
        by_cases hx : hex c.toNat < 0
        · have HP : Hid (Pre 16 (s.data.toList.drop at_) k) := ⟨hk, by rw [List.length_drop, HL.out]; omega, HT.out, .inr (fun d hd => by rw [HG.out] at hd; injection hd with hd; subst hd; exact hex_neg c hx)⟩
          have hx2 : ¬ 0 ≤ hex c.toNat := by omega
          obtain ⟨x, hxx⟩ : ∃ x, x = hex c.toNat := ⟨_, rfl⟩
          rw [← hxx] at hx hx2
          have HX := hid hxx
          clear hxx
          go_wp2_with fail
          refine (RefA.hex_any _ _).mono ?_
          rintro e w2 ⟨rfl, hw2⟩
          subst hw2
          rw [← HX.out]
          go_wp2
          go_ret2
          exact ⟨⟨k, HP.out, by rw [← HV.out]; rfl⟩, rfl⟩
        · have hD : isD 16 c = true := hex_pos c (by omega)
          obtain ⟨d, hd⟩ : ∃ d, d = dv c := ⟨_, rfl⟩
          have hd16 : d < 16 := by rw [hd]; exact dv_lt 16 c hD
          have HX : Hid (hex c.toNat = (d : Int)) := by show _ = _; rw [hd]; exact hex_dv 16 c hD
          have HV2 : Hid (n * 16 + d = val 16 ((s.data.toList.drop at_).take (k + 1))) := by show _ = _; rw [HS.out, val_snoc, ← HV.out, hd]
          have HT2 : Hid (digs 16 ((s.data.toList.drop at_).take (k + 1)) = true) := by show _ = _; rw [HS.out, digs_snoc, HT.out, hD]; rfl
          have HN2 : Hid (n * 16 + d < 65536) := by
            have h5 := val_lt 16 (by omega) _ HT2.out
            have h6 : ((s.data.toList.drop at_).take (k + 1)).length ≤ 4 := by rw [List.length_take]; omega
            have h7 : 16 ^ ((s.data.toList.drop at_).take (k + 1)).length ≤ 16 ^ 4 := Nat.pow_le_pow_right (by omega) h6
            show _ < _
            rw [HV2.out]
            omega
          have hd15 : (d : Int) < 16 := by omega
          have hni : n < 65536 := by omega
          clear hx hD hd
          go_wp2_with fail
          refine (RefA.hex_any _ _).mono ?_
          rintro e w2 ⟨rfl, hw2⟩
          subst hw2
          rw [HX.out]
          go_wp2_with fail
          refine (RefA.hex_any _ _).mono ?_
          rintro e w2 ⟨rfl, hw2⟩
          subst hw2
          rw [HX.out]
          go_wp2
          go_roundw
          case rel => exact ⟨k + 1, n * 16 + d, by omega, by omega, by go_num, by first | rfl | go_num, HN2.out, by first | rfl | trivial, HV2.out, HT2.out⟩
          case measure => simp [intOf]; omega
      · have HP : Hid (Pre 16 (s.data.toList.drop at_) k) := ⟨hk, by rw [List.length_drop, HL.out]; omega, HT.out, .inr (fun d hd => by
          rw [drop_get, List.getElem?_eq_none (by rw [HL.out]; omega)] at hd
          cases hd)⟩
        have hni : ¬ (at_ : Int) + (k : Int) < (s.size : Int) := by omega
        go_wp2
        go_ret2
        exact ⟨⟨k, HP.out, by rw [← HV.out]; rfl⟩, rfl⟩
    · obtain rfl : k = 4 := by omega
      have HP : Hid (Pre 16 (s.data.toList.drop at_) 4) := ⟨hk, by rw [List.length_drop, HL.out]; omega, HT.out, .inl rfl⟩
      go_wp2
      go_ret2
      exact ⟨⟨4, HP.out, by rw [← HV.out]; rfl⟩, rfl⟩
end Go.Proofs.YtnmkkejodkjjiaaDoor.SixD
