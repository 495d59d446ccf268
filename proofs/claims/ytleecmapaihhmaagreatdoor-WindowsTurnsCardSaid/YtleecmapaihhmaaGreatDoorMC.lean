/- Texts that belong together: SixD, SixE, SixF, SixL, SixM, SixJ, SixK. -/
import Derived.Test.YtleecmapaihhmaaGreatDoorMB
import Derived.Test.YtleecmapaihhmaaGreatDoorMA
import Derived.Deep.DeepCutAuto
import Derived.Deep.CutBlock
import Derived.Laws.StructEq
set_option linter.unusedSimpArgs false
set_option linter.unusedVariables false
namespace Go.Proofs.YtleecmapaihhmaaGreatDoor.SixD
open Go.RowKit Go.Proofs.YtleecmapaihhmaaGreatDoor.Base Go.Proofs.YtleecmapaihhmaaGreatDoor.Base2 Go.Proofs.YtleecmapaihhmaaGreatDoor.Base3 Go.Proofs.YtleecmapaihhmaaGreatDoor.UtfA Go.Proofs.YtleecmapaihhmaaGreatDoor.QudP Go.Proofs.YtleecmapaihhmaaGreatDoor.SixP Go.Proofs.YtleecmapaihhmaaGreatDoor.SixQ Go.Proofs.YtleecmapaihhmaaGreatDoor.SixA Go.Proofs.YtleecmapaihhmaaGreatDoor.SixB

theorem take_drop_snoc (l : List UInt8) (a k : Nat) (h : a + k < l.length) : (l.drop a).take (k + 1) = (l.drop a).take k ++ [l[a + k]] := by
  rw [take_snoc (l.drop a) k (by rw [List.length_drop]; omega), List.getElem_drop]
theorem drop_get (l : List UInt8) (a k : Nat) : (l.drop a)[k]? = l[a + k]? := by rw [List.getElem?_drop]
/-- What the document's hex answers. -/
def Hex (t : List UInt8) (e : Ending) : Prop := ∃ m, Pre 16 t m ∧ e = .returned (.tuple #[.int .i64 ((val 16 (t.take m) : Nat) : Int), .int .i64 (m : Int)])
theorem val_lt4 {t : List UInt8} {m : Nat} (h : Pre 16 t m) : val 16 (t.take m) < 65536 := by
  have h1 := val_lt 16 (by omega) _ h.all
  have h2 : (t.take m).length ≤ 4 := by rw [List.length_take]; have := h.four; omega
  have h3 : 16 ^ (t.take m).length ≤ 16 ^ 4 := Nat.pow_le_pow_right (by omega) h2
  omega
set_option maxRecDepth 100000 in
set_option maxHeartbeats 2000000 in
theorem hex_any (s : ByteArray) (at_ : Nat) (w : World) (ha : at_ ≤ s.size) (hs : s.size ≤ 1073741824) : Calls Tryz.prog 98 #[.string s, .int .i64 (at_ : Int)] w fun e w' => Hex (s.data.toList.drop at_) e ∧ w = w' := by
  have hl : s.data.toList.length = s.size := Array.length_toList
  have HL := hid hl
  clear hl
  go_enter Tryz.func98, Tryz.ntmps98
  go_wp2
  go_loopw [6, 7] (fun vn vk wr => ∃ (k n : Nat), k ≤ 4 ∧ at_ + k ≤ s.size ∧ vk = .int .i64 (k : Int) ∧ vn = .int .i64 (n : Int) ∧ n < 65536 ∧ wr = w ∧ Hid (n = val 16 ((s.data.toList.drop at_).take k)) ∧ Hid (digs 16 ((s.data.toList.drop at_).take k) = true)) (fun _ vk _ => 4 - (intOf vk).toNat)
  case atStart => exact ⟨0, 0, by omega, ha, rfl, rfl, by omega, rfl, rfl, rfl⟩
  case round =>
    obtain ⟨k, n, hk, hak, rfl, rfl, hn, rfl, HV, HT⟩ := hrel
    by_cases h4 : k < 4
    · by_cases hlt : at_ + k < s.size
      · obtain ⟨c, hc⟩ : ∃ c, s[at_ + k] = c := ⟨_, rfl⟩
        have hkl : at_ + k < s.data.toList.length := by rw [HL.out]; exact hlt
        have hcl : s.data.toList[at_ + k] = c := hc
        have HS : Hid ((s.data.toList.drop at_).take (k + 1) = (s.data.toList.drop at_).take k ++ [c]) := by rw [← hcl]; exact take_drop_snoc _ _ k hkl
        have HG : Hid ((s.data.toList.drop at_)[k]? = some c) := by show _ = _; rw [drop_get, List.getElem?_eq_getElem hkl, hcl]
        have h0 : 0 ≤ (c.toNat : Int) := by omega
        have h1 : (c.toNat : Int) ≤ 255 := by have := c.toNat_lt; omega
        clear hcl hkl
        by_cases hx : hex c.toNat < 0
        · have HP : Hid (Pre 16 (s.data.toList.drop at_) k) := ⟨hk, by rw [List.length_drop, HL.out]; omega, HT.out, .inr (fun d hd => by rw [HG.out] at hd; injection hd with hd; subst hd; exact hex_neg c hx)⟩
          have hx2 : ¬ 0 ≤ hex c.toNat := by omega
          obtain ⟨x, hxx⟩ : ∃ x, x = hex c.toNat := ⟨_, rfl⟩
          rw [← hxx] at hx hx2
          have HX := hid hxx
          clear hxx
          go_wp2_with fail
          refine (RefA.hex_any _ _).mono ?_
          rintro e w2 ⟨rfl, hw2⟩
          subst hw2
          rw [← HX.out]
          go_wp2
          go_ret2
          exact ⟨⟨k, HP.out, by rw [← HV.out]; rfl⟩, rfl⟩
        · have hD : isD 16 c = true := hex_pos c (by omega)
          obtain ⟨d, hd⟩ : ∃ d, d = dv c := ⟨_, rfl⟩
          have hd16 : d < 16 := by rw [hd]; exact dv_lt 16 c hD
          have HX : Hid (hex c.toNat = (d : Int)) := by show _ = _; rw [hd]; exact hex_dv 16 c hD
          have HV2 : Hid (n * 16 + d = val 16 ((s.data.toList.drop at_).take (k + 1))) := by show _ = _; rw [HS.out, val_snoc, ← HV.out, hd]
          have HT2 : Hid (digs 16 ((s.data.toList.drop at_).take (k + 1)) = true) := by show _ = _; rw [HS.out, digs_snoc, HT.out, hD]; rfl
          have HN2 : Hid (n * 16 + d < 65536) := by
            have h5 := val_lt 16 (by omega) _ HT2.out
            have h6 : ((s.data.toList.drop at_).take (k + 1)).length ≤ 4 := by rw [List.length_take]; omega
            have h7 : 16 ^ ((s.data.toList.drop at_).take (k + 1)).length ≤ 16 ^ 4 := Nat.pow_le_pow_right (by omega) h6
            show _ < _
            rw [HV2.out]
            omega
          have hd15 : (d : Int) < 16 := by omega
          have hni : n < 65536 := by omega
          clear hx hD hd
          go_wp2_with fail
          refine (RefA.hex_any _ _).mono ?_
          rintro e w2 ⟨rfl, hw2⟩
          subst hw2
          rw [HX.out]
          go_wp2_with fail
          refine (RefA.hex_any _ _).mono ?_
          rintro e w2 ⟨rfl, hw2⟩
          subst hw2
          rw [HX.out]
          go_wp2
          go_roundw
          case rel => exact ⟨k + 1, n * 16 + d, by omega, by omega, by go_num, by first | rfl | go_num, HN2.out, by first | rfl | trivial, HV2.out, HT2.out⟩
          case measure => simp [intOf]; omega
      · have HP : Hid (Pre 16 (s.data.toList.drop at_) k) := ⟨hk, by rw [List.length_drop, HL.out]; omega, HT.out, .inr (fun d hd => by
          rw [drop_get, List.getElem?_eq_none (by rw [HL.out]; omega)] at hd
          cases hd)⟩
        have hni : ¬ (at_ : Int) + (k : Int) < (s.size : Int) := by omega
        go_wp2
        go_ret2
        exact ⟨⟨k, HP.out, by rw [← HV.out]; rfl⟩, rfl⟩
    · obtain rfl : k = 4 := by omega
      have HP : Hid (Pre 16 (s.data.toList.drop at_) 4) := ⟨hk, by rw [List.length_drop, HL.out]; omega, HT.out, .inl rfl⟩
      go_wp2
      go_ret2
      exact ⟨⟨4, HP.out, by rw [← HV.out]; rfl⟩, rfl⟩
end Go.Proofs.YtleecmapaihhmaaGreatDoor.SixD
namespace Go.Proofs.YtleecmapaihhmaaGreatDoor.SixE
open Go.RowKit Go.Proofs.YtleecmapaihhmaaGreatDoor.Base Go.Proofs.YtleecmapaihhmaaGreatDoor.Base2 Go.Proofs.YtleecmapaihhmaaGreatDoor.Base3 Go.Proofs.YtleecmapaihhmaaGreatDoor.UtfA Go.Proofs.YtleecmapaihhmaaGreatDoor.QudP Go.Proofs.YtleecmapaihhmaaGreatDoor.SixP Go.Proofs.YtleecmapaihhmaaGreatDoor.SixQ Go.Proofs.YtleecmapaihhmaaGreatDoor.SixA Go.Proofs.YtleecmapaihhmaaGreatDoor.SixB Go.Proofs.YtleecmapaihhmaaGreatDoor.SixD

def lcells (L : List Nat) : List Value := L.map fun (n : Nat) => Value.int .i64 (n : Int)
theorem length_lcells (L : List Nat) : (lcells L).length = L.length := by simp [lcells]
theorem lcells_app (a b : List Nat) : lcells (a ++ b) = lcells a ++ lcells b := by simp [lcells]
theorem lcells_get (L : List Nat) (k : Nat) (h : k < L.length) (h2 : k < (lcells L).length) : (lcells L)[k] = .int .i64 (L[k] : Int) := by simp [lcells]
theorem info_int : (Tryz.prog.info? 3).map (fun i => (i.zero, i.size, i.bytes)) = some (some (.int .i64 0), 1, 8) := by kernel_rfl
def ssize : Value → Nat
  | .string s => s.size
  | _ => 0
def FV (o : Option (List Nat)) : Value := match o with
  | some [a, b] => .tuple #[.int .i64 (a : Int), .int .i64 (b : Int), .bool true]
  | _ => .tuple #[.int .i64 0, .int .i64 0, .bool false]
theorem fv_none {o : Option (List Nat)} (h : o = none) : FV o = .tuple #[.int .i64 0, .int .i64 0, .bool false] := by rw [h]; rfl
theorem fv_some {o : Option (List Nat)} {a b : Nat} (h : o = some [a, b]) : FV o = .tuple #[.int .i64 (a : Int), .int .i64 (b : Int), .bool true] := by rw [h]; rfl
theorem val_lt10 {t : List UInt8} {m : Nat} (h : Pre 10 t m) : val 10 (t.take m) < 10000 := by
  have h1 := val_lt 10 (by omega) _ h.all
  have h2 : (t.take m).length ≤ 4 := by rw [List.length_take]; have := h.four; omega
  have h3 : 10 ^ (t.take m).length ≤ 10 ^ 4 := Nat.pow_le_pow_right (by omega) h2
  omega
theorem cut_str (s : ByteArray) (k : Nat) : (s.extract k s.size).data.toList = s.data.toList.drop k := by
  have hl : s.data.toList.length = s.size := Array.length_toList
  rw [ByteArray.data_extract]
  simp only [Array.toList_extract, List.extract_eq_take_drop]
  rw [List.take_of_length_le (by rw [List.length_drop]; omega)]
theorem head_drop (s : ByteArray) (k : Nat) (T1 : ByteArray) (h : T1.data.toList = s.data.toList.drop k) (c : UInt8) (hk : k < s.size) (hc : s[k] = c) (h0 : 0 < T1.size) : T1[0] = c := by
  have e1 : T1.data.toList[0]'(by rw [Array.length_toList]; exact h0) = T1[0] := rfl
  have hl : s.data.toList.length = s.size := Array.length_toList
  have e2 : s.data.toList[k]'(by rw [hl]; exact hk) = s[k] := rfl
  rw [← e1, ← hc, ← e2]
  simp only [h, List.getElem_drop, Nat.add_zero]
theorem size_of {T : ByteArray} {L : List UInt8} (h : T.data.toList = L) : T.size = L.length := by rw [← h]; exact Array.length_toList.symm
theorem bind_two_none {o : Option (List Nat)} (h : o = none) : o.bind two = none := by rw [h]; rfl
set_option linter.unusedSimpArgs false in
set_option maxRecDepth 100000 in
set_option maxHeartbeats 8000000 in
theorem four_any (s : ByteArray) (w : World) (hs : s.size ≤ 1073741824) : Calls Tryz.prog 99 #[.string s] w fun e w' => e = .returned (FV (quad s.data.toList)) ∧ Below w.heap.size w w' := by
  obtain ⟨i0, hi, hz0, hz1, hz2⟩ := info_parts info_int
  obtain ⟨S, hS⟩ : ∃ S, S = quad s.data.toList := ⟨_, rfl⟩
  have HS0 : Hid (S = (cont [] s.data.toList).bind two) := by show _ = _; rw [hS, quad_cont]
  rw [← hS]
  clear hS
  go_enter Tryz.func99, Tryz.ntmps99
  go_wp2
  go_loopw [0, 5, 6, 7] (fun vs vb _ _ wr => ∃ (t : ByteArray) (bs : List Nat), t.size ≤ s.size ∧ vs = .string t ∧ bs.length ≤ 3 ∧ Hid (wr.ownsRow w.heap.size 3 1 vb bs.length (lcells bs)) ∧ Hid (Below w.heap.size w wr) ∧ Hid (S = (cont bs t.data.toList).bind two) ∧ Hid (∀ x ∈ bs, x ≤ 255)) (fun vs _ _ _ _ => ssize vs)
  case atStart => exact ⟨s, [], Nat.le_refl _, rfl, by simp, World.ownsRow_nil _ _ _ _, Below.refl _ _, HS0, by intro x hx; simp at hx⟩
  case round =>
    clear HS0
    obtain ⟨t, bs, hts, rfl, hbl, HO, HBL, HW, HLE⟩ := hrel
    have hl : t.data.toList.length = t.size := Array.length_toList
    have HL := hid hl
    obtain ⟨m, hm⟩ : ∃ m, m = bs.length := ⟨_, rfl⟩
    rw [← hm] at HO hbl
    have HM := hid hm
    clear hl hm
    go_upto_block 2 with (fail)
    go_cut [6, 7] from 8 to 31 (fun vn vk wx => ∃ (k n : Nat), vk = .int .i64 (k : Int) ∧ vn = .int .i64 (n : Int) ∧ wx = wr ∧ k ≤ t.size ∧ k ≤ 4 ∧ Hid (n = val 10 (t.data.toList.take k)) ∧ Hid (Pre 10 t.data.toList k))
    case first =>
      go_wp2
      go_loopw [6, 7] (fun vn vk wx => ∃ (k n : Nat), k ≤ t.size ∧ k ≤ 4 ∧ vk = .int .i64 (k : Int) ∧ vn = .int .i64 (n : Int) ∧ n < 10000 ∧ wx = wr ∧ Hid (n = val 10 (t.data.toList.take k)) ∧ Hid (digs 10 (t.data.toList.take k) = true)) (fun _ vk _ => 4 - (intOf vk).toNat)
      case atStart => exact ⟨0, 0, by omega, by omega, rfl, rfl, by omega, rfl, rfl, rfl⟩
      case round =>
        obtain ⟨k, n, hk, hk4, rfl, rfl, hn, rfl, HV, HT⟩ := hrel
        by_cases hlt : k < t.size
        · by_cases h4 : k < 4
          · obtain ⟨c, hc⟩ : ∃ c, t[k] = c := ⟨_, rfl⟩
            have hkl : k < t.data.toList.length := by rw [HL.out]; exact hlt
            have hcl : t.data.toList[k] = c := hc
            have HS : Hid (t.data.toList.take (k + 1) = t.data.toList.take k ++ [c]) := by rw [← hcl]; exact take_snoc _ k hkl
            have HG : Hid (t.data.toList[k]? = some c) := by show _ = _; rw [List.getElem?_eq_getElem hkl, hcl]
            clear hcl hkl
            cases hD : isD 10 c with
            | false =>
              have HP : Hid (Pre 10 t.data.toList k) := ⟨hk4, by rw [HL.out]; exact hk, HT.out, .inr (fun d hd => by rw [HG.out] at hd; injection hd with hd; subst hd; exact hD)⟩
              have HDG : Hid (UtfA.digit (c.toNat : Int) = false) := by show _ = _; rw [digit_isD, hD]
              clear hD
              go_wp2_with fail
              refine (RefA.digit_any _ _).mono ?_
              rintro e w2 ⟨rfl, hw2⟩
              subst hw2
              rw [HDG.out]
              go_wp2
              go_meet
              exact ⟨k, n, rfl, rfl, rfl, hk, hk4, HV.out, HP.out⟩
            | true =>
              obtain ⟨hc1, hc2, hc3⟩ := digit_val c hD
              have HDG : Hid (UtfA.digit (c.toNat : Int) = true) := by show _ = _; rw [digit_isD, hD]
              have HV2 : Hid (n * 10 + (c.toNat - 48) = val 10 (t.data.toList.take (k + 1))) := by show _ = _; rw [HS.out, val_snoc, ← HV.out, hc3]
              have HT2 : Hid (digs 10 (t.data.toList.take (k + 1)) = true) := by show _ = _; rw [HS.out, digs_snoc, HT.out, hD]; rfl
              have HN2 : Hid (n * 10 + (c.toNat - 48) < 10000) := by
                have h5 := val_lt 10 (by omega) _ HT2.out
                have h6 : (t.data.toList.take (k + 1)).length ≤ 4 := by rw [List.length_take]; omega
                have h7 : 10 ^ (t.data.toList.take (k + 1)).length ≤ 10 ^ 4 := Nat.pow_le_pow_right (by omega) h6
                show _ < _
                rw [HV2.out]
                omega
              have hci : 48 ≤ (c.toNat : Int) := by omega
              have hci2 : (c.toNat : Int) ≤ 57 := by omega
              have HSUM : Hid ((n : Int) * 10 + ((c.toNat : Int) - 48) = ((n * 10 + (c.toNat - 48) : Nat) : Int)) := by show _ = _; omega
              clear hD hc3 hc1 hc2
              go_wp2_with fail
              refine (RefA.digit_any _ _).mono ?_
              rintro e w2 ⟨rfl, hw2⟩
              subst hw2
              rw [HDG.out]
              go_wp2
              go_roundw
              case rel => exact ⟨k + 1, n * 10 + (c.toNat - 48), by omega, by omega, by go_num, by first | exact int_eq HSUM.out | go_num, HN2.out, by first | rfl | trivial, HV2.out, HT2.out⟩
              case measure => simp [intOf]; omega
          · obtain rfl : k = 4 := by omega
            have HP : Hid (Pre 10 t.data.toList 4) := ⟨hk4, by rw [HL.out]; exact hk, HT.out, .inl rfl⟩
            go_wp2
            go_meet
            exact ⟨4, n, rfl, rfl, rfl, hk, hk4, HV.out, HP.out⟩
        · obtain rfl : k = t.size := by omega
          have HP : Hid (Pre 10 t.data.toList t.size) := ⟨hk4, by rw [HL.out]; exact hk, HT.out, .inr (fun d hd => by
            rw [List.getElem?_eq_none (by rw [HL.out]; exact Nat.le_refl _)] at hd
            cases hd)⟩
          go_wp2
          go_meet
          exact ⟨t.size, n, rfl, rfl, rfl, hk, hk4, HV.out, HP.out⟩
    case rest =>
      obtain ⟨k, n, rfl, rfl, rfl, hk, hk4, HV, HP⟩ := hcut
      by_cases hk0 : k = 0
      · subst hk0
        have HE : Hid (S = none) := by show _ = _; rw [HW.out]; exact bind_two_none (cont_bad HP.out (.inl rfl) bs)
        have HE2 := hid (fv_none HE.out)
        go_wp2
        go_ret3
        exact ⟨by rw [HE2.out]; rfl, HBL.out⟩
      · have HKZ : Hid (k ≠ 0) := hk0
        have hkz : ((k : Int) == 0) = false := by simp; omega
        have hkz2 : ¬ (k : Int) = 0 := by omega
        clear hk0
        by_cases h255 : 255 < n
        · have h255i : (255 : Int) < (n : Int) := by omega
          have HE : Hid (S = none) := by show _ = _; rw [HW.out]; exact bind_two_none (cont_bad HP.out (.inr (.inl (by rw [← HV.out]; exact h255))) bs)
          have HE2 := hid (fv_none HE.out)
          go_wp2
          go_ret3
          exact ⟨by rw [HE2.out]; rfl, HBL.out⟩
        · have h255i : ¬ (255 : Int) < (n : Int) := by omega
          by_cases h1 : 1 < k
          · have h1i : (1 : Int) < (k : Int) := by omega
            have h0t : 0 < t.size := by omega
            obtain ⟨a, ha⟩ : ∃ a, t[0] = a := ⟨_, rfl⟩
            have HA : Hid (t.data.toList[0]? = some a) := by
              have hcl : t.data.toList[0]'(by rw [HL.out]; exact h0t) = a := ha
              show _ = _
              rw [List.getElem?_eq_getElem (by rw [HL.out]; exact h0t), hcl]
            by_cases h48 : a = 48
            · have h48b : ((a.toNat : Int) == 48) = true := by rw [h48]; rfl
              have h48c : (a.toNat : Int) = 48 := by rw [h48]; rfl
              have HB0 : Hid (1 < k ∧ t.data.toList[0]? = some 48) := ⟨h1, by rw [HA.out, h48]⟩
              clear h48
              have HE : Hid (S = none) := by show _ = _; rw [HW.out]; exact bind_two_none (cont_bad HP.out (.inr (.inr HB0.out)) bs)
              have HE2 := hid (fv_none HE.out)
              go_wp2
              go_ret3
              exact ⟨by rw [HE2.out]; rfl, HBL.out⟩
            · have h48b : ((a.toNat : Int) == 48) = false := by
                rw [beq_eq_false_iff_ne]
                intro e
                exact h48 (UInt8.toNat_inj.1 (by show _ = 48; omega))
              have h48c : ¬ (a.toNat : Int) = 48 := by simpa using h48b
              have HN48 := hid h48
              clear h48
              have HZ : Hid (¬ (1 < k ∧ t.data.toList[0]? = some 48)) := fun h => by rw [HA.out] at h; injection h.2 with h2; exact HN48.out h2
              have HVL : Hid (val 10 (t.data.toList.take k) ≤ 255) := by show _ ≤ _; rw [← HV.out]; omega
              obtain ⟨T1, hT1⟩ : ∃ T1, t.extract k t.size = T1 := ⟨_, rfl⟩
              have HT1 : Hid (T1.data.toList = t.data.toList.drop k) := by show _ = _; rw [← hT1, cut_str]
              have hsz1 : T1.size = t.size - k := by rw [size_of HT1.out, List.length_drop, HL.out]
              have hown := HO.out
              have hbel := HBL.out
              have hn255 : n ≤ 255 := by omega
              have HLE2 : Hid (∀ x ∈ bs ++ [n], x ≤ 255) := by
                intro x hx
                rcases List.mem_append.1 hx with h | h
                · exact HLE.out x h
                · simp at h; omega
              clear HO HBL
              go_wp2_with (at_builtin; refine wpList_app rfl _ _ 102 rfl w.heap.size 3 i0 (.int .i64 0) 8 Tryz.underlying102 hi hz0 hz1 hz2 rfl _ m _ rfl hown hbel hbel.size [.int .i64 (n : Int)] 1 rfl rfl (by intro u hu; simp at hu; subst hu; rfl) (by unfold maxLen; omega) (by omega) ?_)
              intro v7 w7 hown7 hbel7
              have HO7 : Hid (w7.ownsRow w.heap.size 3 1 v7 (bs ++ [n]).length (lcells (bs ++ [n]))) := by
                show World.ownsRow _ _ _ _ _ _ _
                rw [List.length_append, ← HM.out, lcells_app]
                exact hown7
              have HB7 := hid hbel7
              obtain ⟨A7, c7, rfl, hlc7, hcm7, hr7⟩ := owns_form hown7
              have HR7 : Hid (Rds w7 A7 (m + 1) (lcells (bs ++ [n]))) := by show Rds _ _ _ _; rw [lcells_app]; exact hr7
              clear hown hbel hown7 hbel7 hr7
              by_cases hend : k = t.size
              · have he1 : T1.toList = [] := by
                  rw [Lib.toList_data]
                  exact List.eq_nil_of_length_eq_zero (by rw [Array.length_toList]; show T1.size = 0; omega)
                have HCL : Hid (cont bs t.data.toList = if bs.length + 1 = 4 then some (bs ++ [val 10 (t.data.toList.take k)]) else none) := cont_last HP.out HKZ.out HVL.out HZ.out (List.drop_eq_nil_of_le (by rw [HL.out]; omega)) bs
                have HEND := hid hend
                clear hend hsz1
                by_cases h4 : m = 3
                · subst h4
                  match bs, HM, HW, HLE2, HR7, HO7, HCL with
                  | [b0, b1, b2], HM, HW, HLE2, HR7, HO7, HCL =>
                    have HE : Hid (S = some [b0 * 256 + b1, b2 * 256 + n]) := by show _ = _; rw [HW.out, HCL.out, ← HV.out]; rfl
                    have HE2 := hid (fv_some HE.out)
                    obtain ⟨g, off, rfl, _, hcell⟩ := HR7.out.spot (by omega)
                    have c0 := hcell 0 (by simp [lcells])
                    have c1 := hcell 1 (by simp [lcells])
                    have c2 := hcell 2 (by simp [lcells])
                    have c3 := hcell 3 (by simp [lcells])
                    simp only [lcells, List.map_append, List.map_cons, List.map_nil, List.cons_append, List.nil_append, List.getElem_cons_zero, List.getElem_cons_succ, Nat.add_zero] at c0 c1 c2 c3
                    have x0 : (b0 : Int) ≤ 255 := by have := HLE2.out b0 (by simp); omega
                    have x1 : (b1 : Int) ≤ 255 := by have := HLE2.out b1 (by simp); omega
                    have x2 : (b2 : Int) ≤ 255 := by have := HLE2.out b2 (by simp); omega
                    have x3 : (n : Int) ≤ 255 := by have := HLE2.out n (by simp); omega
                    clear hcell HR7 HO7
                    go_wp2_with fail
                    go_quiet (fail)
                    go_wp2
                    go_ret3
                    exact ⟨by rw [HE2.out]; rfl, Base.below_drewN HB7.out _⟩
                · have HE : Hid (S = none) := by show _ = _; rw [HW.out, HCL.out, if_neg (by rw [← HM.out]; omega)]; rfl
                  have h4i : ((m : Int) + 1 == 4) = false := by simp; omega
                  have h4j : ¬ (m : Int) + 1 = 4 := by omega
                  have HE2 := hid (fv_none HE.out)
                  go_wp2
                  go_ret3
                  exact ⟨by rw [HE2.out]; rfl, HB7.out⟩
              · have hklt : k < t.size := by omega
                have h0 : 0 < T1.size := by omega
                obtain ⟨c, hc⟩ : ∃ c, t[k] = c := ⟨_, rfl⟩
                have HG : Hid (t.data.toList[k]? = some c) := by
                  have hcl : t.data.toList[k]'(by rw [HL.out]; exact hklt) = c := hc
                  show _ = _
                  rw [List.getElem?_eq_getElem (by rw [HL.out]; exact hklt), hcl]
                have hc0 : T1[0] = c := head_drop t k T1 HT1.out c hklt hc h0
                have hne : T1.data.toList ≠ [] := by
                  intro h
                  have h2 : T1.size = 0 := size_of h
                  omega
                have he1 : (T1.toList == []) = false := by rw [Lib.toList_data]; simpa using hne
                have he2 : T1.toList.isEmpty = false := by rw [Lib.toList_data]; simpa using hne
                have HSZ1 := hid hsz1
                clear hc hne hend
                by_cases h46 : c = 46
                · have h46b : ((c.toNat : Int) == 46) = true := by rw [h46]; rfl
                  have h46c : (c.toNat : Int) = 46 := by rw [h46]; rfl
                  have HCN : Hid (cont bs t.data.toList = if bs.length + 1 = 4 then none else cont (bs ++ [val 10 (t.data.toList.take k)]) (t.data.toList.drop (k + 1))) := cont_next HP.out HKZ.out HVL.out HZ.out (by rw [HG.out, h46]) bs
                  clear h46
                  by_cases h4 : m = 3
                  · have HE : Hid (S = none) := by show _ = _; rw [HW.out, HCN.out, if_pos (by rw [← HM.out, h4])]; rfl
                    subst h4
                    have HE2 := hid (fv_none HE.out)
                    go_wp2
                    go_ret3
                    exact ⟨by rw [HE2.out]; rfl, HB7.out⟩
                  · have h4i : ((m : Int) + 1 == 4) = false := by simp; omega
                    have h4j : ¬ (m : Int) + 1 = 4 := by omega
                    have HW2 : Hid (S = (cont (bs ++ [n]) (t.data.toList.drop (k + 1))).bind two) := by show _ = _; rw [HW.out, HCN.out, if_neg (by rw [← HM.out]; omega), ← HV.out]
                    obtain ⟨T2, hT2⟩ : ∃ T2, T1.extract 1 T1.size = T2 := ⟨_, rfl⟩
                    have HT2 : Hid (T2.data.toList = t.data.toList.drop (k + 1)) := by show _ = _; rw [← hT2, cut_str, HT1.out, List.drop_drop]
                    have HSZ2 : Hid (T2.size < t.size) := by
                      show _ < _
                      have h5 : T2.size = t.size - (k + 1) := by rw [size_of HT2.out, List.length_drop, HL.out]
                      omega
                    have h1i : (1 : Int) ≤ (T1.size : Int) := by omega
                    clear hsz1 h4
                    go_wp2
                    go_roundw
                    case rel => exact ⟨T2, bs ++ [n], by have := HSZ2.out; omega, rfl, by rw [List.length_append, ← HM.out]; show m + 1 ≤ 3; omega, HO7.out, HB7.out, by show _ = _; rw [HW2.out, HT2.out], HLE2.out⟩
                    case measure => exact HSZ2.out
                · have h46b : ((c.toNat : Int) == 46) = false := by
                    rw [beq_eq_false_iff_ne]
                    intro e
                    exact h46 (UInt8.toNat_inj.1 (by show _ = 46; omega))
                  have h46c : ¬ (c.toNat : Int) = 46 := by simpa using h46b
                  have HE : Hid (S = none) := by show _ = _; rw [HW.out]; exact bind_two_none (cont_odd HP.out HG.out h46 bs)
                  clear h46
                  have HE2 := hid (fv_none HE.out)
                  go_wp2
                  go_ret3
                  exact ⟨by rw [HE2.out]; rfl, HB7.out⟩
          · have h1i : ¬ (1 : Int) < (k : Int) := by omega
            have HN1 := hid h1
            have HZ : Hid (¬ (1 < k ∧ t.data.toList[0]? = some 48)) := fun h => HN1.out h.1
            have HVL : Hid (val 10 (t.data.toList.take k) ≤ 255) := by show _ ≤ _; rw [← HV.out]; omega
            obtain ⟨T1, hT1⟩ : ∃ T1, t.extract k t.size = T1 := ⟨_, rfl⟩
            have HT1 : Hid (T1.data.toList = t.data.toList.drop k) := by show _ = _; rw [← hT1, cut_str]
            have hsz1 : T1.size = t.size - k := by rw [size_of HT1.out, List.length_drop, HL.out]
            have hown := HO.out
            have hbel := HBL.out
            have hn255 : n ≤ 255 := by omega
            have HLE2 : Hid (∀ x ∈ bs ++ [n], x ≤ 255) := by
              intro x hx
              rcases List.mem_append.1 hx with h | h
              · exact HLE.out x h
              · simp at h; omega
            clear HO HBL
            go_wp2_with (at_builtin; refine wpList_app rfl _ _ 102 rfl w.heap.size 3 i0 (.int .i64 0) 8 Tryz.underlying102 hi hz0 hz1 hz2 rfl _ m _ rfl hown hbel hbel.size [.int .i64 (n : Int)] 1 rfl rfl (by intro u hu; simp at hu; subst hu; rfl) (by unfold maxLen; omega) (by omega) ?_)
            intro v7 w7 hown7 hbel7
            have HO7 : Hid (w7.ownsRow w.heap.size 3 1 v7 (bs ++ [n]).length (lcells (bs ++ [n]))) := by
              show World.ownsRow _ _ _ _ _ _ _
              rw [List.length_append, ← HM.out, lcells_app]
              exact hown7
            have HB7 := hid hbel7
            obtain ⟨A7, c7, rfl, hlc7, hcm7, hr7⟩ := owns_form hown7
            have HR7 : Hid (Rds w7 A7 (m + 1) (lcells (bs ++ [n]))) := by show Rds _ _ _ _; rw [lcells_app]; exact hr7
            clear hown hbel hown7 hbel7 hr7
            by_cases hend : k = t.size
            · have he1 : T1.toList = [] := by
                rw [Lib.toList_data]
                exact List.eq_nil_of_length_eq_zero (by rw [Array.length_toList]; show T1.size = 0; omega)
              have HCL : Hid (cont bs t.data.toList = if bs.length + 1 = 4 then some (bs ++ [val 10 (t.data.toList.take k)]) else none) := cont_last HP.out HKZ.out HVL.out HZ.out (List.drop_eq_nil_of_le (by rw [HL.out]; omega)) bs
              have HEND := hid hend
              clear hend hsz1
              by_cases h4 : m = 3
              · subst h4
                match bs, HM, HW, HLE2, HR7, HO7, HCL with
                | [b0, b1, b2], HM, HW, HLE2, HR7, HO7, HCL =>
                  have HE : Hid (S = some [b0 * 256 + b1, b2 * 256 + n]) := by show _ = _; rw [HW.out, HCL.out, ← HV.out]; rfl
                  have HE2 := hid (fv_some HE.out)
                  obtain ⟨g, off, rfl, _, hcell⟩ := HR7.out.spot (by omega)
                  have c0 := hcell 0 (by simp [lcells])
                  have c1 := hcell 1 (by simp [lcells])
                  have c2 := hcell 2 (by simp [lcells])
                  have c3 := hcell 3 (by simp [lcells])
                  simp only [lcells, List.map_append, List.map_cons, List.map_nil, List.cons_append, List.nil_append, List.getElem_cons_zero, List.getElem_cons_succ, Nat.add_zero] at c0 c1 c2 c3
                  have x0 : (b0 : Int) ≤ 255 := by have := HLE2.out b0 (by simp); omega
                  have x1 : (b1 : Int) ≤ 255 := by have := HLE2.out b1 (by simp); omega
                  have x2 : (b2 : Int) ≤ 255 := by have := HLE2.out b2 (by simp); omega
                  have x3 : (n : Int) ≤ 255 := by have := HLE2.out n (by simp); omega
                  clear hcell HR7 HO7
                  go_wp2_with fail
                  go_quiet (fail)
                  go_wp2
                  go_ret3
                  exact ⟨by rw [HE2.out]; rfl, Base.below_drewN HB7.out _⟩
              · have HE : Hid (S = none) := by show _ = _; rw [HW.out, HCL.out, if_neg (by rw [← HM.out]; omega)]; rfl
                have h4i : ((m : Int) + 1 == 4) = false := by simp; omega
                have h4j : ¬ (m : Int) + 1 = 4 := by omega
                have HE2 := hid (fv_none HE.out)
                go_wp2
                go_ret3
                exact ⟨by rw [HE2.out]; rfl, HB7.out⟩
            · have hklt : k < t.size := by omega
              have h0 : 0 < T1.size := by omega
              obtain ⟨c, hc⟩ : ∃ c, t[k] = c := ⟨_, rfl⟩
              have HG : Hid (t.data.toList[k]? = some c) := by
                have hcl : t.data.toList[k]'(by rw [HL.out]; exact hklt) = c := hc
                show _ = _
                rw [List.getElem?_eq_getElem (by rw [HL.out]; exact hklt), hcl]
              have hc0 : T1[0] = c := head_drop t k T1 HT1.out c hklt hc h0
              have hne : T1.data.toList ≠ [] := by
                intro h
                have h2 : T1.size = 0 := size_of h
                omega
              have he1 : (T1.toList == []) = false := by rw [Lib.toList_data]; simpa using hne
              have he2 : T1.toList.isEmpty = false := by rw [Lib.toList_data]; simpa using hne
              have HSZ1 := hid hsz1
              clear hc hne hend
              by_cases h46 : c = 46
              · have h46b : ((c.toNat : Int) == 46) = true := by rw [h46]; rfl
                have h46c : (c.toNat : Int) = 46 := by rw [h46]; rfl
                have HCN : Hid (cont bs t.data.toList = if bs.length + 1 = 4 then none else cont (bs ++ [val 10 (t.data.toList.take k)]) (t.data.toList.drop (k + 1))) := cont_next HP.out HKZ.out HVL.out HZ.out (by rw [HG.out, h46]) bs
                clear h46
                by_cases h4 : m = 3
                · have HE : Hid (S = none) := by show _ = _; rw [HW.out, HCN.out, if_pos (by rw [← HM.out, h4])]; rfl
                  subst h4
                  have HE2 := hid (fv_none HE.out)
                  go_wp2
                  go_ret3
                  exact ⟨by rw [HE2.out]; rfl, HB7.out⟩
                · have h4i : ((m : Int) + 1 == 4) = false := by simp; omega
                  have h4j : ¬ (m : Int) + 1 = 4 := by omega
                  have HW2 : Hid (S = (cont (bs ++ [n]) (t.data.toList.drop (k + 1))).bind two) := by show _ = _; rw [HW.out, HCN.out, if_neg (by rw [← HM.out]; omega), ← HV.out]
                  obtain ⟨T2, hT2⟩ : ∃ T2, T1.extract 1 T1.size = T2 := ⟨_, rfl⟩
                  have HT2 : Hid (T2.data.toList = t.data.toList.drop (k + 1)) := by show _ = _; rw [← hT2, cut_str, HT1.out, List.drop_drop]
                  have HSZ2 : Hid (T2.size < t.size) := by
                    show _ < _
                    have h5 : T2.size = t.size - (k + 1) := by rw [size_of HT2.out, List.length_drop, HL.out]
                    omega
                  have h1i : (1 : Int) ≤ (T1.size : Int) := by omega
                  clear hsz1 h4
                  go_wp2
                  go_roundw
                  case rel => exact ⟨T2, bs ++ [n], by have := HSZ2.out; omega, rfl, by rw [List.length_append, ← HM.out]; show m + 1 ≤ 3; omega, HO7.out, HB7.out, by show _ = _; rw [HW2.out, HT2.out], HLE2.out⟩
                  case measure => exact HSZ2.out
              · have h46b : ((c.toNat : Int) == 46) = false := by
                  rw [beq_eq_false_iff_ne]
                  intro e
                  exact h46 (UInt8.toNat_inj.1 (by show _ = 46; omega))
                have h46c : ¬ (c.toNat : Int) = 46 := by simpa using h46b
                have HE : Hid (S = none) := by show _ = _; rw [HW.out]; exact bind_two_none (cont_odd HP.out HG.out h46 bs)
                clear h46
                have HE2 := hid (fv_none HE.out)
                go_wp2
                go_ret3
                exact ⟨by rw [HE2.out]; rfl, HB7.out⟩
end Go.Proofs.YtleecmapaihhmaaGreatDoor.SixE
namespace Go.Proofs.YtleecmapaihhmaaGreatDoor.SixF
open Go.RowKit Go.Proofs.YtleecmapaihhmaaGreatDoor.Base Go.Proofs.YtleecmapaihhmaaGreatDoor.Base2 Go.Proofs.YtleecmapaihhmaaGreatDoor.Base3 Go.Proofs.YtleecmapaihhmaaGreatDoor.UtfA Go.Proofs.YtleecmapaihhmaaGreatDoor.QudP Go.Proofs.YtleecmapaihhmaaGreatDoor.SixP Go.Proofs.YtleecmapaihhmaaGreatDoor.SixQ Go.Proofs.YtleecmapaihhmaaGreatDoor.SixA Go.Proofs.YtleecmapaihhmaaGreatDoor.SixB Go.Proofs.YtleecmapaihhmaaGreatDoor.SixC Go.Proofs.YtleecmapaihhmaaGreatDoor.SixD Go.Proofs.YtleecmapaihhmaaGreatDoor.SixE

theorem res_endR {w : World} {g : Nat} {L : List Nat} (h : Box w g 83 L) (hl : L.length = 8) (ok : Bool) (tmps : Array Value) (h2 : tmps.getD 2 undef = .pointer (some ⟨g, 0, none⟩)) (h3 : tmps.getD 3 undef = .bool ok) :
    (results Tryz.f71 tmps).run Tryz.prog w = .ok (.tuple #[.agg (ncells L).toArray, .bool ok]) w := by
  have hp' : tmps[2]?.getD undef = .pointer (some ⟨g, 0, none⟩) := by simpa using h2
  have hq' : tmps[3]?.getD undef = .bool ok := by simpa using h3
  simp [results, Tryz.results71, hp', hq', asAddr, load8 h hl]
/-- The gap's place, -1 where there is none. -/
def gapV : Option Nat → Int
  | none => -1
  | some g => (g : Int)
/-- Where the k-th piece goes. -/
def place (g : Option Nat) (n k : Nat) : Nat := match g with
  | none => k
  | some x => if x ≤ k then 8 - n + k else k
def outK (L : List Nat) (g : Option Nat) : Nat → List Nat
  | 0 => zer
  | k + 1 => (outK L g k).set (place g L.length k) (L.getD k 0)
theorem length_outK (L : List Nat) (g : Option Nat) (k : Nat) : (outK L g k).length = 8 := by
  induction k with
  | zero => rfl
  | succ k ih => rw [outK, List.length_set, ih]
theorem out_none {L : List Nat} (h : L.length = 8) : outK L none L.length = L := by
  match L, h with
  | [a, b, c, d, e, f, g, i], _ => rfl
theorem out_some {L : List Nat} {g : Nat} (hg : g ≤ L.length) (h7 : L.length ≤ 7) : outK L (some g) L.length = fill (L.take g) (L.drop g) := by
  match L, h7, hg with
  | [], _, hg => obtain rfl : g = 0 := by simpa using hg
                 rfl
  | [a], _, hg => rcases (show g = 0 ∨ g = 1 by simp at hg; omega) with rfl | rfl <;> rfl
  | [a, b], _, hg => rcases (show g = 0 ∨ g = 1 ∨ g = 2 by simp at hg; omega) with rfl | rfl | rfl <;> rfl
  | [a, b, c], _, hg => rcases (show g = 0 ∨ g = 1 ∨ g = 2 ∨ g = 3 by simp at hg; omega) with rfl | rfl | rfl | rfl <;> rfl
  | [a, b, c, d], _, hg => rcases (show g = 0 ∨ g = 1 ∨ g = 2 ∨ g = 3 ∨ g = 4 by simp at hg; omega) with rfl | rfl | rfl | rfl | rfl <;> rfl
  | [a, b, c, d, e], _, hg => rcases (show g = 0 ∨ g = 1 ∨ g = 2 ∨ g = 3 ∨ g = 4 ∨ g = 5 by simp at hg; omega) with rfl | rfl | rfl | rfl | rfl | rfl <;> rfl
  | [a, b, c, d, e, f], _, hg => rcases (show g = 0 ∨ g = 1 ∨ g = 2 ∨ g = 3 ∨ g = 4 ∨ g = 5 ∨ g = 6 by simp at hg; omega) with rfl | rfl | rfl | rfl | rfl | rfl | rfl <;> rfl
  | [a, b, c, d, e, f, i], _, hg => rcases (show g = 0 ∨ g = 1 ∨ g = 2 ∨ g = 3 ∨ g = 4 ∨ g = 5 ∨ g = 6 ∨ g = 7 by simp at hg; omega) with rfl | rfl | rfl | rfl | rfl | rfl | rfl | rfl <;> rfl
theorem quad_small {t : List UInt8} {a b : Nat} (h : quad t = some [a, b]) : a < 65536 ∧ b < 65536 := by
  have hall : ∀ (ps : List (List UInt8)) (l : List Nat), smalls ps = some l → ∀ x ∈ l, x ≤ 255 := by
    intro ps
    induction ps with
    | nil => intro l h; injection h with h; subst h; intro x hx; simp at hx
    | cons p r ih =>
      intro l h
      rw [smalls] at h
      split at h
      · rename_i n y h1 h2
        injection h with h
        subst h
        intro x hx
        rcases List.mem_cons.1 hx with rfl | hx
        · exact small_le h1
        · exact ih y h2 x hx
      · cases h
  unfold quad at h
  cases e : smalls (splt t) with
  | none => rw [e] at h; cases h
  | some l =>
    rw [e] at h
    replace h : two l = some [a, b] := h
    unfold two at h
    split at h
    · rename_i x1 x2 x3 x4
      injection h with h
      injection h with h1 h
      injection h with h2 _
      have y1 := hall _ _ e x1 (by simp)
      have y2 := hall _ _ e x2 (by simp)
      have y3 := hall _ _ e x3 (by simp)
      have y4 := hall _ _ e x4 (by simp)
      omega
    · cases h
theorem drop_cons_at (l : List UInt8) (a : Nat) (c : UInt8) (h : l[a]? = some c) : l.drop a = c :: l.drop (a + 1) := by
  obtain ⟨h1, h2⟩ := List.getElem?_eq_some_iff.1 h
  rw [← h2]
  exact List.drop_eq_getElem_cons h1
set_option linter.unusedSimpArgs false in
set_option maxRecDepth 100000 in
set_option maxHeartbeats 16000000 in
theorem parse_any (s : ByteArray) (w : World) (hs : s.size ≤ 1048576) : Calls Tryz.prog 71 #[.string s] w fun e w' => e = .returned (SixV (six s.data.toList)) ∧ Below w.heap.size w w' := by
  rw [← doc_six]
  obtain ⟨i0, hi, hz0, hz1, hz2⟩ := info_parts info_int
  have hl : s.data.toList.length = s.size := Array.length_toList
  have HL := hid hl
  obtain ⟨D, hD⟩ : ∃ D, D = doc s.data.toList := ⟨_, rfl⟩
  rw [← hD]
  have HD := hid hD
  clear hD hl
  go_enter Tryz.func71, Tryz.ntmps71
  go_upto_region 3 with (fail)
  generalize hw1 : (w.alloc _).alloc _ = w1
  have HB1 : Hid (Below w.heap.size w w1) := by
    show Below _ _ _
    rw [← hw1]
    exact ((Below.refl _ _).alloc (Nat.le_refl _) _).alloc (by simp) _
  have HA : Hid (Box w1 w.heap.size 83 zer) := by
    show Box _ _ _ _
    rw [← hw1]
    unfold Box
    rw [heap_alloc_old _ _ (by simp)]
    exact heap_alloc_new _ _
  have HN : Hid (Box w1 (w.heap.size + 1) 83 zer) := by
    show Box _ _ _ _
    rw [← hw1]
    unfold Box
    have := heap_alloc_new (w.alloc (.cells (ncells zer).toArray 83)) (.cells (ncells zer).toArray 83)
    rw [show (w.alloc (.cells (ncells zer).toArray 83)).heap.size = w.heap.size + 1 by simp] at this
    exact this
  have HSZ : Hid (w1.heap.size = w.heap.size + 1 + 1) := by show _ = _; rw [← hw1]; simp
  clear hw1
  go_cut [6, 7] (fun va vg wx => va = .int .i64 0 ∧ vg = .int .i64 (-1) ∧ wx = w1)
  case first =>
    go_wp2
    go_meet
    exact ⟨rfl, rfl, rfl⟩
  case rest =>
    obtain ⟨rfl, rfl, rfl⟩ := hcut
    apply_assumption
    refine wp_seq_k fun K3 hK3 => ?_
    go_cut [6, 7] from 16 to 31 (fun va vg wx => ∃ (a : Nat) (g : Option Nat), va = .int .i64 (a : Int) ∧ vg = .int .i64 (gapV g) ∧ wx = wc ∧ a ≤ s.size ∧ (g = none ∨ g = some 0) ∧ Hid (D = R (splc (s.data.toList.drop a)) [] g))
    case first =>
      by_cases h0 : s.size = 0
      · have HDR : Hid (D = R (splc (s.data.toList.drop 0)) [] none) := by
          show _ = _
          rw [HD.out, List.drop_zero, show s.data.toList = [] from List.eq_nil_of_length_eq_zero (by rw [HL.out, h0])]
          rfl
        have h0i : ¬ (0 : Int) < (s.size : Int) := by omega
        clear h0
        go_wp2
        go_meet
        exact ⟨0, none, rfl, rfl, rfl, by omega, .inl rfl, HDR.out⟩
      have h0i : (0 : Int) < (s.size : Int) := by omega
      have h0n : 0 < s.size := by omega
      obtain ⟨c, hc⟩ : ∃ c, s[0] = c := ⟨_, rfl⟩
      have HG : Hid (s.data.toList[0]? = some c) := by
        have hcl : s.data.toList[0]'(by rw [HL.out]; exact h0n) = c := hc
        show _ = _
        rw [List.getElem?_eq_getElem (by rw [HL.out]; exact h0n), hcl]
      clear h0
      by_cases h58 : c = 58
      · have h58b : ((c.toNat : Int) == 58) = true := by rw [h58]; rfl
        by_cases h2 : s.size < 2
        · have HDN : Hid (D = none) := by
            show _ = _
            rw [HD.out, ← List.drop_zero (l := s.data.toList), drop_cons_at _ 0 c HG.out, h58, List.drop_eq_nil_of_le (by rw [HL.out]; omega)]
            rfl
          have HBLZ : Hid (Below wc.heap.size wc wc) := Below.refl _ _
          have h2i : (s.size : Int) < 2 := by omega
          clear h58
          have HE : Hid (fin D = none) := by
            show _ = _
            rw [HDN.out]
            rfl
          have HE2 := hid (sixv_none HE.out)
          have HA4 := hid (HA.out.below HBLZ.out)
          have HN4 := hid (HN.out.below HBLZ.out)
          obtain ⟨c0, c1, c2, c3, c4, c5, c6, c7⟩ := cells8 HN4.out (fun _ => 0) rfl
          obtain ⟨a0, a1, a2, a3, a4, a5, a6, a7⟩ := cells8 HA4.out (fun _ => 0) rfl
          obtain ⟨f0, f1, f2, f3, f4, f5, f6, f7⟩ := frozen8 HA4.out
          go_wp2
          exact bodyPost_ret (w := put8 _ w.heap.size (fun _ => 0)) (res_endR (L := zer) (box_put HA4.out (fun _ => 0)) rfl false _ rfl rfl) rfl ⟨by rw [HE2.out], below_put8 (HB1.out.trans (HBLZ.out.mono HB1.out.size)) (Nat.le_refl _) _⟩
        · have h2i : ¬ (s.size : Int) < 2 := by omega
          have h1n : 1 < s.size := by omega
          obtain ⟨d, hd⟩ : ∃ d, s[1] = d := ⟨_, rfl⟩
          have HG1 : Hid (s.data.toList[1]? = some d) := by
            have hcl : s.data.toList[1]'(by rw [HL.out]; exact h1n) = d := hd
            show _ = _
            rw [List.getElem?_eq_getElem (by rw [HL.out]; exact h1n), hcl]
          have HDD : Hid (s.data.toList = 58 :: d :: s.data.toList.drop 2) := by
            show _ = _
            conv => lhs; rw [← List.drop_zero (l := s.data.toList), drop_cons_at _ 0 c HG.out, h58, drop_cons_at _ 1 d HG1.out]
          by_cases hd58 : d = 58
          · have hdb : ((d.toNat : Int) == 58) = true := by rw [hd58]; rfl
            have HDR : Hid (D = R (splc (s.data.toList.drop 2)) [] (some 0)) := by
              show _ = _
              rw [HD.out, HDD.out, hd58]
              rfl
            clear h58 hd58
            go_wp2
            go_meet
            exact ⟨2, some 0, rfl, rfl, rfl, by omega, .inr rfl, HDR.out⟩
          · have hdb : ((d.toNat : Int) == 58) = false := by
              rw [beq_eq_false_iff_ne]
              intro e
              exact hd58 (UInt8.toNat_inj.1 (by show _ = 58; omega))
            have HDN : Hid (D = none) := by
              show _ = _
              rw [HD.out, HDD.out]
              unfold doc
              simp only [if_true]
              rw [if_neg hd58]
            have HBLZ : Hid (Below wc.heap.size wc wc) := Below.refl _ _
            clear h58 hd58
            have HE : Hid (fin D = none) := by
              show _ = _
              rw [HDN.out]
              rfl
            have HE2 := hid (sixv_none HE.out)
            have HA4 := hid (HA.out.below HBLZ.out)
            have HN4 := hid (HN.out.below HBLZ.out)
            obtain ⟨c0, c1, c2, c3, c4, c5, c6, c7⟩ := cells8 HN4.out (fun _ => 0) rfl
            obtain ⟨a0, a1, a2, a3, a4, a5, a6, a7⟩ := cells8 HA4.out (fun _ => 0) rfl
            obtain ⟨f0, f1, f2, f3, f4, f5, f6, f7⟩ := frozen8 HA4.out
            go_wp2
            exact bodyPost_ret (w := put8 _ w.heap.size (fun _ => 0)) (res_endR (L := zer) (box_put HA4.out (fun _ => 0)) rfl false _ rfl rfl) rfl ⟨by rw [HE2.out], below_put8 (HB1.out.trans (HBLZ.out.mono HB1.out.size)) (Nat.le_refl _) _⟩
      · have h58b : ((c.toNat : Int) == 58) = false := by
          rw [beq_eq_false_iff_ne]
          intro e
          exact h58 (UInt8.toNat_inj.1 (by show _ = 58; omega))
        have HDR : Hid (D = R (splc (s.data.toList.drop 0)) [] none) := by
          show _ = _
          rw [HD.out, List.drop_zero]
          conv => lhs; rw [← List.drop_zero (l := s.data.toList), drop_cons_at _ 0 c HG.out]
          unfold doc
          simp only []
          rw [if_neg h58, ← drop_cons_at _ 0 c HG.out, List.drop_zero]
        clear h58
        go_wp2
        go_meet
        exact ⟨0, none, rfl, rfl, rfl, by omega, .inl rfl, HDR.out⟩
    case rest =>
      obtain ⟨a0, g0, rfl, rfl, rfl, ha0, hg0, HR0⟩ := hcut
      have HG0 := hid hg0
      clear hg0
      go_upto_block 0 with (fail)
      go_cut [5, 6, 7, 8, 9, 10, 11, 12] from 33 to 125 (fun vl _ vg _ _ _ _ _ wx => ∃ (L : List Nat) (g : Option Nat), vg = .int .i64 (gapV g) ∧ Hid (wx.ownsRow wc.heap.size 3 1 vl L.length (lcells L)) ∧ Hid (Below wc.heap.size wc wx) ∧ Hid (D = some (L, g)) ∧ L.length ≤ 8 ∧ Hid (∀ x ∈ L, x < 65536) ∧ Hid (∀ x, g = some x → x ≤ L.length))
      case first =>
        go_wp2
        go_loopw [5, 6, 7, 8, 9, 10, 11, 12] (fun vl va vg _ _ _ _ _ wr => ∃ (a : Nat) (L : List Nat) (g : Option Nat), va = .int .i64 (a : Int) ∧ vg = .int .i64 (gapV g) ∧ a ≤ s.size ∧ Hid (wr.ownsRow wc.heap.size 3 1 vl L.length (lcells L)) ∧ Hid (Below wc.heap.size wc wr) ∧ Hid (D = R (splc (s.data.toList.drop a)) L g) ∧ L.length ≤ 8 ∧ Hid (∀ x ∈ L, x < 65536) ∧ Hid (∀ x, g = some x → x ≤ L.length)) (fun _ va _ _ _ _ _ _ _ => s.size - (intOf va).toNat)
        case atStart => exact ⟨a0, [], g0, rfl, rfl, ha0, World.ownsRow_nil _ _ _ _, Below.refl _ _, HR0, by simp, by intro x hx; simp at hx, by intro x hx; rcases HG0.out with h | h <;> rw [h] at hx <;> cases hx; simp⟩
        case round =>
          obtain ⟨a, L, g, rfl, rfl, ha, HO, HBL, HW, hL8, HLE, HGL⟩ := hrel
          obtain ⟨m, hm⟩ : ∃ m, m = L.length := ⟨_, rfl⟩
          rw [← hm] at HO hL8
          have HM := hid hm
          clear hm
          obtain ⟨G, hG⟩ : ∃ G, G = gapV g := ⟨_, rfl⟩
          rw [← hG]
          have HGV := hid hG
          clear hG
          obtain ⟨AL, cL, rfl, hlcL, hcmL, hrL⟩ := owns_form HO.out
          clear hrL hcmL
          by_cases hlt : a < s.size
          · have hai : (a : Int) < (s.size : Int) := by omega
            have HTN : Hid (s.data.toList.drop a ≠ []) := by
              intro h
              have h2 := congrArg List.length h
              rw [List.length_drop, HL.out] at h2
              simp at h2
              omega
            by_cases hm8 : m = 8
            · have HDN : Hid (D = none) := by show _ = _; rw [HW.out]; exact R_full HTN.out (by rw [← HM.out, hm8]) g
              have hm8i : ((m : Int) == 8) = true := by simp; omega
              have hm8j : (m : Int) = 8 := by omega
              clear hm8
              have HE : Hid (fin D = none) := by
                show _ = _
                rw [HDN.out]
                rfl
              have HE2 := hid (sixv_none HE.out)
              have HA4 := hid (HA.out.below HBL.out)
              have HN4 := hid (HN.out.below HBL.out)
              obtain ⟨c0, c1, c2, c3, c4, c5, c6, c7⟩ := cells8 HN4.out (fun _ => 0) rfl
              obtain ⟨a0, a1, a2, a3, a4, a5, a6, a7⟩ := cells8 HA4.out (fun _ => 0) rfl
              obtain ⟨f0, f1, f2, f3, f4, f5, f6, f7⟩ := frozen8 HA4.out
              go_wp2
              exact bodyPost_ret (w := put8 _ w.heap.size (fun _ => 0)) (res_endR (L := zer) (box_put HA4.out (fun _ => 0)) rfl false _ rfl rfl) rfl ⟨by rw [HE2.out], below_put8 (HB1.out.trans (HBL.out.mono HB1.out.size)) (Nat.le_refl _) _⟩
            · have hm8i : ((m : Int) == 8) = false := by simp; omega
              have hm8j : ¬ (m : Int) = 8 := by omega
              have HL8 : Hid (L.length ≠ 8) := by show _ ≠ _; rw [← HM.out]; exact hm8
              have hm7 : m ≤ 7 := by omega
              obtain ⟨c, hc⟩ : ∃ c, s[a] = c := ⟨_, rfl⟩
              have HG : Hid (s.data.toList[a]? = some c) := by
                have hcl : s.data.toList[a]'(by rw [HL.out]; exact hlt) = c := hc
                show _ = _
                rw [List.getElem?_eq_getElem (by rw [HL.out]; exact hlt), hcl]
              have HDC : Hid (s.data.toList.drop a = c :: s.data.toList.drop (a + 1)) := drop_cons_at _ a c HG.out
              clear hm8 hL8
              by_cases h58 : c = 58
              · have h58b : ((c.toNat : Int) == 58) = true := by rw [h58]; rfl
                have h58c : (c.toNat : Int) = 58 := by rw [h58]; rfl
                cases g with
                | some gx =>
                  have HDN : Hid (D = none) := by show _ = _; rw [HW.out, HDC.out, h58]; exact R_colons _ HL8.out gx
                  have hG : 0 ≤ G := by rw [HGV.out]; exact Int.natCast_nonneg gx
                  clear h58
                  have HE : Hid (fin D = none) := by
                    show _ = _
                    rw [HDN.out]
                    rfl
                  have HE2 := hid (sixv_none HE.out)
                  have HA4 := hid (HA.out.below HBL.out)
                  have HN4 := hid (HN.out.below HBL.out)
                  obtain ⟨c0, c1, c2, c3, c4, c5, c6, c7⟩ := cells8 HN4.out (fun _ => 0) rfl
                  obtain ⟨a0, a1, a2, a3, a4, a5, a6, a7⟩ := cells8 HA4.out (fun _ => 0) rfl
                  obtain ⟨f0, f1, f2, f3, f4, f5, f6, f7⟩ := frozen8 HA4.out
                  go_wp2
                  exact bodyPost_ret (w := put8 _ w.heap.size (fun _ => 0)) (res_endR (L := zer) (box_put HA4.out (fun _ => 0)) rfl false _ rfl rfl) rfl ⟨by rw [HE2.out], below_put8 (HB1.out.trans (HBL.out.mono HB1.out.size)) (Nat.le_refl _) _⟩
                | none =>
                  have HW2 : Hid (D = R (splc (s.data.toList.drop (a + 1))) L (some m)) := by show _ = _; rw [HW.out, HDC.out, h58, HM.out]; exact R_colon _ HL8.out
                  have hG : ¬ 0 ≤ G := by rw [HGV.out]; show ¬ (0 : Int) ≤ -1; omega
                  have HGL2 : Hid (∀ x, some m = some x → x ≤ L.length) := by intro x hx; injection hx with hx; rw [← hx, HM.out]; exact Nat.le_refl _
                  clear h58
                  go_wp2
                  go_roundw
                  case rel => exact ⟨a + 1, L, some m, by go_num, rfl, by omega, by show World.ownsRow _ _ _ _ _ _ _; rw [← HM.out]; exact HO.out, HBL.out, HW2.out, by rw [← HM.out]; omega, HLE.out, HGL2.out⟩
                  case measure => simp [intOf]; omega
              · have h58b : ((c.toNat : Int) == 58) = false := by
                  rw [beq_eq_false_iff_ne]
                  intro e
                  exact h58 (UInt8.toNat_inj.1 (by show _ = 58; omega))
                have h58c : ¬ (c.toNat : Int) = 58 := by simpa using h58b
                have H0 : Hid ((s.data.toList.drop a)[0]? ≠ some 58) := by
                  intro h
                  rw [HDC.out] at h
                  injection h with h
                  exact h58 h
                clear h58
                go_wp2_with fail
                refine (SixD.hex_any s a _ ha (by omega)).mono ?_
                rintro e w2 ⟨⟨mm, HP0, rfl⟩, hw2⟩
                subst hw2
                have HP := hid HP0
                obtain ⟨n, hn⟩ : ∃ n, n = val 16 ((s.data.toList.drop a).take mm) := ⟨_, rfl⟩
                have hn65 : n < 65536 := by rw [hn]; exact val_lt4 HP0
                have hmm4 := HP0.four
                have hml : a + mm ≤ s.size := by have := HP0.len; rw [List.length_drop, HL.out] at this; omega
                rw [← hn]
                have HNV := hid hn
                clear HP0 hn
                have hown := HO.out
                have hbel := HBL.out
                by_cases hin : a + mm < s.size
                · have hini : (a : Int) + (mm : Int) < (s.size : Int) := by omega
                  obtain ⟨d, hd⟩ : ∃ d, s[a + mm] = d := ⟨_, rfl⟩
                  have HGD : Hid ((s.data.toList.drop a)[mm]? = some d) := by
                    have hcl : s.data.toList[a + mm]'(by rw [HL.out]; exact hin) = d := hd
                    show _ = _
                    rw [drop_get, List.getElem?_eq_getElem (by rw [HL.out]; exact hin), hcl]
                  by_cases h46 : d = 46
                  · have h46b : ((d.toNat : Int) == 46) = true := by rw [h46]; rfl
                    have h46c : (d.toNat : Int) = 46 := by rw [h46]; rfl
                    have HRQ : Hid (D = match quad (s.data.toList.drop a) with
                        | some x => if L.length ≤ 6 then some (L ++ x, g) else none
                        | none => none) := by
                      show _ = _
                      rw [HW.out]
                      exact R_quad HP.out (by rw [HGD.out, h46]) HL8.out g
                    have HQ0 : Hid (mm = 0 → quad (s.data.toList.drop a) = none) := by
                      intro h
                      refine quad_dot ?_
                      have := HGD.out
                      rw [h, h46] at this
                      exact this
                    obtain ⟨T1, hT1⟩ : ∃ T1, s.extract a s.size = T1 := ⟨_, rfl⟩
                    have HT1 : Hid (T1.data.toList = s.data.toList.drop a) := by show _ = _; rw [← hT1, cut_str]
                    have hsz1 : T1.size ≤ 1073741824 := by rw [size_of HT1.out, List.length_drop, HL.out]; omega
                    obtain ⟨q, hq⟩ : ∃ q, q = quad (s.data.toList.drop a) := ⟨_, rfl⟩
                    have HQ : Hid (q = quad T1.data.toList) := by show _ = _; rw [HT1.out]; exact hq
                    rw [← hq] at HRQ HQ0
                    clear h46 hq
                    go_wp2_with fail
                    refine (four_any T1 _ hsz1).mono ?_
                    rw [← HQ.out]
                    rintro e w5 ⟨rfl, hb5⟩
                    have hown5 := owns_below hown hb5
                    have hbel5 : Below wc.heap.size wc w5 := hbel.trans (hb5.mono hbel.size)
                    have HBL5 := hid hbel5
                    clear hb5 hown hbel
                    cases q with
                    | none =>
                      have HDN : Hid (D = none) := HRQ.out
                      have HF : Hid (FV none = .tuple #[.int .i64 0, .int .i64 0, .bool false]) := rfl
                      rw [HF.out]
                      clear hown5 hbel5
                      by_cases hmz : mm = 0
                      · have hmzb : ((mm : Int) == 0) = true := by simp; omega
                        clear hmz
                        have HE : Hid (fin D = none) := by
                          show _ = _
                          rw [HDN.out]
                          rfl
                        have HE2 := hid (sixv_none HE.out)
                        have HA4 := hid (HA.out.below HBL5.out)
                        have HN4 := hid (HN.out.below HBL5.out)
                        obtain ⟨c0, c1, c2, c3, c4, c5, c6, c7⟩ := cells8 HN4.out (fun _ => 0) rfl
                        obtain ⟨a0, a1, a2, a3, a4, a5, a6, a7⟩ := cells8 HA4.out (fun _ => 0) rfl
                        obtain ⟨f0, f1, f2, f3, f4, f5, f6, f7⟩ := frozen8 HA4.out
                        go_wp2
                        exact bodyPost_ret (w := put8 _ w.heap.size (fun _ => 0)) (res_endR (L := zer) (box_put HA4.out (fun _ => 0)) rfl false _ rfl rfl) rfl ⟨by rw [HE2.out], below_put8 (HB1.out.trans (HBL5.out.mono HB1.out.size)) (Nat.le_refl _) _⟩
                      · have hmzb : ((mm : Int) == 0) = false := by simp; omega
                        clear hmz
                        have HE : Hid (fin D = none) := by
                          show _ = _
                          rw [HDN.out]
                          rfl
                        have HE2 := hid (sixv_none HE.out)
                        have HA4 := hid (HA.out.below HBL5.out)
                        have HN4 := hid (HN.out.below HBL5.out)
                        obtain ⟨c0, c1, c2, c3, c4, c5, c6, c7⟩ := cells8 HN4.out (fun _ => 0) rfl
                        obtain ⟨a0, a1, a2, a3, a4, a5, a6, a7⟩ := cells8 HA4.out (fun _ => 0) rfl
                        obtain ⟨f0, f1, f2, f3, f4, f5, f6, f7⟩ := frozen8 HA4.out
                        go_wp2
                        exact bodyPost_ret (w := put8 _ w.heap.size (fun _ => 0)) (res_endR (L := zer) (box_put HA4.out (fun _ => 0)) rfl false _ rfl rfl) rfl ⟨by rw [HE2.out], below_put8 (HB1.out.trans (HBL5.out.mono HB1.out.size)) (Nat.le_refl _) _⟩
                    | some qx =>
                      obtain ⟨x, y, rfl⟩ := quad_ex (HQ.out.symm)
                      have HF : Hid (FV (some [x, y]) = .tuple #[.int .i64 (x : Int), .int .i64 (y : Int), .bool true]) := rfl
                      rw [HF.out]
                      have hmz : mm ≠ 0 := fun h => by have := HQ0.out h; cases this
                      have hmzb : ((mm : Int) == 0) = false := by simp; omega
                      obtain ⟨hx65, hy65⟩ := quad_small (HQ.out.symm)
                      clear hmz
                      by_cases hm6 : m ≤ 6
                      · have hm6i : ¬ (6 : Int) < (m : Int) := by omega
                        have HDS : Hid (D = some (L ++ [x, y], g)) := by show _ = _; rw [HRQ.out]; simp only []; rw [if_pos (by rw [← HM.out]; exact hm6)]
                        have HLE2 : Hid (∀ z ∈ L ++ [x, y], z < 65536) := by
                          intro z hz
                          rcases List.mem_append.1 hz with h | h
                          · exact HLE.out z h
                          · simp at h; omega
                        have HGL2 : Hid (∀ z, g = some z → z ≤ (L ++ [x, y]).length) := by
                          intro z hz
                          have := HGL.out z hz
                          rw [List.length_append]
                          omega
                        go_wp2_with (at_builtin; refine wpList_app rfl _ _ 102 rfl wc.heap.size 3 i0 (.int .i64 0) 8 Tryz.underlying102 hi hz0 hz1 hz2 rfl _ m _ rfl hown5 hbel5 hbel5.size [.int .i64 (x : Int), .int .i64 (y : Int)] 2 rfl rfl (by intro u hu; simp at hu; rcases hu with rfl | rfl <;> rfl) (by unfold maxLen; omega) (by omega) ?_)
                        intro v7 w7 hown7 hbel7
                        have HO7 : Hid (w7.ownsRow wc.heap.size 3 1 v7 (L ++ [x, y]).length (lcells (L ++ [x, y]))) := by
                          show World.ownsRow _ _ _ _ _ _ _
                          rw [List.length_append, ← HM.out, lcells_app]
                          exact hown7
                        have HB7 := hid hbel7
                        clear hown5 hbel5 hown7 hbel7
                        go_wp2
                        go_meet
                        exact ⟨L ++ [x, y], g, by rw [HGV.out], HO7.out, HB7.out, HDS.out, by rw [List.length_append, ← HM.out]; show m + 2 ≤ 8; omega, HLE2.out, HGL2.out⟩
                      · have hm6i : (6 : Int) < (m : Int) := by omega
                        have HDN : Hid (D = none) := by show _ = _; rw [HRQ.out]; simp only []; rw [if_neg (by rw [← HM.out]; exact hm6)]
                        clear hown5 hbel5
                        have HE : Hid (fin D = none) := by
                          show _ = _
                          rw [HDN.out]
                          rfl
                        have HE2 := hid (sixv_none HE.out)
                        have HA4 := hid (HA.out.below HBL5.out)
                        have HN4 := hid (HN.out.below HBL5.out)
                        obtain ⟨c0, c1, c2, c3, c4, c5, c6, c7⟩ := cells8 HN4.out (fun _ => 0) rfl
                        obtain ⟨a0, a1, a2, a3, a4, a5, a6, a7⟩ := cells8 HA4.out (fun _ => 0) rfl
                        obtain ⟨f0, f1, f2, f3, f4, f5, f6, f7⟩ := frozen8 HA4.out
                        go_wp2
                        exact bodyPost_ret (w := put8 _ w.heap.size (fun _ => 0)) (res_endR (L := zer) (box_put HA4.out (fun _ => 0)) rfl false _ rfl rfl) rfl ⟨by rw [HE2.out], below_put8 (HB1.out.trans (HBL5.out.mono HB1.out.size)) (Nat.le_refl _) _⟩
                  · have h46b : ((d.toNat : Int) == 46) = false := by
                      rw [beq_eq_false_iff_ne]
                      intro e
                      exact h46 (UInt8.toNat_inj.1 (by show _ = 46; omega))
                    have h46c : ¬ (d.toNat : Int) = 46 := by simpa using h46b
                    by_cases hd58 : d = 58
                    · have hdb : ((d.toNat : Int) == 58) = true := by rw [hd58]; rfl
                      have hdc : (d.toNat : Int) = 58 := by rw [hd58]; rfl
                      have HRP : Hid (D = if (s.data.toList.drop a).drop (mm + 1) = [] then none else R (splc ((s.data.toList.drop a).drop (mm + 1))) (L ++ [n]) g) := by
                        show _ = _
                        rw [HW.out, HNV.out]
                        exact R_piece HP.out H0.out (by rw [HGD.out, hd58]) HL8.out g
                      clear h46 hd58
                      by_cases hlast : a + mm + 1 = s.size
                      · have HDN : Hid (D = none) := by
                          show _ = _
                          rw [HRP.out, if_pos]
                          rw [List.drop_drop]
                          exact List.drop_eq_nil_of_le (by rw [HL.out]; omega)
                        have hlb : ((a : Int) + (mm : Int) + 1 == (s.size : Int)) = true := by simp; omega
                        have hlc : (a : Int) + (mm : Int) + 1 = (s.size : Int) := by omega
                        clear hown hbel hlast
                        have HE : Hid (fin D = none) := by
                          show _ = _
                          rw [HDN.out]
                          rfl
                        have HE2 := hid (sixv_none HE.out)
                        have HA4 := hid (HA.out.below HBL.out)
                        have HN4 := hid (HN.out.below HBL.out)
                        obtain ⟨c0, c1, c2, c3, c4, c5, c6, c7⟩ := cells8 HN4.out (fun _ => 0) rfl
                        obtain ⟨a0, a1, a2, a3, a4, a5, a6, a7⟩ := cells8 HA4.out (fun _ => 0) rfl
                        obtain ⟨f0, f1, f2, f3, f4, f5, f6, f7⟩ := frozen8 HA4.out
                        go_wp2
                        exact bodyPost_ret (w := put8 _ w.heap.size (fun _ => 0)) (res_endR (L := zer) (box_put HA4.out (fun _ => 0)) rfl false _ rfl rfl) rfl ⟨by rw [HE2.out], below_put8 (HB1.out.trans (HBL.out.mono HB1.out.size)) (Nat.le_refl _) _⟩
                      · have hlb : ((a : Int) + (mm : Int) + 1 == (s.size : Int)) = false := by simp; omega
                        have hlc : ¬ (a : Int) + (mm : Int) + 1 = (s.size : Int) := by omega
                        have HW2 : Hid (D = R (splc (s.data.toList.drop (a + mm + 1))) (L ++ [n]) g) := by
                          show _ = _
                          rw [HRP.out, if_neg, List.drop_drop, show a + (mm + 1) = a + mm + 1 by omega]
                          rw [List.drop_drop]
                          intro h
                          have h2 := congrArg List.length h
                          rw [List.length_drop, HL.out] at h2
                          simp at h2
                          omega
                        have HLE2 : Hid (∀ x ∈ L ++ [n], x < 65536) := by
                          intro x hx
                          rcases List.mem_append.1 hx with h | h
                          · exact HLE.out x h
                          · simp at h; omega
                        have HGL2 : Hid (∀ x, g = some x → x ≤ (L ++ [n]).length) := by
                          intro x hx
                          have := HGL.out x hx
                          rw [List.length_append]
                          omega
                        go_wp2_with (at_builtin; refine wpList_app rfl _ _ 102 rfl wc.heap.size 3 i0 (.int .i64 0) 8 Tryz.underlying102 hi hz0 hz1 hz2 rfl _ m _ rfl hown hbel hbel.size [.int .i64 (n : Int)] 1 rfl rfl (by intro u hu; simp at hu; subst hu; rfl) (by unfold maxLen; omega) (by omega) ?_)
                        intro v7 w7 hown7 hbel7
                        have HO7 : Hid (w7.ownsRow wc.heap.size 3 1 v7 (L ++ [n]).length (lcells (L ++ [n]))) := by
                          show World.ownsRow _ _ _ _ _ _ _
                          rw [List.length_append, ← HM.out, lcells_app]
                          exact hown7
                        have HB7 := hid hbel7
                        clear hown hbel hown7 hbel7
                        go_wp2
                        go_roundw
                        case rel => exact ⟨a + mm + 1, L ++ [n], g, by go_num, by rw [HGV.out], by omega, HO7.out, HB7.out, HW2.out, by rw [List.length_append, ← HM.out]; show m + 1 ≤ 8; omega, HLE2.out, HGL2.out⟩
                        case measure => simp [intOf]; omega
                    · have hdb : ((d.toNat : Int) == 58) = false := by
                        rw [beq_eq_false_iff_ne]
                        intro e
                        exact hd58 (UInt8.toNat_inj.1 (by show _ = 58; omega))
                      have hdc : ¬ (d.toNat : Int) = 58 := by simpa using hdb
                      have HDN : Hid (D = none) := by show _ = _; rw [HW.out]; exact R_odd HP.out HGD.out hd58 h46 HL8.out g
                      clear h46 hd58 hown hbel
                      have HE : Hid (fin D = none) := by
                        show _ = _
                        rw [HDN.out]
                        rfl
                      have HE2 := hid (sixv_none HE.out)
                      have HA4 := hid (HA.out.below HBL.out)
                      have HN4 := hid (HN.out.below HBL.out)
                      obtain ⟨c0, c1, c2, c3, c4, c5, c6, c7⟩ := cells8 HN4.out (fun _ => 0) rfl
                      obtain ⟨a0, a1, a2, a3, a4, a5, a6, a7⟩ := cells8 HA4.out (fun _ => 0) rfl
                      obtain ⟨f0, f1, f2, f3, f4, f5, f6, f7⟩ := frozen8 HA4.out
                      go_wp2
                      exact bodyPost_ret (w := put8 _ w.heap.size (fun _ => 0)) (res_endR (L := zer) (box_put HA4.out (fun _ => 0)) rfl false _ rfl rfl) rfl ⟨by rw [HE2.out], below_put8 (HB1.out.trans (HBL.out.mono HB1.out.size)) (Nat.le_refl _) _⟩
                · have hini : ¬ (a : Int) + (mm : Int) < (s.size : Int) := by omega
                  have HDS : Hid (D = R (splc (s.data.toList.drop s.size)) (L ++ [n]) g) := by
                    show _ = _
                    rw [HW.out, R_last HP.out HTN.out (by rw [drop_get]; exact List.getElem?_eq_none (by rw [HL.out]; omega)) HL8.out g, ← HNV.out, List.drop_eq_nil_of_le (by rw [HL.out]; exact Nat.le_refl _), R_end]
                  have hame : a + mm = s.size := by omega
                  have HAME : Hid ((a : Int) + (mm : Int) = (s.size : Int)) := by show _ = _; omega
                  clear hame
                  have HLE2 : Hid (∀ x ∈ L ++ [n], x < 65536) := by
                    intro x hx
                    rcases List.mem_append.1 hx with h | h
                    · exact HLE.out x h
                    · simp at h; omega
                  have HGL2 : Hid (∀ x, g = some x → x ≤ (L ++ [n]).length) := by
                    intro x hx
                    have := HGL.out x hx
                    rw [List.length_append]
                    omega
                  go_wp2_with (at_builtin; refine wpList_app rfl _ _ 102 rfl wc.heap.size 3 i0 (.int .i64 0) 8 Tryz.underlying102 hi hz0 hz1 hz2 rfl _ m _ rfl hown hbel hbel.size [.int .i64 (n : Int)] 1 rfl rfl (by intro u hu; simp at hu; subst hu; rfl) (by unfold maxLen; omega) (by omega) ?_)
                  intro v7 w7 hown7 hbel7
                  have HO7 : Hid (w7.ownsRow wc.heap.size 3 1 v7 (L ++ [n]).length (lcells (L ++ [n]))) := by
                    show World.ownsRow _ _ _ _ _ _ _
                    rw [List.length_append, ← HM.out, lcells_app]
                    exact hown7
                  have HB7 := hid hbel7
                  clear hown hbel hown7 hbel7
                  go_wp2
                  go_roundw
                  case rel => exact ⟨s.size, L ++ [n], g, by first | exact int_eq HAME.out | go_num, by rw [HGV.out], Nat.le_refl _, HO7.out, HB7.out, HDS.out, by rw [List.length_append, ← HM.out]; show m + 1 ≤ 8; omega, HLE2.out, HGL2.out⟩
                  case measure => (have := HAME.out; simp [intOf]; omega)
          · obtain rfl : a = s.size := by omega
            have HDS : Hid (D = some (L, g)) := by
              show _ = _
              rw [HW.out, List.drop_eq_nil_of_le (by rw [HL.out]; exact Nat.le_refl _), R_end]
            go_wp2
            go_meet
            exact ⟨L, g, by rw [HGV.out], by show World.ownsRow _ _ _ _ _ _ _; rw [← HM.out]; exact HO.out, HBL.out, HDS.out, by rw [← HM.out]; exact hL8, HLE.out, HGL.out⟩
      case rest =>
        obtain ⟨L, g, rfl, HO, HBL, HD2, hL8, HLE, HGL⟩ := hcut
        obtain ⟨n, hn⟩ : ∃ n, n = L.length := ⟨_, rfl⟩
        rw [← hn] at HO hL8
        have HM := hid hn
        clear hn
        obtain ⟨AL, cL, rfl, hlcL, hcmL, hrL⟩ := owns_form HO.out
        have HR := hid hrL
        clear hrL hcmL HO
        cases g with
        | none =>
          have hgv : gapV none = -1 := rfl
          by_cases h8 : n = 8
          · subst h8
            go_upto_region 33 with (fail)
            generalize hw3 : wc.alloc _ = w3
            have HX3 : Hid (Box w3 wc.heap.size 83 (outK L none 0)) := by
              show Box _ _ _ _
              rw [← hw3]
              exact heap_alloc_new _ _
            have HB3 : Hid (Below wc.heap.size wc w3) := by
              show Below _ _ _
              rw [← hw3]
              exact (Below.refl _ _).alloc (Nat.le_refl _) _
            have HS3 : Hid (wc.heap.size ≤ w3.heap.size) := HB3.out.size
            clear hw3
            go_wp2
            go_loopw [14, 15, 145] (fun _ _ vk wr => ∃ k : Nat, k ≤ 8 ∧ vk = .int .i64 (k : Int) ∧ Hid (Box wr wc.heap.size 83 (outK L none k)) ∧ Hid (Below wc.heap.size w3 wr)) (fun _ _ vk _ => 8 - (intOf vk).toNat)
            case atStart => exact ⟨0, by omega, rfl, HX3.out, Below.refl _ _⟩
            case round =>
              obtain ⟨k, hk, rfl, HX, HB⟩ := hrel
              have HBC : Hid (Below wc.heap.size wc wr) := HB3.out.trans HB.out
              by_cases hlt : k < 8
              · obtain ⟨b, off, rfl, _, _⟩ := HR.out.spot (by omega)
                obtain ⟨x, hx⟩ : ∃ x, L[k]'(by rw [← HM.out]; exact hlt) = x := ⟨_, rfl⟩
                have hcl : wr.cell? ⟨b, off + k, none⟩ = some (.int .i64 (x : Int)) := by
                  obtain ⟨b', o', e1, _, hc'⟩ := (HR.out.below HBC.out).2 k (by rw [length_lcells, ← HM.out]; exact hlt)
                  cases e1
                  rw [hc', lcells_get L k (by rw [← HM.out]; exact hlt), hx]
                have hx65 : x < 65536 := by rw [← hx]; exact HLE.out _ (List.getElem_mem _)
                have HXD : Hid (L.getD k 0 = x) := by
                  show _ = _
                  rw [List.getD_eq_getElem?_getD, List.getElem?_eq_getElem (by rw [← HM.out]; exact hlt), hx]
                  rfl
                have hwx : IntKind.u16.wrap (x : Int) = (x : Int) := by simp [IntKind.wrap, IntKind.signed, IntKind.bits]; omega
                clear hx65
                clear hx
                have HPL : Hid (place none L.length k = k) := rfl
                have hc0 := HX.out.cell k (by rw [length_outK]; omega)
                have hf0 := HX.out.frozen k
                have HX2 : Hid (Box (wr.setCell ⟨wc.heap.size, k, none⟩ (.int .u16 (x : Int))) wc.heap.size 83 (outK L none (k + 1))) := by
                  show Box _ _ _ _
                  rw [outK, HPL.out, HXD.out]
                  exact HX.out.set k x
                have HB2 : Hid (Below wc.heap.size w3 (wr.setCell ⟨wc.heap.size, k, none⟩ (.int .u16 (x : Int)))) := HB.out.setCell (Nat.le_refl _) _
                go_wp2
                go_roundw
                case rel => exact ⟨k + 1, by omega, by go_num, HX2.out, HB2.out⟩
                case measure => simp [intOf]; omega
              · obtain rfl : k = 8 := by omega
                obtain ⟨V, hV⟩ : ∃ V, V = outK L none 8 := ⟨_, rfl⟩
                have HVL : Hid (V.length = 8) := by show _ = _; rw [hV, length_outK]
                have HE : Hid (fin D = some V) := by have h9 := out_none (L := L) HM.out.symm; rw [← HM.out] at h9; show _ = _; rw [HD2.out, fin_none, if_pos HM.out.symm, hV, h9]
                rw [← hV] at HX
                clear hV
                have HE2 := hid (sixv_some HE.out)
                have HBW : Hid (Below w.heap.size w wr) := (HB1.out.trans (HBL.out.mono HB1.out.size)).trans (HBC.out.mono (by have h1 := HB1.out.size; have h2 := HBL.out.size; omega))
                have HA4 := hid ((HA.out.below HBL.out).below HBC.out)
                obtain ⟨c0, c1, c2, c3, c4, c5, c6, c7⟩ := cells8 HX.out (fun i => V.getD i 0) (list8 HVL.out)
                obtain ⟨a0, a1, a2, a3, a4, a5, a6, a7⟩ := cells8 HA4.out (fun _ => 0) rfl
                obtain ⟨f0, f1, f2, f3, f4, f5, f6, f7⟩ := frozen8 HA4.out
                go_wp2
                exact bodyPost_ret (w := put8 _ w.heap.size (fun i => V.getD i 0)) (res_endR (box_put HA4.out (fun i => V.getD i 0)) rfl true _ rfl rfl) rfl ⟨(congrArg (fun z => Ending.returned (.tuple #[.agg (ncells z).toArray, .bool true])) (list8 HVL.out).symm).trans (by rw [HE2.out]), below_put8 HBW.out (Nat.le_refl _) _⟩
          · have h8b : ((n : Int) == 8) = false := by simp; omega
            have h8c : ¬ (n : Int) = 8 := by omega
            have HN8 := hid h8
            clear h8
            have HE : Hid (fin D = none) := by
              show _ = _
              rw [HD2.out, fin_none, if_neg (by rw [← HM.out]; exact HN8.out)]
            have HE2 := hid (sixv_none HE.out)
            have HA4 := hid (HA.out.below HBL.out)
            have HN4 := hid (HN.out.below HBL.out)
            obtain ⟨c0, c1, c2, c3, c4, c5, c6, c7⟩ := cells8 HN4.out (fun _ => 0) rfl
            obtain ⟨a0, a1, a2, a3, a4, a5, a6, a7⟩ := cells8 HA4.out (fun _ => 0) rfl
            obtain ⟨f0, f1, f2, f3, f4, f5, f6, f7⟩ := frozen8 HA4.out
            go_wp2
            exact bodyPost_ret (w := put8 _ w.heap.size (fun _ => 0)) (res_endR (L := zer) (box_put HA4.out (fun _ => 0)) rfl false _ rfl rfl) rfl ⟨by rw [HE2.out], below_put8 (HB1.out.trans (HBL.out.mono HB1.out.size)) (Nat.le_refl _) _⟩
        | some gx =>
          have hgv : gapV (some gx) = (gx : Int) := rfl
          have hg0 : ¬ (gx : Int) < 0 := by omega
          have hgx : gx ≤ n := by rw [HM.out]; exact HGL.out gx rfl
          by_cases h7 : n ≤ 7
          · have h7i : ¬ (7 : Int) < (n : Int) := by omega
            go_upto_region 33 with (fail)
            generalize hw3 : wc.alloc _ = w3
            have HX3 : Hid (Box w3 wc.heap.size 83 (outK L (some gx) 0)) := by
              show Box _ _ _ _
              rw [← hw3]
              exact heap_alloc_new _ _
            have HB3 : Hid (Below wc.heap.size wc w3) := by
              show Below _ _ _
              rw [← hw3]
              exact (Below.refl _ _).alloc (Nat.le_refl _) _
            have HS3 : Hid (wc.heap.size ≤ w3.heap.size) := HB3.out.size
            clear hw3
            go_wp2
            go_loopw [14, 15, 145] (fun _ _ vk wr => ∃ k : Nat, k ≤ n ∧ vk = .int .i64 (k : Int) ∧ Hid (Box wr wc.heap.size 83 (outK L (some gx) k)) ∧ Hid (Below wc.heap.size w3 wr)) (fun _ _ vk _ => n - (intOf vk).toNat)
            case atStart => exact ⟨0, by omega, rfl, HX3.out, Below.refl _ _⟩
            case round =>
              obtain ⟨k, hk, rfl, HX, HB⟩ := hrel
              have HBC : Hid (Below wc.heap.size wc wr) := HB3.out.trans HB.out
              by_cases hlt : k < n
              · obtain ⟨b, off, rfl, _, _⟩ := HR.out.spot (by omega)
                obtain ⟨x, hx⟩ : ∃ x, L[k]'(by rw [← HM.out]; exact hlt) = x := ⟨_, rfl⟩
                have hcl : wr.cell? ⟨b, off + k, none⟩ = some (.int .i64 (x : Int)) := by
                  obtain ⟨b', o', e1, _, hc'⟩ := (HR.out.below HBC.out).2 k (by rw [length_lcells, ← HM.out]; exact hlt)
                  cases e1
                  rw [hc', lcells_get L k (by rw [← HM.out]; exact hlt), hx]
                have hx65 : x < 65536 := by rw [← hx]; exact HLE.out _ (List.getElem_mem _)
                have HXD : Hid (L.getD k 0 = x) := by
                  show _ = _
                  rw [List.getD_eq_getElem?_getD, List.getElem?_eq_getElem (by rw [← HM.out]; exact hlt), hx]
                  rfl
                have hxi : (x : Int) < 65536 := by omega
                have hk8 : k < 8 := by omega
                clear hx
                by_cases hgk : gx ≤ k
                · have hgi : (gx : Int) ≤ (k : Int) := by omega
                  obtain ⟨p, hp⟩ : ∃ p, p = 8 - n + k := ⟨_, rfl⟩
                  have hp8 : p < 8 := by omega
                  have hpi : (8 : Int) - (n : Int) + (k : Int) = (p : Int) := by omega
                  have hn8 : (n : Int) ≤ 8 := by omega
                  have hpi8 : (p : Int) < 8 := by omega
                  have HP0 := hid hp
                  have HGK := hid hgk
                  clear hp hgk
                  have HPL : Hid (place (some gx) L.length k = p) := by show _ = _; unfold place; simp only []; rw [if_pos HGK.out, ← HM.out]; exact HP0.out.symm
                  have hc0 := HX.out.cell p (by rw [length_outK]; omega)
                  have hf0 := HX.out.frozen p
                  have HX2 : Hid (Box (wr.setCell ⟨wc.heap.size, p, none⟩ (.int .u16 (x : Int))) wc.heap.size 83 (outK L (some gx) (k + 1))) := by
                    show Box _ _ _ _
                    rw [outK, HPL.out, HXD.out]
                    exact HX.out.set p x
                  have HB2 : Hid (Below wc.heap.size w3 (wr.setCell ⟨wc.heap.size, p, none⟩ (.int .u16 (x : Int)))) := HB.out.setCell (Nat.le_refl _) _
                  go_wp2
                  go_roundw
                  case rel => exact ⟨k + 1, by omega, by go_num, HX2.out, HB2.out⟩
                  case measure => simp [intOf]; omega
                · have hgi : ¬ (gx : Int) ≤ (k : Int) := by omega
                  have HGK := hid hgk
                  clear hgk
                  have HPL : Hid (place (some gx) L.length k = k) := by show _ = _; unfold place; simp only []; rw [if_neg HGK.out]
                  have hc0 := HX.out.cell k (by rw [length_outK]; omega)
                  have hf0 := HX.out.frozen k
                  have HX2 : Hid (Box (wr.setCell ⟨wc.heap.size, k, none⟩ (.int .u16 (x : Int))) wc.heap.size 83 (outK L (some gx) (k + 1))) := by
                    show Box _ _ _ _
                    rw [outK, HPL.out, HXD.out]
                    exact HX.out.set k x
                  have HB2 : Hid (Below wc.heap.size w3 (wr.setCell ⟨wc.heap.size, k, none⟩ (.int .u16 (x : Int)))) := HB.out.setCell (Nat.le_refl _) _
                  go_wp2
                  go_roundw
                  case rel => exact ⟨k + 1, by omega, by go_num, HX2.out, HB2.out⟩
                  case measure => simp [intOf]; omega
              · obtain rfl : k = n := by omega
                obtain ⟨V, hV⟩ : ∃ V, V = outK L (some gx) k := ⟨_, rfl⟩
                have HVL : Hid (V.length = 8) := by show _ = _; rw [hV, length_outK]
                have HE : Hid (fin D = some V) := by show _ = _; rw [HD2.out, fin_some, if_pos (by rw [← HM.out]; exact h7), hV, HM.out, out_some (HGL.out gx rfl) (by rw [← HM.out]; exact h7)]
                rw [← hV] at HX
                clear hV
                have HE2 := hid (sixv_some HE.out)
                have HBW : Hid (Below w.heap.size w wr) := (HB1.out.trans (HBL.out.mono HB1.out.size)).trans (HBC.out.mono (by have h1 := HB1.out.size; have h2 := HBL.out.size; omega))
                have HA4 := hid ((HA.out.below HBL.out).below HBC.out)
                obtain ⟨c0, c1, c2, c3, c4, c5, c6, c7⟩ := cells8 HX.out (fun i => V.getD i 0) (list8 HVL.out)
                obtain ⟨a0, a1, a2, a3, a4, a5, a6, a7⟩ := cells8 HA4.out (fun _ => 0) rfl
                obtain ⟨f0, f1, f2, f3, f4, f5, f6, f7⟩ := frozen8 HA4.out
                go_wp2
                exact bodyPost_ret (w := put8 _ w.heap.size (fun i => V.getD i 0)) (res_endR (box_put HA4.out (fun i => V.getD i 0)) rfl true _ rfl rfl) rfl ⟨(congrArg (fun z => Ending.returned (.tuple #[.agg (ncells z).toArray, .bool true])) (list8 HVL.out).symm).trans (by rw [HE2.out]), below_put8 HBW.out (Nat.le_refl _) _⟩
          · have h7i : (7 : Int) < (n : Int) := by omega
            have HN7 := hid h7
            clear h7
            have HE : Hid (fin D = none) := by
              show _ = _
              rw [HD2.out, fin_some, if_neg (by rw [← HM.out]; exact HN7.out)]
            have HE2 := hid (sixv_none HE.out)
            have HA4 := hid (HA.out.below HBL.out)
            have HN4 := hid (HN.out.below HBL.out)
            obtain ⟨c0, c1, c2, c3, c4, c5, c6, c7⟩ := cells8 HN4.out (fun _ => 0) rfl
            obtain ⟨a0, a1, a2, a3, a4, a5, a6, a7⟩ := cells8 HA4.out (fun _ => 0) rfl
            obtain ⟨f0, f1, f2, f3, f4, f5, f6, f7⟩ := frozen8 HA4.out
            go_wp2
            exact bodyPost_ret (w := put8 _ w.heap.size (fun _ => 0)) (res_endR (L := zer) (box_put HA4.out (fun _ => 0)) rfl false _ rfl rfl) rfl ⟨by rw [HE2.out], below_put8 (HB1.out.trans (HBL.out.mono HB1.out.size)) (Nat.le_refl _) _⟩
end Go.Proofs.YtleecmapaihhmaaGreatDoor.SixF
namespace Go.Proofs.YtleecmapaihhmaaGreatDoor.SixL
open Go.RowKit Go.Proofs.YtleecmapaihhmaaGreatDoor.Base Go.Proofs.YtleecmapaihhmaaGreatDoor.QudP Go.Proofs.YtleecmapaihhmaaGreatDoor.SixP Go.Proofs.YtleecmapaihhmaaGreatDoor.SixQ Go.Proofs.YtleecmapaihhmaaGreatDoor.SixA Go.Proofs.YtleecmapaihhmaaGreatDoor.SixB Go.Proofs.YtleecmapaihhmaaGreatDoor.SixC Go.Proofs.YtleecmapaihhmaaGreatDoor.SixG Go.Proofs.YtleecmapaihhmaaGreatDoor.SixH Go.Proofs.YtleecmapaihhmaaGreatDoor.SixI

theorem six_fnd0 (s : List UInt8) : six s = match fnd0 (splc s) with
    | none => SixP.eight (pcs true (splc s)) []
    | some p => both (sideP false p.1) (sideP true p.2) [] := by
  rw [cut2_fnd0 s]
  unfold six
  cases cut2 s <;> rfl
theorem piece_is {p : List UInt8} {n : Nat} (h : piece p = some n) : p ≠ [] ∧ digs 16 p = true := by
  unfold piece at h
  split at h
  · rename_i h2
    refine ⟨?_, h2.2.2⟩
    rintro rfl
    simp at h2
  · cases h
theorem piece_no {p : List UInt8} {n : Nat} (h : piece p = some n) (x : UInt8) (hx : isD 16 x = false) : ∀ c ∈ p, c ≠ x := by
  rintro c hc rfl
  rw [digs_mem (piece_is h).2 hc] at hx
  cases hx
theorem splc_join : ∀ (ws : List (List UInt8)) (ns : List Nat), ws ≠ [] → ws.map piece = ns.map some → splc (joinC ws) = ws
  | [], _, h, _ => absurd rfl h
  | [w], ns, _, h => by
    match ns, h with
    | [], h => simp at h
    | n :: ns, h =>
      simp at h
      exact splc_plain w (piece_no h.1 58 (isD_colon 16))
  | w :: v :: r, ns, _, h => by
    match ns, h with
    | n :: ns, h =>
      simp only [List.map_cons, List.cons.injEq] at h
      show splc (w ++ 58 :: joinC (v :: r)) = _
      rw [splc_app w _ (piece_no h.1 58 (isD_colon 16)), splc_join (v :: r) ns (by simp) (by simpa using h.2)]
theorem splc_join_app : ∀ (ws : List (List UInt8)) (ns : List Nat) (M : List UInt8), ws ≠ [] → ws.map piece = ns.map some → splc (joinC ws ++ 58 :: M) = ws ++ splc M
  | [], _, _, h, _ => absurd rfl h
  | [w], ns, M, _, h => by
    match ns, h with
    | [], h => simp at h
    | n :: ns, h =>
      simp at h
      exact splc_app w M (piece_no h.1 58 (isD_colon 16))
  | w :: v :: r, ns, M, _, h => by
    match ns, h with
    | n :: ns, h =>
      simp only [List.map_cons, List.cons.injEq] at h
      show splc ((w ++ 58 :: joinC (v :: r)) ++ 58 :: M) = _
      rw [List.append_assoc, List.cons_append, splc_app w _ (piece_no h.1 58 (isD_colon 16)), splc_join_app (v :: r) ns M (by simp) (by simpa using h.2)]
      rfl
theorem pcs_all (e : Bool) : ∀ (ws : List (List UInt8)) (ns : List Nat), ws.map piece = ns.map some → pcs e ws = some ns
  | [], ns, h => by
    match ns, h with
    | [], _ => rfl
  | w :: r, ns, h => by
    match ns, h with
    | n :: ns, h =>
      simp only [List.map_cons, List.cons.injEq] at h
      have hn : ¬ (e = true ∧ r = [] ∧ w.contains 46 = true) := by
        rintro ⟨_, _, h3⟩
        have hm : (46 : UInt8) ∈ w := by simpa using h3
        exact piece_no h.1 46 (isD_dot 16) 46 hm rfl
      rw [pcs, if_neg hn, h.1, pcs_all e r ns h.2]
theorem fnd_full : ∀ (ws : List (List UInt8)), (∀ w ∈ ws, w ≠ []) → fnd ws = none
  | [], _ => rfl
  | [_], _ => rfl
  | p :: q :: r, h => by
    rw [fnd, if_neg (h p (by simp)), fnd_full (q :: r) fun w hw => h w (by simp [hw])]
theorem fnd_gap : ∀ (ws q : List (List UInt8)), (∀ w ∈ ws, w ≠ []) → q ≠ [] → fnd (ws ++ [] :: q) = some (ws, q)
  | [], q, _, hq => fnd_nil q hq
  | p :: r, q, h, hq => by
    have ih := fnd_gap r q (fun w hw => h w (by simp [hw])) hq
    cases hr : r ++ [] :: q with
    | nil => simp at hr
    | cons x y =>
      rw [hr] at ih
      show fnd (p :: (r ++ [] :: q)) = _
      rw [hr, fnd, if_neg (h p (by simp)), ih]
theorem map_ne {ws : List (List UInt8)} {ns : List Nat} (h : ws.map piece = ns.map some) : ∀ w ∈ ws, w ≠ [] := by
  induction ws generalizing ns with
  | nil => intro w hw; simp at hw
  | cons v r ih =>
    match ns, h with
    | n :: ns, h =>
      simp only [List.map_cons, List.cons.injEq] at h
      intro w hw
      rcases List.mem_cons.1 hw with rfl | hw
      · exact (piece_is h.1).1
      · exact ih h.2 w hw
theorem map_len {ws : List (List UInt8)} {ns : List Nat} (h : ws.map piece = ns.map some) : ws.length = ns.length := by
  have := congrArg List.length h
  simpa using this
theorem six_all (ws : List (List UInt8)) (ns : List Nat) (h : ws.map piece = ns.map some) (h8 : ns.length = 8) : six (joinC ws) = some ns := by
  have hl := map_len h
  have hne := map_ne h
  match ws, hl, hne, h with
  | [], hl, _, _ => simp at hl; omega
  | p :: r, _, hne, h =>
    rw [six_fnd0, splc_join _ ns (by simp) h]
    have : fnd0 (p :: r) = none := by
      show (match fnd r with | none => none | some x => some (p :: x.1, x.2)) = none
      rw [fnd_full r fun w hw => hne w (by simp [hw])]
    rw [this]
    simp only []
    rw [pcs_all true _ ns h]
    unfold SixP.eight
    simp [h8]
theorem side_all (e : Bool) (ws : List (List UInt8)) (ns : List Nat) (h : ws.map piece = ns.map some) : sideP e (splc (joinC ws)) = some ns := by
  match ws, h with
  | [], h =>
    match ns, h with
    | [], _ => rfl
  | p :: r, h =>
    have hne := map_ne h
    rw [splc_join _ ns (by simp) h, sideP_neg e, pcs_all e _ ns h]
    intro h2
    exact hne [] (by rw [h2]; simp) rfl
theorem six_gap (ws1 ws2 : List (List UInt8)) (ns1 ns2 : List Nat) (h1 : ws1.map piece = ns1.map some) (h2 : ws2.map piece = ns2.map some) (hl : ns1.length + ns2.length < 8) :
    six (joinC ws1 ++ 58 :: 58 :: joinC ws2) = some (fill ns1 ns2) := by
  rw [six_fnd0]
  match ws1, h1 with
  | [], h1 =>
    match ns1, h1, hl with
    | [], _, hl =>
      rw [show joinC [] ++ 58 :: 58 :: joinC ws2 = 58 :: 58 :: joinC ws2 from rfl, splc_colon, splc_colon]
      have : fnd0 ([] :: [] :: splc (joinC ws2)) = some ([[]], splc (joinC ws2)) := by
        show (match fnd ([] :: splc (joinC ws2)) with | none => none | some x => some ([] :: x.1, x.2)) = _
        rw [fnd_nil _ (splc_ne _)]
      rw [this]
      simp only []
      rw [side_all true ws2 ns2 h2, show sideP false [[]] = some [] from rfl]
      unfold both
      simp only [List.length_nil, Nat.zero_add] at hl ⊢
      rw [if_pos hl]
      rfl
  | p :: r, h1 =>
    have hne := map_ne h1
    rw [splc_join_app _ ns1 _ (by simp) h1, splc_colon]
    have : fnd0 ((p :: r) ++ [] :: splc (joinC ws2)) = some (p :: r, splc (joinC ws2)) := by
      show (match fnd (r ++ [] :: splc (joinC ws2)) with | none => none | some x => some (p :: x.1, x.2)) = _
      rw [fnd_gap r _ (fun w hw => hne w (by simp [hw])) (splc_ne _)]
    rw [this]
    simp only []
    rw [side_all true ws2 ns2 h2, sideP_neg false, pcs_all false _ ns1 h1]
    · unfold both
      simp only [List.length_nil, Nat.zero_add]
      rw [if_pos hl]
      rfl
    · intro h3
      exact hne [] (by rw [h3]; simp) rfl
theorem digs_hexd (d : Nat) (h : d < 16) : digs 16 [hexd d] = true := by
  unfold digs
  simp [(hexd_ok d h).1]
theorem hx_reads : ∀ (m n : Nat), n ≤ m → n < 65536 → digs 16 (hx n) = true ∧ val 16 (hx n) = n ∧ 1 ≤ (hx n).length
  | m, n, hm, h6 => by
    by_cases h16 : 16 ≤ n
    · cases m with
      | zero => omega
      | succ m =>
        obtain ⟨i1, i2, i3⟩ := hx_reads m (n / 16) (by omega) (by omega)
        have hd := hexd_ok (n % 16) (by omega)
        rw [hx_big h16 h6]
        refine ⟨?_, ?_, ?_⟩
        · rw [digs_snoc, i1, hd.1]; rfl
        · rw [val_snoc, i2, hd.2.1]; omega
        · simp
    · have hd := hexd_ok n (by omega)
      rw [hx_small (by omega)]
      refine ⟨digs_hexd n (by omega), ?_, by simp⟩
      show 0 * 16 + dv (hexd n) = n
      rw [hd.2.1]
      omega
theorem piece_hx (n : Nat) (h : n < 65536) : piece (hx n) = some n := by
  obtain ⟨h1, h2, h3⟩ := hx_reads n n (Nat.le_refl _) h
  rw [piece_some h3 (hx_len n) h1, h2]
theorem map_hx : ∀ (L : List Nat), (∀ x ∈ L, x < 65536) → (L.map hx).map piece = L.map some
  | [], _ => rfl
  | n :: L, h => by
    rw [List.map_cons, List.map_cons, List.map_cons, piece_hx n (h n (by simp)), map_hx L fun x hx => h x (by simp [hx])]
theorem fill_gap (L : List Nat) (a b : Nat) (hL : L.length = 8) (hab : a < b) (hb : b ≤ 8) (hz : ∀ i (h : i < L.length), a ≤ i → i < b → L[i] = 0) : fill (L.take a) (L.drop b) = L := by
  unfold fill
  apply List.ext_getElem
  · simp; omega
  · intro i h1 h2
    by_cases c1 : i < a
    · rw [List.getElem_append_left (by rw [List.length_append, List.length_take]; omega), List.getElem_append_left (by rw [List.length_take]; omega), List.getElem_take]
    · by_cases c2 : i < b
      · rw [List.getElem_append_left (by rw [List.length_append, List.length_replicate, List.length_take, List.length_drop]; omega), List.getElem_append_right (by rw [List.length_take]; omega), List.getElem_replicate, hz i h2 (by omega) c2]
      · rw [List.getElem_append_right (by rw [List.length_append, List.length_take, List.length_replicate, List.length_drop]; omega), List.getElem_drop]
        congr 1
        rw [List.length_append, List.length_take, List.length_replicate, List.length_drop]
        omega
theorem zero_gap (f : Nat → Nat) : ∀ i (h : i < (V8 f).length), (lng (zs f)).1 ≤ i → i < (lng (zs f)).2 → (V8 f)[i] = 0 := by
  intro i h h1 h2
  have hf := (lng_facts (f 0 == 0) (f 1 == 0) (f 2 == 0) (f 3 == 0) (f 4 == 0) (f 5 == 0) (f 6 == 0) (f 7 == 0)).2.2.1
  replace hf : (((zs f).take (lng (zs f)).2).drop (lng (zs f)).1).all id = true := hf
  have hi8 : i < 8 := h
  have hz : (zs f)[i]'hi8 = true := by
    have hm : (zs f)[i]'hi8 ∈ ((zs f).take (lng (zs f)).2).drop (lng (zs f)).1 := by
      refine List.mem_iff_getElem.2 ⟨i - (lng (zs f)).1, ?_, ?_⟩
      · rw [List.length_drop, List.length_take, zs_length]; have := (six_eight f).2; omega
      · rw [List.getElem_drop, List.getElem_take]
        congr 1
        omega
    exact List.all_eq_true.1 hf _ hm
  rw [V8_get f i hi8]
  have hz2 : (f i == 0) = true := (zs_get f i hi8 hi8).symm.trans hz
  simpa using hz2
theorem six_prt (f : Nat → Nat) (h : ∀ i, f i < 65536) : six (SixI.prt f) = some (V8 f) := by
  have h6 := V8_mem h
  have hab := six_eight f
  unfold SixI.prt
  by_cases h2 : (lng (zs f)).2 - (lng (zs f)).1 < 2
  · rw [if_pos h2]
    exact six_all _ _ (map_hx _ h6) rfl
  · rw [if_neg h2]
    unfold jx
    rw [List.append_assoc]
    show six (joinC _ ++ 58 :: 58 :: joinC _) = _
    have hV : (V8 f).length = 8 := rfl
    rw [six_gap _ _ _ _ (map_hx _ fun x hx => h6 x (List.mem_of_mem_take hx)) (map_hx _ fun x hx => h6 x (List.mem_of_mem_drop hx)) (by rw [List.length_take, List.length_drop, hV]; omega)]
    rw [fill_gap (V8 f) _ _ rfl (by omega) hab.2 (zero_gap f)]
theorem six_len {s : List UInt8} {V : List Nat} (h : six s = some V) : V.length = 8 := by
  unfold six at h
  split at h
  · unfold SixP.eight at h
    split at h
    · split at h
      · rename_i hlt
        injection h with h
        subst h
        simpa using hlt
      · cases h
    · cases h
  · unfold both at h
    split at h
    · split at h
      · injection h with h
        subst h
        rename_i hlt
        unfold fill
        simp at hlt ⊢
        omega
      · cases h
    · cases h
end Go.Proofs.YtleecmapaihhmaaGreatDoor.SixL
namespace Go.Proofs.YtleecmapaihhmaaGreatDoor.SixM
open Go.RowKit Go.Proofs.YtleecmapaihhmaaGreatDoor.Base Go.Proofs.YtleecmapaihhmaaGreatDoor.Base2 Go.Proofs.YtleecmapaihhmaaGreatDoor.QudP Go.Proofs.YtleecmapaihhmaaGreatDoor.SixP Go.Proofs.YtleecmapaihhmaaGreatDoor.SixA Go.Proofs.YtleecmapaihhmaaGreatDoor.SixB Go.Proofs.YtleecmapaihhmaaGreatDoor.SixC Go.Proofs.YtleecmapaihhmaaGreatDoor.SixG Go.Proofs.YtleecmapaihhmaaGreatDoor.SixH Go.Proofs.YtleecmapaihhmaaGreatDoor.SixI Go.Proofs.YtleecmapaihhmaaGreatDoor.SixL Go.Proofs.YtleecmapaihhmaaGreatDoor.Spl

theorem all_range_eq : ∀ (xs ys : List Nat), xs.length = ys.length → ((List.range xs.length).all fun i => xs.getD i 0 == ys.getD i 0) = (xs == ys)
  | [], [], _ => rfl
  | x :: xs, y :: ys, h => by
    have ih := all_range_eq xs ys (by simpa using h)
    rw [List.length_cons, List.range_succ_eq_map, List.all_cons, List.all_map]
    simp only [List.getD_cons_zero, Function.comp_def, List.getD_cons_succ, ih]
    simp [List.cons_beq_cons]
  | [], _ :: _, h => by simp at h
  | _ :: _, [], h => by simp at h
theorem run_equalIn_u16 {P : Program} (w : World) (d : Nat) (t e : TypeId) (n : Nat) (ht : P.underlying t = some (.array n e)) (he : P.underlying e = some (.int .u16)) (hsz : ∀ w, (sizeOf e).run P w = .ok 1 w)
    (xs ys : List Nat) (hx : xs.length = n) (hy : ys.length = n) :
    (Op.equalIn (d + 2) t (.agg (ncells xs).toArray) (.agg (ncells ys).toArray)).run P w = .ok (xs == ys) w := by
  rw [← all_range_eq xs ys (hx.trans hy.symm), hx, List.range_eq_range', Op.equalIn]
  simp only [Sem.run_bind, run_underlying ht, Result.andThen_ok, hsz, Std.Legacy.Range.forIn_eq_forIn_range', Std.Legacy.Range.size, Nat.sub_zero, Nat.add_sub_cancel, Nat.div_one]
  have hl : ∀ i ∈ List.range' 0 n 1, i < n := fun i hi => by simpa using (List.mem_range'_1.1 hi).2
  generalize List.range' 0 n 1 = l at hl ⊢
  induction l with
  | nil => simp
  | cons i l ih =>
    have hi : i < n := hl i (by simp)
    have px : (part e (ncells xs).toArray (i * 1)).run P w = .ok (.int .u16 ((xs.getD i 0 : Nat) : Int)) w := by
      simp [part, isAgg, run_underlying he, ncells, List.getD, List.getElem?_eq_getElem (show i < xs.length by omega)]
    have py : (part e (ncells ys).toArray (i * 1)).run P w = .ok (.int .u16 ((ys.getD i 0 : Nat) : Int)) w := by
      simp [part, isAgg, run_underlying he, ncells, List.getD, List.getElem?_eq_getElem (show i < ys.length by omega)]
    have pe : (Op.equalIn (d + 1) e (.int .u16 ((xs.getD i 0 : Nat) : Int)) (.int .u16 ((ys.getD i 0 : Nat) : Int))).run P w = .ok (xs.getD i 0 == ys.getD i 0) w := by
      rw [run_equalIn_int w d e .u16 .u16 _ _ he]
      congr 1
      rw [Bool.eq_iff_iff]
      simp
      omega
    simp only [List.forIn_cons, Sem.run_bind, px, py, pe, Result.andThen_ok, List.all_cons]
    cases hb : (xs.getD i 0 == ys.getD i 0)
    · simp
    · simp only [Bool.not_true, Bool.false_eq_true, if_false, Sem.run_pure, Result.andThen_ok, Bool.true_and]
      exact ih fun j hj => hl j (by simp [hj])
/-- Two addresses compared. -/
theorem eql8 (w : World) (xs ys : List Nat) (hx : xs.length = 8) (hy : ys.length = 8) :
    (binOp .eql 83 (.agg (ncells xs).toArray) (.agg (ncells ys).toArray)).run Tryz.prog w = .ok (.bool (xs == ys)) w := by
  rw [run_eql_struct, run_equalIn_u16 w 9998 83 82 8 Tryz.underlying83 Tryz.underlying82 Tryz.sizeOf82 xs ys hx hy]
  rfl
/-- An address with itself. -/
theorem eql_self (f : Nat → Nat) (w : World) : (binOp .eql 83 (.agg #[.int .u16 (f 0 : Int), .int .u16 (f 1 : Int), .int .u16 (f 2 : Int), .int .u16 (f 3 : Int), .int .u16 (f 4 : Int), .int .u16 (f 5 : Int), .int .u16 (f 6 : Int), .int .u16 (f 7 : Int)]) (.agg #[.int .u16 (f 0 : Int), .int .u16 (f 1 : Int), .int .u16 (f 2 : Int), .int .u16 (f 3 : Int), .int .u16 (f 4 : Int), .int .u16 (f 5 : Int), .int .u16 (f 6 : Int), .int .u16 (f 7 : Int)])).run Tryz.prog w = .ok (.bool true) w := by
  have := eql8 w (V8 f) (V8 f) rfl rfl
  rw [beq_self_eq_true] at this
  exact this
theorem sixv_fun {V : List Nat} (h : V.length = 8) : ∃ f : Nat → Nat, V = V8 f := ⟨fun i => V.getD i 0, list8 h⟩
theorem demo_six : six [58, 58, 102, 102, 102, 102, 58, 49, 46, 50, 46, 51, 46, 52] = some [0, 0, 0, 0, 0, 65535, 258, 772] := by decide +kernel
theorem demo_prt : SixI.prt (fun _ => 0) = [58, 58] := by decide +kernel
end Go.Proofs.YtleecmapaihhmaaGreatDoor.SixM
namespace Go.Proofs.YtleecmapaihhmaaGreatDoor.SixJ
open Go.RowKit Go.Proofs.YtleecmapaihhmaaGreatDoor.Base Go.Proofs.YtleecmapaihhmaaGreatDoor.Base2 Go.Proofs.YtleecmapaihhmaaGreatDoor.QudP Go.Proofs.YtleecmapaihhmaaGreatDoor.SixG Go.Proofs.YtleecmapaihhmaaGreatDoor.SixH Go.Proofs.YtleecmapaihhmaaGreatDoor.SixI

theorem digs16_at (k : Nat) (hk : k < 16) : (⟨#[48, 49, 50, 51, 52, 53, 54, 55, 56, 57, 97, 98, 99, 100, 101, 102]⟩ : ByteArray).extract k (k + 1) = strOf [hexd k] := by
  have hcase : k = 0 ∨ k = 1 ∨ k = 2 ∨ k = 3 ∨ k = 4 ∨ k = 5 ∨ k = 6 ∨ k = 7 ∨ k = 8 ∨ k = 9 ∨ k = 10 ∨ k = 11 ∨ k = 12 ∨ k = 13 ∨ k = 14 ∨ k = 15 := by omega
  rcases hcase with rfl | rfl | rfl | rfl | rfl | rfl | rfl | rfl | rfl | rfl | rfl | rfl | rfl | rfl | rfl | rfl <;> rfl
set_option maxHeartbeats 1000000 in
set_option maxRecDepth 100000 in
theorem digits_any : ∀ (m n : Nat), n ≤ m → n < 65536 → ∀ w : World, Calls Tryz.prog 100 #[.int .u16 (n : Int)] w fun e w' => e = .returned (.string (strOf (hx n))) ∧ w = w' := by
  intro m
  induction m with
  | zero =>
    intro n hn hn6 w
    obtain rfl : n = 0 := by omega
    have hd := digs16_at 0 (by omega)
    go_enter Tryz.func100, Tryz.ntmps100
    go_wp2
    go_ret
    exact ⟨rfl, rfl⟩
  | succ m ih =>
    intro n hn hn6 w
    obtain ⟨r, hr⟩ : ∃ r, r = n % 16 := ⟨_, rfl⟩
    obtain ⟨q, hq⟩ : ∃ q, q = n / 16 := ⟨_, rfl⟩
    have htm : (n : Int).tmod 16 = (r : Int) := by rw [Int.tmod_eq_emod_of_nonneg (by omega)]; omega
    have htm2 : (n : Int) % 16 = (r : Int) := by omega
    have htd : (n : Int).tdiv 16 = (q : Int) := by rw [Int.tdiv_eq_ediv_of_nonneg (by omega)]; omega
    have htd2 : (n : Int) / 16 = (q : Int) := by omega
    have hr16 : r < 16 := by omega
    have hri : (r : Int) < 16 := by omega
    have hd := digs16_at r hr16
    have hq4 : q < 4096 := by omega
    have hwq : IntKind.u16.wrap (q : Int) = (q : Int) := by simp [IntKind.wrap, IntKind.signed, IntKind.bits]; omega
    by_cases h15 : 15 < n
    · have h15i : (15 : Int) < (n : Int) := by omega
      obtain ⟨Z, hZ⟩ : ∃ Z, Z = strOf (hx n) := ⟨_, rfl⟩
      have a1 : ∀ w : World, (Op.stringOp .add (strOf (hx q)) (strOf [hexd r])).run Tryz.prog w = .ok (.string Z) w := fun w => by
        rw [hZ, hx_big (by omega) hn6, hq, hr]
        refine str_add _ _ w ?_
        have := hx_len (n / 16)
        simp
        omega
      have HI : Hid (∀ w : World, Calls Tryz.prog 100 #[.int .u16 (q : Int)] w fun e w' => e = .returned (.string (strOf (hx q))) ∧ w = w') := ih q (by omega) (by omega)
      have HZ := hid hZ
      clear ih hr hq hZ h15 hn hn6 hq4
      go_enter Tryz.func100, Tryz.ntmps100
      go_wp2_with fail
      refine (HI.out _).mono ?_
      rintro e w2 ⟨rfl, hw2⟩
      subst hw2
      go_wp2
      go_ret
      exact ⟨by rw [← HZ.out]; rfl, rfl⟩
    · have h15i : ¬ (15 : Int) < (n : Int) := by omega
      have HE : Hid (hx n = [hexd r]) := by show _ = _; rw [hx_small (by omega), hr, show n % 16 = n by omega]
      clear ih hr hq h15 hn hn6 hq4
      go_enter Tryz.func100, Tryz.ntmps100
      go_wp2
      go_ret
      exact ⟨by rw [HE.out]; rfl, rfl⟩
end Go.Proofs.YtleecmapaihhmaaGreatDoor.SixJ
namespace Go.Proofs.YtleecmapaihhmaaGreatDoor.SixK
open Go.RowKit Go.Proofs.YtleecmapaihhmaaGreatDoor.Base Go.Proofs.YtleecmapaihhmaaGreatDoor.Base2 Go.Proofs.YtleecmapaihhmaaGreatDoor.SixA Go.Proofs.YtleecmapaihhmaaGreatDoor.SixB Go.Proofs.YtleecmapaihhmaaGreatDoor.SixC Go.Proofs.YtleecmapaihhmaaGreatDoor.SixF Go.Proofs.YtleecmapaihhmaaGreatDoor.SixG Go.Proofs.YtleecmapaihhmaaGreatDoor.SixH Go.Proofs.YtleecmapaihhmaaGreatDoor.SixI Go.Proofs.YtleecmapaihhmaaGreatDoor.SixJ

theorem jx_last1 (M : List Nat) (n : Nat) (h6 : n < 65536) : ∃ pre d, d < 16 ∧ jx (M ++ [n]) = pre ++ [hexd d] := by
  obtain ⟨pre, hp⟩ := hx_last n h6
  by_cases h2 : M = []
  · refine ⟨pre, n % 16, Nat.mod_lt _ (by decide), ?_⟩
    rw [h2, List.nil_append, jx_one, hp]
  · refine ⟨jx M ++ 58 :: pre, n % 16, Nat.mod_lt _ (by decide), ?_⟩
    rw [jx_snoc _ _ h2, hp]
    simp
theorem jx_last (L : List Nat) (h : L ≠ []) (h6 : ∀ x ∈ L, x < 65536) : ∃ pre d, d < 16 ∧ jx L = pre ++ [hexd d] := by
  have := jx_last1 L.dropLast (L.getLast h) (h6 _ (List.getLast_mem h))
  rwa [List.dropLast_concat_getLast h] at this
/-- What is written ahead of place k, with a gap from a to b. -/
def TT (L : List Nat) (a b k : Nat) : List UInt8 := if k ≤ a then jx (L.take k) else jx (L.take a) ++ [58, 58] ++ jx ((L.take k).drop b)
theorem TT_len (L : List Nat) (a b k : Nat) (h : L.length = 8) : (TT L a b k).length ≤ 100 := by
  unfold TT
  split
  · have := jx_len (L.take k)
    rw [List.length_take] at this
    omega
  · have h1 := jx_len (L.take a)
    have h2 := jx_len ((L.take k).drop b)
    rw [List.length_take] at h1
    rw [List.length_drop, List.length_take] at h2
    simp only [List.length_append, List.length_cons, List.length_nil]
    omega
theorem TT_snoc0 (L : List Nat) (a b : Nat) (x : Nat) (h0 : 0 < L.length) (hx' : L[0] = x) (ha : 0 < a) : TT L a b (0 + 1) = TT L a b 0 ++ hx x := by
  unfold TT
  rw [if_pos (by omega), if_pos (by omega), take_snocN L 0 h0, hx']
  rfl
theorem TT_snoc1 (L : List Nat) (a b k : Nat) (x : Nat) (hk : k < L.length) (hx' : L[k] = x) (h0 : 0 < k) (ha : k < a) : TT L a b (k + 1) = TT L a b k ++ [58] ++ hx x := by
  unfold TT
  rw [if_pos (by omega), if_pos (by omega), take_snocN L k hk, hx', jx_snoc]
  · simp
  · intro h
    have := congrArg List.length h
    rw [List.length_take, List.length_nil] at this
    omega
theorem TT_gap (L : List Nat) (a b : Nat) (hab : a < b) : TT L a b b = TT L a b a ++ [58, 58] := by
  unfold TT
  rw [if_neg (by omega), if_pos (Nat.le_refl _), List.drop_eq_nil_of_le (by rw [List.length_take]; omega), jx_nil, List.append_nil]
theorem TT_snocb (L : List Nat) (a b : Nat) (x : Nat) (hb : b < L.length) (hx' : L[b] = x) (hab : a < b) : TT L a b (b + 1) = TT L a b b ++ hx x := by
  unfold TT
  rw [if_neg (by omega), if_neg (by omega), take_snocN L b hb, hx', List.drop_append_of_le_length (by rw [List.length_take]; omega), List.drop_eq_nil_of_le (by rw [List.length_take]; omega), jx_nil, List.nil_append, jx_one]
  simp
theorem TT_snoc2 (L : List Nat) (a b k : Nat) (x : Nat) (hk : k < L.length) (hx' : L[k] = x) (hab : a < b) (hb : b < k) : TT L a b (k + 1) = TT L a b k ++ [58] ++ hx x := by
  unfold TT
  rw [if_neg (by omega), if_neg (by omega), take_snocN L k hk, hx', List.drop_append_of_le_length (by rw [List.length_take]; omega), jx_snoc]
  · simp
  · intro h
    have := congrArg List.length h
    rw [List.length_drop, List.length_take, List.length_nil] at this
    omega
theorem TT_last (L : List Nat) (a b k : Nat) (h6 : ∀ x ∈ L, x < 65536) (hk : k ≤ L.length) (h : (0 < k ∧ k ≤ a) ∨ (a < b ∧ b < k)) : ∃ pre d, d < 16 ∧ TT L a b k = pre ++ [hexd d] := by
  unfold TT
  rcases h with ⟨h0, h1⟩ | ⟨h0, h1⟩
  · rw [if_pos h1]
    refine jx_last _ ?_ (fun x hx => h6 x (List.mem_of_mem_take hx))
    intro h
    have := congrArg List.length h
    rw [List.length_take, List.length_nil] at this
    omega
  · rw [if_neg (by omega)]
    obtain ⟨pre, d, hd, e⟩ := jx_last ((L.take k).drop b) (by
      intro h
      have := congrArg List.length h
      rw [List.length_drop, List.length_take, List.length_nil] at this
      omega) (fun x hx => h6 x (List.mem_of_mem_take (List.mem_of_mem_drop hx)))
    exact ⟨jx (L.take a) ++ [58, 58] ++ pre, d, hd, by rw [e]; simp⟩
theorem TT_none (L : List Nat) (h : L.length = 8) : TT L 8 9 8 = jx L := by
  unfold TT
  rw [if_pos (by omega), List.take_of_length_le (by omega)]
theorem TT_some (L : List Nat) (a b : Nat) (h : L.length = 8) (hab : a < b) (hb : b ≤ 8) : TT L a b 8 = jx (L.take a) ++ [58, 58] ++ jx (L.drop b) := by
  unfold TT
  rw [if_neg (by omega), List.take_of_length_le (show L.length ≤ 8 by omega)]
/-- The last byte of a text. -/
theorem last_at (X : ByteArray) (pre : List UInt8) (c : UInt8) (h : X = strOf (pre ++ [c])) : ∃ j : Nat, (X.size : Int) - 1 = (j : Int) ∧ (j : Int) < (X.size : Int) ∧ ∃ hj : j < X.size, X[j] = c := by
  subst h
  refine ⟨pre.length, ?_, ?_, ?_, ?_⟩
  · rw [size_strOf, List.length_append]; simp
  · rw [size_strOf, List.length_append]; show (pre.length : Int) < ((pre.length + 1 : Nat) : Int); omega
  · rw [size_strOf, List.length_append]; simp
  · show (pre ++ [c])[pre.length] = c
    simp
set_option linter.unusedSimpArgs false in
set_option maxRecDepth 100000 in
set_option maxHeartbeats 8000000 in
theorem print_any (f : Nat → Nat) (h6 : ∀ i, f i < 65536) (w : World) : Calls Tryz.prog 72 #[A8 f] w fun e w' => e = .returned (.string (strOf (prt f))) ∧ Below w.heap.size w w' := by
  obtain ⟨P, hP⟩ : ∃ P, P = prt f := ⟨_, rfl⟩
  rw [← hP]
  have hfct := lng_facts (f 0 == 0) (f 1 == 0) (f 2 == 0) (f 3 == 0) (f 4 == 0) (f 5 == 0) (f 6 == 0) (f 7 == 0)
  obtain ⟨_, hb8, _, hrr⟩ := hfct
  replace hb8 : (lng (zs f)).2 ≤ 8 := hb8
  replace hrr : lngR (zs f) = if (lng (zs f)).2 - (lng (zs f)).1 < 2 then (none, 1) else (some (lng (zs f)).1, (lng (zs f)).2 - (lng (zs f)).1) := hrr
  have H6 := hid h6
  have HM6 := hid (V8_mem h6)
  unfold prt at hP
  obtain ⟨a, ha⟩ : ∃ a, a = (lng (zs f)).1 := ⟨_, rfl⟩
  obtain ⟨b, hb⟩ : ∃ b, b = (lng (zs f)).2 := ⟨_, rfl⟩
  rw [← ha, ← hb] at hP hrr
  rw [← hb] at hb8
  obtain ⟨Z, hZ⟩ : ∃ Z, Z = zs f := ⟨_, rfl⟩
  rw [← hZ] at hrr
  have HZ := hid hZ
  have HZL : Hid (Z.length = 8) := by show _ = _; rw [hZ]; rfl
  have HP := hid hP
  have HRR := hid hrr
  have HB8 := hid hb8
  clear hZ ha hb hP hrr hb8 h6
  have HVL : Hid ((V8 f).length = 8) := rfl
  unfold A8
  go_enter Tryz.func72, Tryz.ntmps72
  go_upto_region 1 with (fail)
  generalize hw1 : w.alloc _ = w1
  have HB1 : Hid (Below w.heap.size w w1) := by
    show Below _ _ _
    rw [← hw1]
    exact (Below.refl _ _).alloc (Nat.le_refl _) _
  have HX1 : Hid (Box w1 w.heap.size 83 (V8 f)) := by
    show Box _ _ _ _
    rw [← hw1]
    exact box_new f
  clear hw1
  go_wp2
  go_loopw [3, 4, 5, 6, 9] (fun vf vl _ _ vk wr => ∃ (fu k lg : Nat) (fr : Option Nat), vk = .int .i64 (k : Int) ∧ vf = .int .i64 (gapV fr) ∧ vl = .int .i64 (lg : Int) ∧ fu + k = 8 ∧ lg ≤ 8 ∧ wr = w1 ∧ Hid (lngR Z = goR Z fu k fr lg)) (fun _ _ _ _ vk _ => 8 - (intOf vk).toNat)
  case atStart => exact ⟨8, 0, 1, none, rfl, rfl, rfl, rfl, by omega, rfl, rfl⟩
  case round =>
    obtain ⟨fu, k, lg, fr, rfl, rfl, rfl, hfu, hlg, rfl, HW⟩ := hrel
    by_cases hlt : k < 8
    · obtain ⟨fu', rfl⟩ : ∃ fu', fu = fu' + 1 := ⟨fu - 1, by omega⟩
      obtain ⟨G, hG⟩ : ∃ G, G = gapV fr := ⟨_, rfl⟩
      rw [← hG]
      have HGV := hid hG
      have HFU := hid hfu
      clear hG hfu
      go_wp2
      go_loopw [6] (fun vn wx => ∃ n : Nat, k + n ≤ 8 ∧ vn = .int .i64 (n : Int) ∧ wx = wr ∧ Hid (run Z k = n + run Z (k + n))) (fun vn _ => 8 - (intOf vn).toNat)
      case atStart => exact ⟨0, by omega, rfl, rfl, by show _ = _; rw [Nat.add_zero]; omega⟩
      case round =>
        obtain ⟨n, hn8, rfl, rfl, HR⟩ := hrel
        by_cases hk : k + n < 8
        · have hc0 := HX1.out.cell (k + n) (by show k + n < 8; exact hk)
          rw [V8_get f (k + n) hk] at hc0
          have hzk : Z[k + n]'(by rw [HZL.out]; exact hk) = (f (k + n) == 0) := by
            have := zs_get f (k + n) hk (by rw [zs_length]; exact hk)
            simp only [HZ.out]
            exact this
          have HZK := hid hzk
          obtain ⟨x, hx⟩ : ∃ x, f (k + n) = x := ⟨_, rfl⟩
          rw [hx] at hc0 HZK
          have hk8i : (k : Int) + (n : Int) < 8 := by omega
          clear hx hzk
          by_cases hx0 : x = 0
          · subst hx0
            have HR2 : Hid (run Z k = (n + 1) + run Z (k + (n + 1))) := by
              show _ = _
              rw [HR.out, run_zero (by rw [HZL.out]; exact hk) (by rw [HZK.out]; rfl), show k + n + 1 = k + (n + 1) by omega]
              omega
            rw [show ((0 : Nat) : Int) = 0 from rfl] at hc0
            go_wp2
            go_roundw
            case rel => exact ⟨n + 1, by omega, by go_num, by first | rfl | trivial, HR2.out⟩
            case measure => simp [intOf]; omega
          · have hxb : ((x : Int) == 0) = false := by rw [bool_nat]; simpa using hx0
            have hxn : ¬ (x : Int) = 0 := by omega
            have HRE : Hid (run Z k = n) := by
              show _ = _
              rw [HR.out, run_nz (by rw [HZL.out]; exact hk) (by rw [HZK.out]; simpa using hx0)]
              rfl
            clear hx0
            by_cases hgt : lg < n
            · have HW2 : Hid (lngR Z = goR Z fu' (k + 1) (some k) n) := by
                show _ = _
                rw [HW.out]
                conv => lhs; unfold goR
                rw [if_pos (by rw [HZL.out]; exact hlt), HRE.out, if_pos hgt]
              have hgi : (lg : Int) < (n : Int) := by omega
              clear hgt
              go_wp2
              go_roundw
              case rel => exact ⟨fu', k + 1, n, some k, by go_num, rfl, rfl, by have := HFU.out; omega, by omega, by first | rfl | trivial, HW2.out⟩
              case measure => simp [intOf]; omega
            · have HW2 : Hid (lngR Z = goR Z fu' (k + 1) fr lg) := by
                show _ = _
                rw [HW.out]
                conv => lhs; unfold goR
                rw [if_pos (by rw [HZL.out]; exact hlt), HRE.out, if_neg hgt]
              have hgi : ¬ (lg : Int) < (n : Int) := by omega
              clear hgt
              go_wp2
              go_roundw
              case rel => exact ⟨fu', k + 1, lg, fr, by go_num, by rw [HGV.out], rfl, by have := HFU.out; omega, by omega, by first | rfl | trivial, HW2.out⟩
              case measure => simp [intOf]; omega
        · have hk8i : ¬ (k : Int) + (n : Int) < 8 := by omega
          have HRE : Hid (run Z k = n) := by show _ = _; rw [HR.out, run_end (by rw [HZL.out]; omega)]; rfl
          by_cases hgt : lg < n
          · have HW2 : Hid (lngR Z = goR Z fu' (k + 1) (some k) n) := by
              show _ = _
              rw [HW.out]
              conv => lhs; unfold goR
              rw [if_pos (by rw [HZL.out]; exact hlt), HRE.out, if_pos hgt]
            have hgi : (lg : Int) < (n : Int) := by omega
            clear hgt
            go_wp2
            go_roundw
            case rel => exact ⟨fu', k + 1, n, some k, by go_num, rfl, rfl, by have := HFU.out; omega, by omega, by first | rfl | trivial, HW2.out⟩
            case measure => simp [intOf]; omega
          · have HW2 : Hid (lngR Z = goR Z fu' (k + 1) fr lg) := by
              show _ = _
              rw [HW.out]
              conv => lhs; unfold goR
              rw [if_pos (by rw [HZL.out]; exact hlt), HRE.out, if_neg hgt]
            have hgi : ¬ (lg : Int) < (n : Int) := by omega
            clear hgt
            go_wp2
            go_roundw
            case rel => exact ⟨fu', k + 1, lg, fr, by go_num, by rw [HGV.out], rfl, by have := HFU.out; omega, by omega, by first | rfl | trivial, HW2.out⟩
            case measure => simp [intOf]; omega
    · obtain rfl : k = 8 := by omega
      obtain rfl : fu = 0 := by omega
      have HRE : Hid (lngR Z = (fr, lg)) := HW.out
      have hpr : (fr, lg) = if b - a < 2 then (none, 1) else (some a, b - a) := by rw [← HRE.out, HRR.out]
      by_cases hba : b - a < 2
      · rw [if_pos hba] at hpr
        injection hpr with hp1 hp2
        subst hp1
        subst hp2
        have HPE : Hid (P = jx (V8 f)) := by show _ = _; rw [HP.out, if_pos hba]
        rw [show gapV none = -1 from rfl, show ((1 : Nat) : Int) = 1 from rfl, show ((8 : Nat) : Int) = 8 from rfl]
        clear hba hlg hfu hlt
        go_wp2
        go_loopw [7, 8] (fun vo vk wx => ∃ (k : Nat) (X : ByteArray), k ≤ 8 ∧ vk = .int .i64 (k : Int) ∧ vo = .string X ∧ wx = wr ∧ Hid (X = strOf (TT (V8 f) 8 9 k))) (fun _ vk _ => 8 - (intOf vk).toNat)
        case atStart => exact ⟨0, ⟨#[]⟩, by omega, rfl, rfl, rfl, rfl⟩
        case round =>
          obtain ⟨k, X, hk8, rfl, rfl, rfl, HX⟩ := hrel
          have hkm : ((k : Int) == -1) = false := by rw [beq_eq_false_iff_ne]; omega
          have hkm2 : ¬ (k : Int) = -1 := by omega
          by_cases hk : k < 8
          · by_cases hk0 : k = 0
            · have HK0 := hid hk0
              have hk1 : ¬ (0 : Int) < (k : Int) := by omega
              clear hk0
              obtain ⟨x, hfx⟩ : ∃ x, f k = x := ⟨_, rfl⟩
              have hc0 := HX1.out.cell k (by show k < 8; exact hk)
              rw [V8_get f k hk, hfx] at hc0
              have HX6 : Hid (x < 65536) := by show _ < _; rw [← hfx]; exact H6.out k
              have HVX : Hid ((V8 f)[k]'(by show k < 8; exact hk) = x) := by show _ = _; rw [V8_get f k hk, hfx]
              obtain ⟨Z2, hZ2⟩ : ∃ Z2, Z2 = strOf (TT (V8 f) 8 9 (k + 1)) := ⟨_, rfl⟩
              have hsn := (show TT (V8 f) 8 9 (k + 1) = TT (V8 f) 8 9 k ++ hx x by have := TT_snoc0 (V8 f) 8 9 x (by show 0 < 8; omega) (by have := HVX.out; simp only [HK0.out] at this; exact this) (by omega); rw [HK0.out]; exact this)
              have hhl := hx_len x
              have htl := TT_len (V8 f) 8 9 k HVL.out
              have HZ2 := hid hZ2
              have a2 : ∀ w : World, (Op.stringOp .add X (strOf (hx x))).run Tryz.prog w = .ok (.string Z2) w := fun w => by
                rw [hZ2, hsn, HX.out]
                exact str_add _ _ w (by omega)
              clear hfx hZ2 hsn hhl htl
              go_wp2_with fail
              refine (digits_any x x (Nat.le_refl _) HX6.out _).mono ?_
              rintro e w2 ⟨rfl, hw2⟩
              subst hw2
              go_wp2
              go_roundw
              case rel => exact ⟨k + 1, Z2, by omega, by go_num, rfl, by first | rfl | trivial, HZ2.out⟩
              case measure => simp [intOf]; omega
            · have hk1 : (0 : Int) < (k : Int) := by omega
              have hkp : 0 < k := by omega
              clear hk0
              obtain ⟨x, hfx⟩ : ∃ x, f k = x := ⟨_, rfl⟩
              have hc0 := HX1.out.cell k (by show k < 8; exact hk)
              rw [V8_get f k hk, hfx] at hc0
              have HX6 : Hid (x < 65536) := by show _ < _; rw [← hfx]; exact H6.out k
              have HVX : Hid ((V8 f)[k]'(by show k < 8; exact hk) = x) := by show _ = _; rw [V8_get f k hk, hfx]
              obtain ⟨Z2, hZ2⟩ : ∃ Z2, Z2 = strOf (TT (V8 f) 8 9 (k + 1)) := ⟨_, rfl⟩
              have hsn := TT_snoc1 (V8 f) 8 9 k x (by show k < 8; exact hk) HVX.out hkp hk
              have hhl := hx_len x
              have htl := TT_len (V8 f) 8 9 k HVL.out
              have HZ2 := hid hZ2
              obtain ⟨pre, d, hd16, hpre⟩ := TT_last (V8 f) 8 9 k HM6.out (by show k ≤ 8; omega) (.inl ⟨hkp, hk8⟩)
              obtain ⟨j, hj1, hj2, hj3, hj4⟩ := last_at X pre (hexd d) (by rw [HX.out, hpre])
              have hdo := hexd_ok d hd16
              obtain ⟨c, hcc⟩ : ∃ c, c = hexd d := ⟨_, rfl⟩
              rw [← hcc] at hj4 hdo
              have hc58 : ((c.toNat : Int) == 58) = false := by
                rw [beq_eq_false_iff_ne]
                intro e
                exact hdo.2.2.1 (UInt8.toNat_inj.1 (by show _ = 58; omega))
              have hc58n : ¬ (c.toNat : Int) = 58 := by simpa using hc58
              have hc58m : ((c.toNat : Int) != 58) = true := by rw [bne, hc58]; rfl
              obtain ⟨Y, hY⟩ : ∃ Y, Y = strOf (TT (V8 f) 8 9 k ++ [58]) := ⟨_, rfl⟩
              have a1 : ∀ w : World, (Op.stringOp .add X ⟨#[58]⟩).run Tryz.prog w = .ok (.string Y) w := fun w => by
                rw [hY, HX.out]
                exact str_add _ [58] w (by simp; omega)
              have a2 : ∀ w : World, (Op.stringOp .add Y (strOf (hx x))).run Tryz.prog w = .ok (.string Z2) w := fun w => by
                rw [hZ2, hsn, hY]
                exact str_add _ _ w (by rw [List.length_append]; simp; omega)
              have hj0 : (0 : Int) ≤ (j : Int) := by omega
              have hxs : X.size ≤ 200 := by rw [HX.out, size_strOf]; omega
              have hjb : (j : Int) ≤ 200 := by omega
              clear hxs
              clear hpre hdo hcc hY
              clear hfx hZ2 hsn hhl htl
              go_wp2_with fail
              refine (digits_any x x (Nat.le_refl _) HX6.out _).mono ?_
              rintro e w2 ⟨rfl, hw2⟩
              subst hw2
              go_wp2
              go_roundw
              case rel => exact ⟨k + 1, Z2, by omega, by go_num, rfl, by first | rfl | trivial, HZ2.out⟩
              case measure => simp [intOf]; omega
          · obtain rfl : k = 8 := by omega
            have HE : Hid (X = strOf P) := by show _ = _; rw [HX.out, HPE.out, TT_none _ HVL.out]
            go_wp2
            go_ret
            exact ⟨by rw [HE.out]; rfl, HB1.out⟩
      · rw [if_neg hba] at hpr
        injection hpr with hp1 hp2
        subst hp1
        have HPE : Hid (P = jx ((V8 f).take a) ++ [58, 58] ++ jx ((V8 f).drop b)) := by show _ = _; rw [HP.out, if_neg hba]
        rw [show gapV (some a) = (a : Int) from rfl, show ((8 : Nat) : Int) = 8 from rfl]
        have hb8 := HB8.out
        have hab : a < b := by omega
        have hlb : a + lg = b := by omega
        clear hba hp2 hlg hfu hlt
        go_wp2
        go_loopw [7, 8] (fun vo vk wx => ∃ (k : Nat) (X : ByteArray), k ≤ 8 ∧ (k ≤ a ∨ b ≤ k) ∧ vk = .int .i64 (k : Int) ∧ vo = .string X ∧ wx = wr ∧ Hid (X = strOf (TT (V8 f) a b k))) (fun _ vk _ => 8 - (intOf vk).toNat)
        case atStart => exact ⟨0, ⟨#[]⟩, by omega, by omega, rfl, rfl, rfl, by show _ = _; unfold TT; rw [if_pos (Nat.zero_le _)]; rfl⟩
        case round =>
          obtain ⟨k, X, hk8, hkab, rfl, rfl, rfl, HX⟩ := hrel
          by_cases hk : k < 8
          · by_cases hka : k = a
            · have HKA := hid hka
              have hkb : ((k : Int) == (a : Int)) = true := by simp; omega
              have htl := TT_len (V8 f) a b a HVL.out
              obtain ⟨Z2, hZ2⟩ : ∃ Z2, Z2 = strOf (TT (V8 f) a b b) := ⟨_, rfl⟩
              have HZ2 := hid hZ2
              have a1 : ∀ w : World, (Op.stringOp .add X ⟨#[58, 58]⟩).run Tryz.prog w = .ok (.string Z2) w := fun w => by
                rw [hZ2, TT_gap _ _ _ hab, HX.out, HKA.out]
                exact str_add _ [58, 58] w (by simp; omega)
              have HKL : Hid ((k : Int) + (lg : Int) - 1 + 1 = (b : Int)) := by show _ = _; omega
              have hlg0 : (1 : Int) ≤ (lg : Int) := by omega
              have hlg8 : (lg : Int) ≤ 8 := by omega
              have HKLT : Hid (k < b) := by show _ < _; omega
              clear hka hZ2 htl hkab
              go_wp2
              go_roundw
              case rel => exact ⟨b, Z2, hb8, .inr (Nat.le_refl _), by first | exact int_eq HKL.out | (have := HKL.out; go_num) | (congr 1; have := HKL.out; omega), rfl, by first | rfl | trivial, HZ2.out⟩
              case measure => (have := HKL.out; have := HKLT.out; simp [intOf]; omega)
            · have hkb : ((k : Int) == (a : Int)) = false := by rw [beq_eq_false_iff_ne]; omega
              have hkb2 : ¬ (k : Int) = (a : Int) := by omega
              by_cases hlo : k < a
              · by_cases hk0 : k = 0
                · have HK0 := hid hk0
                  have hk1 : ¬ (0 : Int) < (k : Int) := by omega
                  have ha0 : 0 < a := by omega
                  clear hk0 hka
                  obtain ⟨x, hfx⟩ : ∃ x, f k = x := ⟨_, rfl⟩
                  have hc0 := HX1.out.cell k (by show k < 8; exact hk)
                  rw [V8_get f k hk, hfx] at hc0
                  have HX6 : Hid (x < 65536) := by show _ < _; rw [← hfx]; exact H6.out k
                  have HVX : Hid ((V8 f)[k]'(by show k < 8; exact hk) = x) := by show _ = _; rw [V8_get f k hk, hfx]
                  obtain ⟨Z2, hZ2⟩ : ∃ Z2, Z2 = strOf (TT (V8 f) a b (k + 1)) := ⟨_, rfl⟩
                  have hsn := (show TT (V8 f) a b (k + 1) = TT (V8 f) a b k ++ hx x by have := TT_snoc0 (V8 f) a b x (by show 0 < 8; omega) (by have := HVX.out; simp only [HK0.out] at this; exact this) ha0; rw [HK0.out]; exact this)
                  have hhl := hx_len x
                  have htl := TT_len (V8 f) a b k HVL.out
                  have HZ2 := hid hZ2
                  have a2 : ∀ w : World, (Op.stringOp .add X (strOf (hx x))).run Tryz.prog w = .ok (.string Z2) w := fun w => by
                    rw [hZ2, hsn, HX.out]
                    exact str_add _ _ w (by omega)
                  clear hfx hZ2 hsn hhl htl
                  go_wp2_with fail
                  refine (digits_any x x (Nat.le_refl _) HX6.out _).mono ?_
                  rintro e w2 ⟨rfl, hw2⟩
                  subst hw2
                  go_wp2
                  go_roundw
                  case rel => exact ⟨k + 1, Z2, by omega, .inl (by omega), by go_num, rfl, by first | rfl | trivial, HZ2.out⟩
                  case measure => simp [intOf]; omega
                · have hk1 : (0 : Int) < (k : Int) := by omega
                  have hkp : 0 < k := by omega
                  clear hk0 hka
                  obtain ⟨x, hfx⟩ : ∃ x, f k = x := ⟨_, rfl⟩
                  have hc0 := HX1.out.cell k (by show k < 8; exact hk)
                  rw [V8_get f k hk, hfx] at hc0
                  have HX6 : Hid (x < 65536) := by show _ < _; rw [← hfx]; exact H6.out k
                  have HVX : Hid ((V8 f)[k]'(by show k < 8; exact hk) = x) := by show _ = _; rw [V8_get f k hk, hfx]
                  obtain ⟨Z2, hZ2⟩ : ∃ Z2, Z2 = strOf (TT (V8 f) a b (k + 1)) := ⟨_, rfl⟩
                  have hsn := TT_snoc1 (V8 f) a b k x (by show k < 8; exact hk) HVX.out hkp hlo
                  have hhl := hx_len x
                  have htl := TT_len (V8 f) a b k HVL.out
                  have HZ2 := hid hZ2
                  obtain ⟨pre, d, hd16, hpre⟩ := TT_last (V8 f) a b k HM6.out (by show k ≤ 8; omega) (.inl ⟨hkp, by omega⟩)
                  obtain ⟨j, hj1, hj2, hj3, hj4⟩ := last_at X pre (hexd d) (by rw [HX.out, hpre])
                  have hdo := hexd_ok d hd16
                  obtain ⟨c, hcc⟩ : ∃ c, c = hexd d := ⟨_, rfl⟩
                  rw [← hcc] at hj4 hdo
                  have hc58 : ((c.toNat : Int) == 58) = false := by
                    rw [beq_eq_false_iff_ne]
                    intro e
                    exact hdo.2.2.1 (UInt8.toNat_inj.1 (by show _ = 58; omega))
                  have hc58n : ¬ (c.toNat : Int) = 58 := by simpa using hc58
                  have hc58m : ((c.toNat : Int) != 58) = true := by rw [bne, hc58]; rfl
                  obtain ⟨Y, hY⟩ : ∃ Y, Y = strOf (TT (V8 f) a b k ++ [58]) := ⟨_, rfl⟩
                  have a1 : ∀ w : World, (Op.stringOp .add X ⟨#[58]⟩).run Tryz.prog w = .ok (.string Y) w := fun w => by
                    rw [hY, HX.out]
                    exact str_add _ [58] w (by simp; omega)
                  have a2 : ∀ w : World, (Op.stringOp .add Y (strOf (hx x))).run Tryz.prog w = .ok (.string Z2) w := fun w => by
                    rw [hZ2, hsn, hY]
                    exact str_add _ _ w (by rw [List.length_append]; simp; omega)
                  have hj0 : (0 : Int) ≤ (j : Int) := by omega
                  have hxs : X.size ≤ 200 := by rw [HX.out, size_strOf]; omega
                  have hjb : (j : Int) ≤ 200 := by omega
                  clear hxs
                  clear hpre hdo hcc hY
                  clear hfx hZ2 hsn hhl htl
                  go_wp2_with fail
                  refine (digits_any x x (Nat.le_refl _) HX6.out _).mono ?_
                  rintro e w2 ⟨rfl, hw2⟩
                  subst hw2
                  go_wp2
                  go_roundw
                  case rel => exact ⟨k + 1, Z2, by omega, .inl (by omega), by go_num, rfl, by first | rfl | trivial, HZ2.out⟩
                  case measure => simp [intOf]; omega
              · have hbk : b ≤ k := by omega
                have hk1 : (0 : Int) < (k : Int) := by omega
                by_cases hke : k = b
                · have HKE := hid hke
                  clear hke hka hlo
                  obtain ⟨x, hfx⟩ : ∃ x, f k = x := ⟨_, rfl⟩
                  have hc0 := HX1.out.cell k (by show k < 8; exact hk)
                  rw [V8_get f k hk, hfx] at hc0
                  have HX6 : Hid (x < 65536) := by show _ < _; rw [← hfx]; exact H6.out k
                  have HVX : Hid ((V8 f)[k]'(by show k < 8; exact hk) = x) := by show _ = _; rw [V8_get f k hk, hfx]
                  obtain ⟨Z2, hZ2⟩ : ∃ Z2, Z2 = strOf (TT (V8 f) a b (k + 1)) := ⟨_, rfl⟩
                  have hsn := (show TT (V8 f) a b (k + 1) = TT (V8 f) a b k ++ hx x by have := TT_snocb (V8 f) a b x (by rw [← HKE.out]; show k < 8; exact hk) (by have := HVX.out; simp only [HKE.out] at this; exact this) hab; rw [HKE.out]; exact this)
                  have hhl := hx_len x
                  have htl := TT_len (V8 f) a b k HVL.out
                  have HZ2 := hid hZ2
                  obtain ⟨pre, hpre⟩ : ∃ pre, TT (V8 f) a b k = pre ++ [58] := ⟨TT (V8 f) a b a ++ [58], by rw [HKE.out, TT_gap _ _ _ hab]; simp⟩
                  obtain ⟨c, hcc⟩ : ∃ c : UInt8, c = 58 := ⟨_, rfl⟩
                  obtain ⟨j, hj1, hj2, hj3, hj4⟩ := last_at X pre c (by rw [HX.out, hpre, hcc])
                  have hc58 : ((c.toNat : Int) == 58) = true := by rw [hcc]; rfl
                  have hc58m : ((c.toNat : Int) != 58) = false := by rw [hcc]; rfl
                  clear hcc
                  have a2 : ∀ w : World, (Op.stringOp .add X (strOf (hx x))).run Tryz.prog w = .ok (.string Z2) w := fun w => by
                    rw [hZ2, hsn, HX.out]
                    exact str_add _ _ w (by omega)
                  have hj0 : (0 : Int) ≤ (j : Int) := by omega
                  have hxs : X.size ≤ 200 := by rw [HX.out, size_strOf]; omega
                  have hjb : (j : Int) ≤ 200 := by omega
                  clear hxs
                  clear hpre
                  clear hfx hZ2 hsn hhl htl
                  go_wp2_with fail
                  refine (digits_any x x (Nat.le_refl _) HX6.out _).mono ?_
                  rintro e w2 ⟨rfl, hw2⟩
                  subst hw2
                  go_wp2
                  go_roundw
                  case rel => exact ⟨k + 1, Z2, by omega, .inr (by omega), by go_num, rfl, by first | rfl | trivial, HZ2.out⟩
                  case measure => simp [intOf]; omega
                · have hbk2 : b < k := by omega
                  clear hke hka hlo
                  obtain ⟨x, hfx⟩ : ∃ x, f k = x := ⟨_, rfl⟩
                  have hc0 := HX1.out.cell k (by show k < 8; exact hk)
                  rw [V8_get f k hk, hfx] at hc0
                  have HX6 : Hid (x < 65536) := by show _ < _; rw [← hfx]; exact H6.out k
                  have HVX : Hid ((V8 f)[k]'(by show k < 8; exact hk) = x) := by show _ = _; rw [V8_get f k hk, hfx]
                  obtain ⟨Z2, hZ2⟩ : ∃ Z2, Z2 = strOf (TT (V8 f) a b (k + 1)) := ⟨_, rfl⟩
                  have hsn := TT_snoc2 (V8 f) a b k x (by show k < 8; exact hk) HVX.out hab hbk2
                  have hhl := hx_len x
                  have htl := TT_len (V8 f) a b k HVL.out
                  have HZ2 := hid hZ2
                  obtain ⟨pre, d, hd16, hpre⟩ := TT_last (V8 f) a b k HM6.out (by show k ≤ 8; omega) (.inr ⟨hab, hbk2⟩)
                  obtain ⟨j, hj1, hj2, hj3, hj4⟩ := last_at X pre (hexd d) (by rw [HX.out, hpre])
                  have hdo := hexd_ok d hd16
                  obtain ⟨c, hcc⟩ : ∃ c, c = hexd d := ⟨_, rfl⟩
                  rw [← hcc] at hj4 hdo
                  have hc58 : ((c.toNat : Int) == 58) = false := by
                    rw [beq_eq_false_iff_ne]
                    intro e
                    exact hdo.2.2.1 (UInt8.toNat_inj.1 (by show _ = 58; omega))
                  have hc58n : ¬ (c.toNat : Int) = 58 := by simpa using hc58
                  have hc58m : ((c.toNat : Int) != 58) = true := by rw [bne, hc58]; rfl
                  obtain ⟨Y, hY⟩ : ∃ Y, Y = strOf (TT (V8 f) a b k ++ [58]) := ⟨_, rfl⟩
                  have a1 : ∀ w : World, (Op.stringOp .add X ⟨#[58]⟩).run Tryz.prog w = .ok (.string Y) w := fun w => by
                    rw [hY, HX.out]
                    exact str_add _ [58] w (by simp; omega)
                  have a2 : ∀ w : World, (Op.stringOp .add Y (strOf (hx x))).run Tryz.prog w = .ok (.string Z2) w := fun w => by
                    rw [hZ2, hsn, hY]
                    exact str_add _ _ w (by rw [List.length_append]; simp; omega)
                  have hj0 : (0 : Int) ≤ (j : Int) := by omega
                  have hxs : X.size ≤ 200 := by rw [HX.out, size_strOf]; omega
                  have hjb : (j : Int) ≤ 200 := by omega
                  clear hxs
                  clear hpre hdo hcc hY
                  clear hfx hZ2 hsn hhl htl
                  go_wp2_with fail
                  refine (digits_any x x (Nat.le_refl _) HX6.out _).mono ?_
                  rintro e w2 ⟨rfl, hw2⟩
                  subst hw2
                  go_wp2
                  go_roundw
                  case rel => exact ⟨k + 1, Z2, by omega, .inr (by omega), by go_num, rfl, by first | rfl | trivial, HZ2.out⟩
                  case measure => simp [intOf]; omega
          · obtain rfl : k = 8 := by omega
            have HE : Hid (X = strOf P) := by show _ = _; rw [HX.out, HPE.out, TT_some _ _ _ HVL.out hab hb8]
            go_wp2
            go_ret
            exact ⟨by rw [HE.out]; rfl, HB1.out⟩
end Go.Proofs.YtleecmapaihhmaaGreatDoor.SixK
