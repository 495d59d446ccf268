/- Texts that belong together: HstE. -/
import Derived.Test.YtmdofbccebkbiaaGreatDoorMF
import Derived.Test.YtmdofbccebkbiaaGreatDoorMD
import Derived.Test.YtmdofbccebkbiaaGreatDoorMO
set_option linter.unusedSimpArgs false
set_option linter.unusedVariables false
set_option maxRecDepth 100000
set_option maxHeartbeats 64000000
namespace Go.Proofs.YtmdofbccebkbiaaGreatDoor.HstE
open Go.RowKit Base aT iT mX rH GU eF lI Md lJ uY Oo LW wR
theorem str_nil {s : ByteArray} (h : s.size = 0) : s.toList = [] := by
 rw [Lib.toList_data]
 exact List.eq_nil_of_length_eq_zero (by rw [Array.length_toList]; exact h)
theorem RS (s : ByteArray) (h : 0 < s.size) (hh : ¬ s.data.toList.head? = some 91) : (s.toList == []) = false ∧ s.toList.isEmpty = false ∧ ¬ s.toList = [] ∧ ∃ x : UInt8, s[0] = x ∧ ((x.toNat : Int) == 91) = false ∧ ¬ (x.toNat : Int) = 91 := by
 have hl : s.data.toList.length = s.size := Array.length_toList
 obtain ⟨a, r, hM⟩ : ∃ a r, s.data.toList = a :: r := by
  cases e : s.data.toList with
  | nil => rw [e] at hl; simp at hl; omega
  | cons a r => exact ⟨a, r, rfl⟩
 have hs0 : s[0] = a := by
  have : s.data.toList[0]'(by omega) = s[0] := rfl
  rw [← this]
  simp only [hM, List.getElem_cons_zero]
 have ha : a ≠ 91 := by
  intro e
  rw [hM, e] at hh
  exact hh rfl
 have hn : ¬ (a.toNat : Int) = 91 := fun e => ha (UInt8.toNat_inj.1 (by show _ = 91; omega))
 rw [Lib.toList_data, hM]
 exact ⟨rfl, rfl, by simp, a, hs0, by rw [beq_eq_false_iff_ne]; exact hn, hn⟩
theorem ZQ (s : ByteArray) (w : World) (hs : s.size ≤ 900000) (hh : ¬ s.data.toList.head? = some 91) : Calls Tryz.prog 203 #[.string s, .bool true] w fun e w' => e = .returned (HV (hst s.data.toList true)) ∧ Below w.heap.size w w' := by
 have hl : s.data.toList.length = s.size := Array.length_toList
 have zO := hid hl
 obtain ⟨H, hH⟩ : ∃ H, H = HV (hst s.data.toList true) := ⟨_, rfl⟩
 rw [← hH]
 have Ud := hid hs
 clear hl
 have hH2 : H = HV (if oks true (lower (fA.dec s.data.toList)) = true then MQ (lower (fA.dec s.data.toList)) else none) := by
  rw [hH]
  unfold hst
  rw [if_neg hh, if_pos rfl]
  unfold RH
  rw [KZ]
 obtain ⟨D, hD⟩ : ∃ D : ByteArray, D = strOf (fA.dec s.data.toList) := ⟨_, rfl⟩
 obtain ⟨M, hM⟩ : ∃ M : ByteArray, M = strOf (lower D.data.toList) := ⟨_, rfl⟩
 have hDd : fA.dec s.data.toList = D.data.toList := by rw [hD]; rfl
 have hMd : lower D.data.toList = M.data.toList := by rw [hM]; rfl
 have hDs : D.size ≤ 900000 := by
  rw [hD, ah]
  have := fA.iF s.data.toList
  rw [zO.out] at this
  omega
 have hMs : M.size ≤ 900000 := by
  rw [hM, ah, KX]
  have : D.data.toList.length = D.size := Array.length_toList
  omega
 have JA : Hid (∀ w, Calls Tryz.prog 63 #[.string s] w fun e w' => e = .returned (.string D) ∧ Below w.heap.size w w') := by
  show ∀ w, _
  rw [hD]
  exact fun w => EscF.Bh s w (by omega)
 have XB : Hid (∀ w, Calls Tryz.prog 94 #[.string D] w fun e w' => e = .returned (.string M) ∧ Below w.heap.size w w') := by
  show ∀ w, _
  rw [hM]
  exact fun w => kM.lX D w (by omega)
 rw [hDd, hMd] at hH2
 have HH := hid hH2
 have hlm : M.data.toList.length = M.size := Array.length_toList
 have HLM := hid hlm
 have HM9 := hid hMs
 clear hH hH2 hD hM hDd hMd hDs hMs hlm
 rcases Nat.eq_zero_or_pos s.size with h0 | h0
 ·have hq : s.toList = [] := str_nil h0
  have hq2 : (s.toList == []) = true := by rw [hq]; rfl
  clear hh h0 hs hq
  go_enter Tryz.func203, Tryz.ntmps203
  go_wp2_with fail
  refine (JA.out _).mono ?_
  rintro e w1 ⟨rfl, hb1⟩
  have HB1 := hid hb1
  clear hb1
  go_wp2_with fail
  refine (XB.out _).mono ?_
  rintro e wm ⟨rfl, hb2⟩
  have HB2 := hid (bel HB1.out hb2)
  clear hb2
  go_wp2
  go_loopw [8, 50] (fun _ vk wr => ∃ k : Nat, k ≤ M.size ∧ vk = .int .i64 (k : Int) ∧ wr = wm ∧ Hid (oks true (M.data.toList.take k) = true)) (fun _ vk _ => M.size - (intOf vk).toNat)
  case atStart => exact ⟨0, Nat.zero_le _, rfl, rfl, rfl⟩
  case round =>
   obtain ⟨k, hk, rfl, rfl, HO⟩ := hrel
   have hmz : M.size ≤ 900000 := HM9.out
   by_cases hlt : k < M.size
   ·obtain ⟨c, hc⟩ : ∃ c, M[k] = c := ⟨_, rfl⟩
    have hkl : k < M.data.toList.length := by rw [HLM.out]; exact hlt
    have hcl : M.data.toList[k] = c := hc
    cases hf : D9 true c with
    | true =>
     have HE : Hid (H = .tuple #[.string (strOf []), .bool false]) := by
      show _ = _
      rw [HH.out, if_neg (by rw [BD true _ k hkl (by rw [hcl, qW, hf]; rfl)]; exact Bool.false_ne_true)]
      rfl
     have hfc := fun w => iy c true w
     rw [hf] at hfc
     have HF := hid hfc
     clear hkl hcl hf hfc
     go_wp2_with fail
     refine (HF.out _).mono ?_
     rintro e w2 ⟨rfl, rfl⟩
     go_wp2
     go_ret2
     exact ⟨by rw [HE.out]; rfl, HB2.out⟩
    | false =>
     by_cases h126 : (126 : Int) < (c.toNat : Int)
     ·have HE : Hid (H = .tuple #[.string (strOf []), .bool false]) := by
       show _ = _
       rw [HH.out, if_neg]
       ·rfl
       ·rw [BD true _ k hkl (by rw [hcl, qW, decide_eq_false (by omega), Bool.and_false])]
        exact Bool.false_ne_true
      have hfc := fun w => iy c true w
      rw [hf] at hfc
      have HF := hid hfc
      clear hkl hcl hf hfc
      go_wp2_with fail
      refine (HF.out _).mono ?_
      rintro e w2 ⟨rfl, rfl⟩
      go_wp2
      go_ret2
      exact ⟨by rw [HE.out]; rfl, HB2.out⟩
     ·have hc126 : ¬ (126 : Int) < (c.toNat : Int) := h126
      have HN : Hid (oks true (M.data.toList.take (k + 1)) = true) := by
       show _ = _
       rw [oM true _ k hkl, HO.out, hcl]
       unfold okb
       rw [hf]
       rw [decide_eq_true (by omega)]; rfl
      have hfc := fun w => iy c true w
      rw [hf] at hfc
      have HF := hid hfc
      clear hkl hcl hf hfc
      go_wp2_with fail
      refine (HF.out _).mono ?_
      rintro e w2 ⟨rfl, rfl⟩
      go_wp2
      go_roundw
      case rel => exact ⟨k + 1, by omega, by go_num, by first | rfl | trivial, HN.out⟩
      case measure => simp [intOf]; omega
   ·have hO : oks true M.data.toList = true := by
     have := HO.out
     rw [List.take_of_length_le (by rw [HLM.out]; omega)] at this
     exact this
    have hH3 : H = HV (MQ M.data.toList) := by rw [HH.out, if_pos hO]
    have hend := fun w => Ri.Fj M w HM9.out
    clear hO HO HH
    by_cases hM0 : M.data.toList = []
    ·have HE : Hid (H = .tuple #[.string (strOf []), .bool false]) := by show _ = _; rw [hH3, hM0]; rfl
     have hq : M.toList = [] := by rw [Lib.toList_data]; exact hM0
     have hq2 : (M.toList == []) = true := by rw [hq]; rfl
     clear hend hM0 hH3 hq
     go_wp2
     go_ret2
     exact ⟨by rw [HE.out]; rfl, HB2.out⟩
    ·have hq : (M.toList == []) = false := by
      rw [Lib.toList_data, beq_eq_false_iff_ne]
      exact hM0
     have hq2 : M.toList.isEmpty = false := by rw [Lib.toList_data]; simpa using hM0
     have hq3 : ¬ M.toList = [] := by rw [Lib.toList_data]; exact hM0
     cases he : ends M.data.toList with
     | false =>
      rw [he] at hend
      have JB := hid hend
      have HE : Hid (H = .tuple #[.string M, .bool true]) := by
       show _ = _
       rw [hH3]
       unfold MQ
       rw [if_neg hM0, he, if_neg (by simp)]
       show Value.tuple #[.string (strOf M.data.toList), .bool true] = _
       rw [aS]
      clear hend he hM0 hH3
      go_wp2_with fail
      refine (JB.out _).mono ?_
      rintro e w3 ⟨rfl, hb3⟩
      have HB3 := hid (bel HB2.out hb3)
      clear hb3
      go_wp2
      go_ret2
      exact ⟨by rw [HE.out]; rfl, HB3.out⟩
     | true =>
      rw [he] at hend
      have JB := hid hend
      have WE : H = HV ((FX M.data.toList).map Bc.pr) := by rw [hH3]; unfold MQ; rw [if_neg hM0, he, if_pos rfl]
      have hpa := fun w => QudF.DJ M w HM9.out
      clear hend he hM0 hH3
      cases hp : FX M.data.toList with
      | none =>
       rw [hp] at hpa WE
       have HE : Hid (H = .tuple #[.string (strOf []), .bool false]) := by show _ = _; rw [WE]; rfl
       have wQ : Hid (wS.rG none = .tuple #[.int .u32 0, .bool false]) := wS.cO _ rfl
       rw [wQ.out] at hpa
       have HP := hid hpa
       clear hpa WE hp
       go_wp2_with fail
       refine (JB.out _).mono ?_
       rintro e w3 ⟨rfl, hb3⟩
       have HB3 := hid (bel HB2.out hb3)
       clear hb3
       go_wp2_with fail
       refine (HP.out _).mono ?_
       rintro e w4 ⟨rfl, hb4⟩
       have HB4 := hid (bel HB3.out hb4)
       clear hb4
       go_wp2
       go_ret2
       exact ⟨by rw [HE.out]; rfl, HB4.out⟩
      | some n =>
       have hn := IQ hp
       rw [hp] at hpa WE
       obtain ⟨R, hR⟩ : ∃ R : ByteArray, R = strOf (Bc.pr n) := ⟨_, rfl⟩
       have HE : Hid (H = .tuple #[.string R, .bool true]) := by show _ = _; rw [WE, hR]; rfl
       have wQ : Hid (wS.rG (some n) = .tuple #[.int .u32 (n : Int), .bool true]) := wS.uJ _ n rfl
       rw [wQ.out] at hpa
       have HP := hid hpa
       have QF : Hid (∀ w, Calls Tryz.prog 228 #[.int .u32 (n : Int)] w fun e w' => e = .returned (.string R) ∧ Below w.heap.size w w') := by
        show ∀ w, _
        rw [hR]
        exact fun w => QudH.DK n hn w
       clear hpa WE hp hn hR
       go_wp2_with fail
       refine (JB.out _).mono ?_
       rintro e w3 ⟨rfl, hb3⟩
       have HB3 := hid (bel HB2.out hb3)
       clear hb3
       go_wp2_with fail
       refine (HP.out _).mono ?_
       rintro e w4 ⟨rfl, hb4⟩
       have HB4 := hid (bel HB3.out hb4)
       clear hb4
       go_wp2_with fail
       refine (QF.out _).mono ?_
       rintro e w5 ⟨rfl, hb5⟩
       have rE := hid (bel HB4.out hb5)
       clear hb5
       go_wp2
       go_ret2
       exact ⟨by rw [HE.out]; rfl, rE.out⟩
 ·obtain ⟨hq, hq2, hq3, x, hx0, hx, hxn⟩ := RS s h0 hh
  have h0i : (0 : Int) < (s.size : Int) := by omega
  clear hh hs
  go_enter Tryz.func203, Tryz.ntmps203
  go_wp2_with fail
  refine (JA.out _).mono ?_
  rintro e w1 ⟨rfl, hb1⟩
  have HB1 := hid hb1
  clear hb1
  go_wp2_with fail
  refine (XB.out _).mono ?_
  rintro e wm ⟨rfl, hb2⟩
  have HB2 := hid (bel HB1.out hb2)
  clear hb2
  go_wp2
  go_loopw [8, 50] (fun _ vk wr => ∃ k : Nat, k ≤ M.size ∧ vk = .int .i64 (k : Int) ∧ wr = wm ∧ Hid (oks true (M.data.toList.take k) = true)) (fun _ vk _ => M.size - (intOf vk).toNat)
  case atStart => exact ⟨0, Nat.zero_le _, rfl, rfl, rfl⟩
  case round =>
   obtain ⟨k, hk, rfl, rfl, HO⟩ := hrel
   have hmz : M.size ≤ 900000 := HM9.out
   by_cases hlt : k < M.size
   ·obtain ⟨c, hc⟩ : ∃ c, M[k] = c := ⟨_, rfl⟩
    have hkl : k < M.data.toList.length := by rw [HLM.out]; exact hlt
    have hcl : M.data.toList[k] = c := hc
    cases hf : D9 true c with
    | true =>
     have HE : Hid (H = .tuple #[.string (strOf []), .bool false]) := by
      show _ = _
      rw [HH.out, if_neg (by rw [BD true _ k hkl (by rw [hcl, qW, hf]; rfl)]; exact Bool.false_ne_true)]
      rfl
     have hfc := fun w => iy c true w
     rw [hf] at hfc
     have HF := hid hfc
     clear hkl hcl hf hfc
     go_wp2_with fail
     refine (HF.out _).mono ?_
     rintro e w2 ⟨rfl, rfl⟩
     go_wp2
     go_ret2
     exact ⟨by rw [HE.out]; rfl, HB2.out⟩
    | false =>
     by_cases h126 : (126 : Int) < (c.toNat : Int)
     ·have HE : Hid (H = .tuple #[.string (strOf []), .bool false]) := by
       show _ = _
       rw [HH.out, if_neg]
       ·rfl
       ·rw [BD true _ k hkl (by rw [hcl, qW, decide_eq_false (by omega), Bool.and_false])]
        exact Bool.false_ne_true
      have hfc := fun w => iy c true w
      rw [hf] at hfc
      have HF := hid hfc
      clear hkl hcl hf hfc
      go_wp2_with fail
      refine (HF.out _).mono ?_
      rintro e w2 ⟨rfl, rfl⟩
      go_wp2
      go_ret2
      exact ⟨by rw [HE.out]; rfl, HB2.out⟩
     ·have hc126 : ¬ (126 : Int) < (c.toNat : Int) := h126
      have HN : Hid (oks true (M.data.toList.take (k + 1)) = true) := by
       show _ = _
       rw [oM true _ k hkl, HO.out, hcl]
       unfold okb
       rw [hf]
       rw [decide_eq_true (by omega)]; rfl
      have hfc := fun w => iy c true w
      rw [hf] at hfc
      have HF := hid hfc
      clear hkl hcl hf hfc
      go_wp2_with fail
      refine (HF.out _).mono ?_
      rintro e w2 ⟨rfl, rfl⟩
      go_wp2
      go_roundw
      case rel => exact ⟨k + 1, by omega, by go_num, by first | rfl | trivial, HN.out⟩
      case measure => simp [intOf]; omega
   ·have hO : oks true M.data.toList = true := by
     have := HO.out
     rw [List.take_of_length_le (by rw [HLM.out]; omega)] at this
     exact this
    have hH3 : H = HV (MQ M.data.toList) := by rw [HH.out, if_pos hO]
    have hend := fun w => Ri.Fj M w HM9.out
    clear hO HO HH
    by_cases hM0 : M.data.toList = []
    ·have HE : Hid (H = .tuple #[.string (strOf []), .bool false]) := by show _ = _; rw [hH3, hM0]; rfl
     have hq : M.toList = [] := by rw [Lib.toList_data]; exact hM0
     have hq2 : (M.toList == []) = true := by rw [hq]; rfl
     clear hend hM0 hH3 hq
     go_wp2
     go_ret2
     exact ⟨by rw [HE.out]; rfl, HB2.out⟩
    ·have hq : (M.toList == []) = false := by
      rw [Lib.toList_data, beq_eq_false_iff_ne]
      exact hM0
     have hq2 : M.toList.isEmpty = false := by rw [Lib.toList_data]; simpa using hM0
     have hq3 : ¬ M.toList = [] := by rw [Lib.toList_data]; exact hM0
     cases he : ends M.data.toList with
     | false =>
      rw [he] at hend
      have JB := hid hend
      have HE : Hid (H = .tuple #[.string M, .bool true]) := by
       show _ = _
       rw [hH3]
       unfold MQ
       rw [if_neg hM0, he, if_neg (by simp)]
       show Value.tuple #[.string (strOf M.data.toList), .bool true] = _
       rw [aS]
      clear hend he hM0 hH3
      go_wp2_with fail
      refine (JB.out _).mono ?_
      rintro e w3 ⟨rfl, hb3⟩
      have HB3 := hid (bel HB2.out hb3)
      clear hb3
      go_wp2
      go_ret2
      exact ⟨by rw [HE.out]; rfl, HB3.out⟩
     | true =>
      rw [he] at hend
      have JB := hid hend
      have WE : H = HV ((FX M.data.toList).map Bc.pr) := by rw [hH3]; unfold MQ; rw [if_neg hM0, he, if_pos rfl]
      have hpa := fun w => QudF.DJ M w HM9.out
      clear hend he hM0 hH3
      cases hp : FX M.data.toList with
      | none =>
       rw [hp] at hpa WE
       have HE : Hid (H = .tuple #[.string (strOf []), .bool false]) := by show _ = _; rw [WE]; rfl
       have wQ : Hid (wS.rG none = .tuple #[.int .u32 0, .bool false]) := wS.cO _ rfl
       rw [wQ.out] at hpa
       have HP := hid hpa
       clear hpa WE hp
       go_wp2_with fail
       refine (JB.out _).mono ?_
       rintro e w3 ⟨rfl, hb3⟩
       have HB3 := hid (bel HB2.out hb3)
       clear hb3
       go_wp2_with fail
       refine (HP.out _).mono ?_
       rintro e w4 ⟨rfl, hb4⟩
       have HB4 := hid (bel HB3.out hb4)
       clear hb4
       go_wp2
       go_ret2
       exact ⟨by rw [HE.out]; rfl, HB4.out⟩
      | some n =>
       have hn := IQ hp
       rw [hp] at hpa WE
       obtain ⟨R, hR⟩ : ∃ R : ByteArray, R = strOf (Bc.pr n) := ⟨_, rfl⟩
       have HE : Hid (H = .tuple #[.string R, .bool true]) := by show _ = _; rw [WE, hR]; rfl
       have wQ : Hid (wS.rG (some n) = .tuple #[.int .u32 (n : Int), .bool true]) := wS.uJ _ n rfl
       rw [wQ.out] at hpa
       have HP := hid hpa
       have QF : Hid (∀ w, Calls Tryz.prog 228 #[.int .u32 (n : Int)] w fun e w' => e = .returned (.string R) ∧ Below w.heap.size w w') := by
        show ∀ w, _
        rw [hR]
        exact fun w => QudH.DK n hn w
       clear hpa WE hp hn hR
       go_wp2_with fail
       refine (JB.out _).mono ?_
       rintro e w3 ⟨rfl, hb3⟩
       have HB3 := hid (bel HB2.out hb3)
       clear hb3
       go_wp2_with fail
       refine (HP.out _).mono ?_
       rintro e w4 ⟨rfl, hb4⟩
       have HB4 := hid (bel HB3.out hb4)
       clear hb4
       go_wp2_with fail
       refine (QF.out _).mono ?_
       rintro e w5 ⟨rfl, hb5⟩
       have rE := hid (bel HB4.out hb5)
       clear hb5
       go_wp2
       go_ret2
       exact ⟨by rw [HE.out]; rfl, rE.out⟩
end Go.Proofs.YtmdofbccebkbiaaGreatDoor.HstE
