/- Hosts: a special scheme's host, a host, by the code. -/
import Derived.Test.YtnmkkejodkjjiaaDoorHstB
import Derived.Test.YtnmkkejodkjjiaaDoorQudE
namespace Go.Proofs.YtnmkkejodkjjiaaDoor.HstC
open Go.RowKit Go.Proofs.YtnmkkejodkjjiaaDoor.Base Go.Proofs.YtnmkkejodkjjiaaDoor.Base2 Go.Proofs.YtnmkkejodkjjiaaDoor.UtfL Go.Proofs.YtnmkkejodkjjiaaDoor.QudP Go.Proofs.YtnmkkejodkjjiaaDoor.SixG Go.Proofs.YtnmkkejodkjjiaaDoor.HstP Go.Proofs.YtnmkkejodkjjiaaDoor.HstA Go.Proofs.YtnmkkejodkjjiaaDoor.HstB Go.Proofs.YtnmkkejodkjjiaaDoor.Spl

theorem pow_below {w w' : World} (h : Tab.Pow w) (hb : Below w.heap.size w w') : Tab.Pow w' := Tab.Pow.below h hb
theorem lower_len (L : List UInt8) : (lower L).length = L.length := by simp [lower]
/-- The host that a lowered text is. -/
theorem HV_dmn_no {L : List UInt8} (h : oks true L = false) : HV (dmn L) = .tuple #[.string (strOf []), .bool false] := by unfold dmn; rw [h]; rfl
theorem HV_dmn_yes {L : List UInt8} (h : oks true L = true) : HV (dmn L) = HV (dm2 (lower L)) := by unfold dmn; rw [if_pos h]
set_option linter.unusedSimpArgs false in
set_option maxRecDepth 100000 in
set_option maxHeartbeats 4000000 in
theorem domain_any (s : ByteArray) (w : World) (hs : s.size ≤ 900000) (hT : Tab.Pow w) (hM : Max w) : Calls Tryd.prog 32 #[.string s] w fun e w' => e = .returned (HV (dmn s.data.toList)) ∧ Below w.heap.size w w' := by
  have HT := hid hT
  have HM := hid hM
  have hl : s.data.toList.length = s.size := Array.length_toList
  have HL := hid hl
  obtain ⟨H, hH⟩ : ∃ H, H = HV (dmn s.data.toList) := ⟨_, rfl⟩
  rw [← hH]
  have HH := hid hH
  have HS9 := hid hs
  clear hT hM hl hH
  go_enter Tryd.func32, Tryd.ntmps32
  go_wp2
  go_loopw [4] (fun vk wr => ∃ k : Nat, k ≤ s.size ∧ vk = .int .i64 (k : Int) ∧ wr = w ∧ Hid (oks true (s.data.toList.take k) = true)) (fun vk _ => s.size - (intOf vk).toNat)
  case atStart => exact ⟨0, Nat.zero_le _, rfl, rfl, rfl⟩
  case round =>
    obtain ⟨k, hk, rfl, rfl, HO⟩ := hrel
    by_cases hlt : k < s.size
    · obtain ⟨c, hc⟩ : ∃ c, s[k] = c := ⟨_, rfl⟩
      have hkl : k < s.data.toList.length := by rw [HL.out]; exact hlt
      have hcl : s.data.toList[k] = c := hc
      by_cases h126 : (126 : Int) < (c.toNat : Int)
      · have HE : Hid (H = .tuple #[.string (strOf []), .bool false]) := by
          show _ = _
          rw [HH.out]
          refine HV_dmn_no (oks_no true _ k hkl ?_)
          rw [hcl, okb_true, decide_eq_false (by omega), Bool.and_false]
        clear hkl hcl
        go_wp2
        go_ret2
        exact ⟨by rw [HE.out]; rfl, Below.refl _ _⟩
      · cases hf : fbd true c with
        | true =>
          have HE : Hid (H = .tuple #[.string (strOf []), .bool false]) := by
            show _ = _
            rw [HH.out]
            refine HV_dmn_no (oks_no true _ k hkl ?_)
            rw [hcl, okb_true, hf]
            rfl
          have hfc := fun w => forbidden_any c true w
          rw [hf] at hfc
          have HF := hid hfc
          clear hkl hcl hf hfc
          go_wp2_with fail
          refine (HF.out _).mono ?_
          rintro e w2 ⟨rfl, rfl⟩
          go_wp2
          go_ret2
          exact ⟨by rw [HE.out]; rfl, Below.refl _ _⟩
        | false =>
          have HN : Hid (oks true (s.data.toList.take (k + 1)) = true) := by
            show _ = _
            rw [oks_take_succ true _ k hkl, HO.out, hcl, okb_true, hf, decide_eq_true (by omega)]
            rfl
          have hfc := fun w => forbidden_any c true w
          rw [hf] at hfc
          have HF := hid hfc
          clear hkl hcl hf hfc
          go_wp2_with fail
          refine (HF.out _).mono ?_
          rintro e w2 ⟨rfl, rfl⟩
          go_wp2
          go_roundw
          case rel => exact ⟨k + 1, by omega, by go_num, by first | rfl | trivial, HN.out⟩
          case measure => simp [intOf]; omega
    · have hO : oks true s.data.toList = true := by
        have := HO.out
        rw [List.take_of_length_le (by rw [HL.out]; omega)] at this
        exact this
      have hH2 : H = HV (dm2 (lower s.data.toList)) := by rw [HH.out]; exact HV_dmn_yes hO
      obtain ⟨M, hM⟩ : ∃ M : ByteArray, M = strOf (lower s.data.toList) := ⟨_, rfl⟩
      have hMd : lower s.data.toList = M.data.toList := by rw [hM]; rfl
      have hMs : M.size ≤ 900000 := by rw [hM, size_strOf, lower_len, HL.out]; omega
      have HLW : Hid (∀ w : World, Calls Tryd.prog 52 #[.string s] w fun e w' => e = .returned (.string M) ∧ Below w.heap.size w w') := by
        show ∀ w, _
        rw [hM]
        exact fun w => UtfL.lower_any s w (by unfold maxLen; omega)
      rw [hMd] at hH2
      have hend := fun w => QudD.ends_any M w hMs
      clear hM hMd hO HO HH
      cases he : ends M.data.toList with
      | false =>
        rw [he] at hend
        have HEN := hid hend
        by_cases hM0 : M.data.toList = []
        · have hM1 : M = strOf [] := by rw [← strOf_toList M, hM0]
          have HE : Hid (H = .tuple #[.string (strOf []), .bool false]) := by show _ = _; rw [hH2, hM0]; rfl
          have hq : M.toList = [] := by rw [Lib.toList_data]; exact hM0
          have hq2 : (M.toList == []) = true := by rw [hq]; rfl
          have HM1 := hid hM1
          clear hend he hM0 hM1 hH2 hq
          go_wp2_with fail
          refine (HLW.out _).mono ?_
          rintro e w2 ⟨rfl, hb2⟩
          have HB2 := hid hb2
          clear hb2
          go_wp2_with fail
          refine (HEN.out _).mono ?_
          rintro e w3 ⟨rfl, hb3⟩
          have HB3 := hid (bel HB2.out hb3)
          clear hb3
          go_wp2
          go_ret2
          exact ⟨by rw [HE.out, ← HM1.out]; first | rfl | simp [hq2], HB3.out⟩
        · have HE : Hid (H = .tuple #[.string M, .bool true]) := by
            show _ = _
            rw [hH2]
            unfold dm2
            rw [if_neg hM0, he, if_neg (by simp)]
            show Value.tuple #[.string (strOf M.data.toList), .bool true] = _
            rw [strOf_toList]
          have hq : (M.toList == []) = false := by
            rw [Lib.toList_data, beq_eq_false_iff_ne]
            exact hM0
          have hq2 : M.toList.isEmpty = false := by rw [Lib.toList_data]; simpa using hM0
          clear hend he hM0 hH2
          go_wp2_with fail
          refine (HLW.out _).mono ?_
          rintro e w2 ⟨rfl, hb2⟩
          have HB2 := hid hb2
          clear hb2
          go_wp2_with fail
          refine (HEN.out _).mono ?_
          rintro e w3 ⟨rfl, hb3⟩
          have HB3 := hid (bel HB2.out hb3)
          clear hb3
          go_wp2
          go_ret2
          exact ⟨by rw [HE.out]; rfl, HB3.out⟩
      | true =>
        rw [he] at hend
        have HEN := hid hend
        have hM0 : M.data.toList ≠ [] := by intro h; rw [h] at he; cases he
        have hH3 : H = HV ((prs M.data.toList).map QudG.pr) := by rw [hH2]; unfold dm2; rw [if_neg hM0, he, if_pos rfl]
        have hpa := fun w hM => QudE.parse_any M w hMs hM
        clear hend he hM0 hH2
        cases hp : prs M.data.toList with
        | none =>
          rw [hp] at hpa hH3
          have HE : Hid (H = .tuple #[.string (strOf []), .bool false]) := by show _ = _; rw [hH3]; rfl
          have HV2 : Hid (QudE.PrsV none = .tuple #[.int .u32 0, .bool false]) := QudE.prsV_none _ rfl
          rw [HV2.out] at hpa
          have HP := hid hpa
          clear hpa hH3 hp
          go_wp2_with fail
          refine (HLW.out _).mono ?_
          rintro e w2 ⟨rfl, hb2⟩
          have HB2 := hid hb2
          clear hb2
          go_wp2_with fail
          refine (HEN.out _).mono ?_
          rintro e w3 ⟨rfl, hb3⟩
          have HB3 := hid (bel HB2.out hb3)
          clear hb3
          go_wp2_with fail
          refine (HP.out _ (HM.out.below HB3.out)).mono ?_
          rintro e w4 ⟨rfl, hb4⟩
          have HB4 := hid (bel HB3.out hb4)
          clear hb4
          go_wp2
          go_ret2
          exact ⟨by rw [HE.out]; rfl, HB4.out⟩
        | some n =>
          have hn := prs_lt hp
          rw [hp] at hpa hH3
          obtain ⟨R, hR⟩ : ∃ R : ByteArray, R = strOf (QudG.pr n) := ⟨_, rfl⟩
          have HE : Hid (H = .tuple #[.string R, .bool true]) := by show _ = _; rw [hH3, hR]; rfl
          have HV2 : Hid (QudE.PrsV (some n) = .tuple #[.int .u32 (n : Int), .bool true]) := QudE.prsV_some _ n rfl
          rw [HV2.out] at hpa
          have HP := hid hpa
          have HPR : Hid (∀ w, Tab.Pow w → Calls Tryd.prog 55 #[.int .u32 (n : Int)] w fun e w' => e = .returned (.string R) ∧ Below w.heap.size w w') := by
            show ∀ w, _
            rw [hR]
            exact fun w hT => QudG.print_any n hn w hT
          clear hpa hH3 hp hn hR
          go_wp2_with fail
          refine (HLW.out _).mono ?_
          rintro e w2 ⟨rfl, hb2⟩
          have HB2 := hid hb2
          clear hb2
          go_wp2_with fail
          refine (HEN.out _).mono ?_
          rintro e w3 ⟨rfl, hb3⟩
          have HB3 := hid (bel HB2.out hb3)
          clear hb3
          go_wp2_with fail
          refine (HP.out _ (HM.out.below HB3.out)).mono ?_
          rintro e w4 ⟨rfl, hb4⟩
          have HB4 := hid (bel HB3.out hb4)
          clear hb4
          go_wp2_with fail
          refine (HPR.out _ (pow_below HT.out HB4.out)).mono ?_
          rintro e w5 ⟨rfl, hb5⟩
          have HB5 := hid (bel HB4.out hb5)
          clear hb5
          go_wp2
          go_ret2
          exact ⟨by rw [HE.out]; rfl, HB5.out⟩
theorem head_prefix (L : List UInt8) : Lib.hasPrefix L [91] = decide (L.head? = some 91) := by
  cases L with
  | nil => rfl
  | cons c r =>
    unfold Lib.hasPrefix
    by_cases h : c = 91
    · subst h; simp [List.isPrefixOf]
    · have h2 : ¬ (91 : UInt8) = c := fun e => h e.symm
      simp [List.isPrefixOf, h, h2]
set_option linter.unusedSimpArgs false in
set_option maxRecDepth 100000 in
set_option maxHeartbeats 4000000 in
theorem parse_any (s : ByteArray) (sp : Bool) (w : World) (hs : s.size ≤ 900000) (hL : Lad w) (hT : Tab.Pow w) (hM : Max w) : Calls Tryd.prog 18 #[.string s, .bool sp] w fun e w' => e = .returned (HV (hst s.data.toList sp)) ∧ Below w.heap.size w w' := by
  have HL := hid hL
  have HT := hid hT
  have HM := hid hM
  have hl : s.data.toList.length = s.size := Array.length_toList
  have HLE := hid hl
  have hpx := fun w => Tryd.strings_HasPrefix s ⟨#[91]⟩ w
  rw [show (⟨#[91]⟩ : ByteArray).data.toList = [91] from rfl, head_prefix] at hpx
  obtain ⟨H, hH⟩ : ∃ H, H = HV (hst s.data.toList sp) := ⟨_, rfl⟩
  rw [← hH]
  have HS9 := hid hs
  clear hL hT hM hl
  by_cases hh : s.data.toList.head? = some 91
  · have hH2 : H = HV (hbr s.data.toList.tail) := by rw [hH]; unfold hst; rw [if_pos hh]
    rw [decide_eq_true hh] at hpx
    have HPX := hid hpx
    have h1 : 1 ≤ s.size := by
      rw [← HLE.out]
      cases e : s.data.toList with
      | nil => rw [e] at hh; cases hh
      | cons a r => simp
    have hX : (s.extract 1 s.size).data.toList = s.data.toList.tail := by rw [SixE.cut_str, List.drop_one]
    obtain ⟨X, hXe⟩ : ∃ X, X = s.extract 1 s.size := ⟨_, rfl⟩
    have hXs : X.size ≤ 1048576 := by rw [hXe, ByteArray.size_extract]; omega
    rw [← hXe] at hX
    rw [← hX] at hH2
    have HAD := hid (fun w hL hM => address_any X w hXs hL hM)
    obtain ⟨a, b, hab⟩ : ∃ a b, HV (hbr X.data.toList) = .tuple #[a, b] := by
      cases hbr X.data.toList with
      | none => exact ⟨_, _, rfl⟩
      | some L => exact ⟨_, _, rfl⟩
    have HAB := hid hab
    have HE := hid (hH2.trans hab)
    have h1i : (1 : Int) ≤ (s.size : Int) := by omega
    have HXE := hid hXe
    clear hpx hh hH hH2 hX hXs hab hs hXe
    go_enter Tryd.func18, Tryd.ntmps18
    go_wp2_with fail
    refine (HPX.out _).mono ?_
    rintro e w2 ⟨rfl, hww⟩
    obtain rfl : w = w2 := hww.symm
    go_wp2_with fail
    rw [← HXE.out]
    refine (HAD.out _ HL.out HM.out).mono ?_
    rintro e w3 ⟨rfl, hb3⟩
    rw [HAB.out]
    have HB3 := hid hb3
    clear hb3
    go_wp2
    go_ret2
    exact ⟨by rw [HE.out]; rfl, HB3.out⟩
  · rw [decide_eq_false hh] at hpx
    have HPX := hid hpx
    cases sp with
    | true =>
      have hH2 : H = HV (dmn (EscD.dec s.data.toList)) := by rw [hH]; unfold hst; rw [if_neg hh, if_pos rfl]
      obtain ⟨X, hX⟩ : ∃ X : ByteArray, X = strOf (EscD.dec s.data.toList) := ⟨_, rfl⟩
      have hXd : X.data.toList = EscD.dec s.data.toList := by rw [hX]; rfl
      have hXs : X.size ≤ 900000 := by
        rw [hX, size_strOf]
        have := EscD.dec_len s.data.toList
        rw [HLE.out] at this
        omega
      have HDC := hid (fun w => EscD.decode_any s w (by omega))
      rw [← hXd] at HDC
      rw [← hXd] at hH2
      have HDO := hid (fun w hT hM => domain_any X w hXs hT hM)
      obtain ⟨a, b, hab⟩ : ∃ a b, HV (dmn X.data.toList) = .tuple #[a, b] := by
        cases dmn X.data.toList with
        | none => exact ⟨_, _, rfl⟩
        | some L => exact ⟨_, _, rfl⟩
      have HAB := hid hab
      have HE := hid (hH2.trans hab)
      clear hpx hh hH hH2 hX hXd hXs hab hs
      go_enter Tryd.func18, Tryd.ntmps18
      go_wp2_with fail
      refine (HPX.out _).mono ?_
      rintro e w2 ⟨rfl, hww⟩
      obtain rfl : w = w2 := hww.symm
      go_wp2_with fail
      refine (HDC.out _).mono ?_
      rintro e w3 ⟨v, rfl, hown, hb3⟩
      obtain ⟨A3, c3, rfl, _, _, hrd3⟩ := owns_form hown
      have hs3 : (convert 40 9 (.slice A3 X.size c3)).run Tryd.prog w3 = .ok (.string X) w3 := by
        have h := run_string_of (P := Tryd.prog) 40 9 5 Tryd.underlying40 Tryd.underlying5 Tryd.underlying9 _ c3 hrd3
        rw [strOf_toList] at h
        exact h
      have HB3 := hid hb3
      clear hb3 hown hrd3
      go_wp2_with fail
      clear hs3
      refine (HDO.out _ (pow_below HT.out HB3.out) (HM.out.below HB3.out)).mono ?_
      rintro e w4 ⟨rfl, hb4⟩
      rw [HAB.out]
      have HB4 := hid (bel HB3.out hb4)
      clear hb4
      go_wp2
      go_ret2
      exact ⟨by rw [HE.out]; rfl, HB4.out⟩
    | false =>
      have HH : Hid (H = HV (plc s.data.toList)) := by show _ = _; rw [hH]; unfold hst; rw [if_neg hh, if_neg (by simp)]
      clear hpx hh hH
      go_enter Tryd.func18, Tryd.ntmps18
      go_wp2_with fail
      refine (HPX.out _).mono ?_
      rintro e w2 ⟨rfl, hww⟩
      obtain rfl : w = w2 := hww.symm
      go_wp2
      go_loopw [6] (fun vk wr => ∃ k : Nat, k ≤ s.size ∧ vk = .int .i64 (k : Int) ∧ wr = w ∧ Hid (oks false (s.data.toList.take k) = true)) (fun vk _ => s.size - (intOf vk).toNat)
      case atStart => exact ⟨0, Nat.zero_le _, rfl, rfl, rfl⟩
      case round =>
        obtain ⟨k, hk, rfl, rfl, HO⟩ := hrel
        by_cases hlt : k < s.size
        · obtain ⟨c, hc⟩ : ∃ c, s[k] = c := ⟨_, rfl⟩
          have hkl : k < s.data.toList.length := by rw [HLE.out]; exact hlt
          have hcl : s.data.toList[k] = c := hc
          cases hf : fbd false c with
          | true =>
            have HE : Hid (H = .tuple #[.string (strOf []), .bool false]) := by
              show _ = _
              rw [HH.out]
              unfold plc
              rw [oks_no false _ k hkl (by rw [hcl]; unfold okb; rw [hf]; rfl)]
              rfl
            have hfc := fun w => forbidden_any c false w
            rw [hf] at hfc
            have HF := hid hfc
            clear hkl hcl hf hfc
            go_wp2_with fail
            refine (HF.out _).mono ?_
            rintro e w2 ⟨rfl, rfl⟩
            go_wp2
            go_ret2
            exact ⟨by rw [HE.out]; rfl, Below.refl _ _⟩
          | false =>
            have HN : Hid (oks false (s.data.toList.take (k + 1)) = true) := by
              show _ = _
              rw [oks_take_succ false _ k hkl, HO.out, hcl]
              unfold okb
              rw [hf]
              rfl
            have hfc := fun w => forbidden_any c false w
            rw [hf] at hfc
            have HF := hid hfc
            clear hkl hcl hf hfc
            go_wp2_with fail
            refine (HF.out _).mono ?_
            rintro e w2 ⟨rfl, rfl⟩
            go_wp2
            go_roundw
            case rel => exact ⟨k + 1, by omega, by go_num, by first | rfl | trivial, HN.out⟩
            case measure => simp [intOf]; omega
        · have hO : oks false s.data.toList = true := by
            have := HO.out
            rw [List.take_of_length_le (by rw [HLE.out]; omega)] at this
            exact this
          obtain ⟨R, hR⟩ : ∃ R : ByteArray, R = strOf (EscE.enc 0 s.data.toList) := ⟨_, rfl⟩
          have HE : Hid (H = .tuple #[.string R, .bool true]) := by
            show _ = _
            rw [HH.out]
            unfold plc
            rw [if_pos hO, hR]
            rfl
          have HR := hid hR
          have hcv := fun (w : World) s => run_bytes_of_string (P := Tryd.prog) w 9 40 5 s Tryd.underlying9 Tryd.underlying40 Tryd.underlying5
          clear hO HO HH hR
          go_wp2_with fail
          clear hcv
          refine (EscE.encode_any 0 _ _ _ s.data.toList _ (rds_made s _ wr _) (by omega)).mono ?_
          rintro e w3 ⟨rfl, hb3⟩
          rw [← HR.out]
          go_wp2
          go_ret2
          exact ⟨by rw [HE.out]; rfl, bel (((Below.refl wr.heap.size wr).alloc (Nat.le_refl _) _).drew) hb3⟩
end Go.Proofs.YtnmkkejodkjjiaaDoor.HstC
