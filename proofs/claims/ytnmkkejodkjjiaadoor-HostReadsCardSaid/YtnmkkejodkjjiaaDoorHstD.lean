/- Hosts: a host by the document. -/
import Derived.Test.YtnmkkejodkjjiaaDoorHstC
import Derived.Test.YtnmkkejodkjjiaaDoorSixK
import Derived.Test.YtnmkkejodkjjiaaDoorQudH
import Derived.Test.YtnmkkejodkjjiaaDoorEscF
import Derived.Test.YtnmkkejodkjjiaaDoorEscJ
namespace Go.Proofs.YtnmkkejodkjjiaaDoor.HstD
open Go.RowKit Go.Proofs.YtnmkkejodkjjiaaDoor.Base Go.Proofs.YtnmkkejodkjjiaaDoor.Base2 Go.Proofs.YtnmkkejodkjjiaaDoor.UtfL Go.Proofs.YtnmkkejodkjjiaaDoor.QudP Go.Proofs.YtnmkkejodkjjiaaDoor.SixP Go.Proofs.YtnmkkejodkjjiaaDoor.SixB Go.Proofs.YtnmkkejodkjjiaaDoor.SixC Go.Proofs.YtnmkkejodkjjiaaDoor.SixG Go.Proofs.YtnmkkejodkjjiaaDoor.SixH Go.Proofs.YtnmkkejodkjjiaaDoor.SixI Go.Proofs.YtnmkkejodkjjiaaDoor.SixL Go.Proofs.YtnmkkejodkjjiaaDoor.SixM Go.Proofs.YtnmkkejodkjjiaaDoor.HstP Go.Proofs.YtnmkkejodkjjiaaDoor.HstA Go.Proofs.YtnmkkejodkjjiaaDoor.HstB Go.Proofs.YtnmkkejodkjjiaaDoor.HstC

theorem suffix_snoc (N : List UInt8) (d : UInt8) : Lib.hasSuffix (N ++ [d]) [93] = decide (d = 93) := by
  unfold Lib.hasSuffix
  rw [Bool.eq_iff_iff, List.isSuffixOf_iff_suffix, decide_eq_true_iff]
  constructor
  · rintro ⟨t, ht⟩
    have := List.append_inj_right' ht rfl
    simp at this
    exact this.symm
  · rintro rfl
    exact ⟨N, rfl⟩
theorem hbr_no {M : List UInt8} {c : UInt8} (h : (91 :: M).getLast? = some c) (hc : c ≠ 93) : hbr M = none := by
  rcases List.eq_nil_or_concat M with rfl | ⟨N, d, rfl⟩
  · rfl
  · have : d = c := by
      rw [List.concat_eq_append, ← List.cons_append, List.getLast?_append] at h
      simpa using h
    subst this
    unfold hbr
    rw [List.concat_eq_append, suffix_snoc, decide_eq_false hc]
    rfl
theorem hbr_yes {M : List UInt8} (h : (91 :: M).getLast? = some 93) : 1 ≤ M.length ∧ hbr M = addr (M.take (M.length - 1)) := by
  rcases List.eq_nil_or_concat M with rfl | ⟨N, d, rfl⟩
  · simp at h
  · have : d = 93 := by
      rw [List.concat_eq_append, ← List.cons_append, List.getLast?_append] at h
      simpa using h
    subst this
    have hs : Lib.hasSuffix (N ++ [93]) [93] = true := by rw [suffix_snoc]; rfl
    refine ⟨by simp, ?_⟩
    unfold hbr Lib.trimSuffix
    rw [List.concat_eq_append, if_pos hs, if_pos hs]
    rfl
theorem last_byte (s : ByteArray) (h : 0 < s.size) : ∃ (j : Nat) (c : UInt8), (s.size : Int) - 1 = (j : Int) ∧ s.size = j + 1 ∧ ∃ hj : j < s.size, s[j] = c ∧ s.data.toList.getLast? = some c := by
  have hl : s.data.toList.length = s.size := Array.length_toList
  refine ⟨s.size - 1, s[s.size - 1], by omega, by omega, by omega, rfl, ?_⟩
  rw [List.getLast?_eq_getElem?, hl]
  exact List.getElem?_eq_getElem (by rw [hl]; omega)
theorem cut_mid (s : ByteArray) (M : List UInt8) (j : Nat) (h : s.data.toList = 91 :: M) (hj : s.size = j + 1) : (s.extract 1 j).data.toList = M.take (M.length - 1) := by
  have hl : s.data.toList.length = s.size := Array.length_toList
  rw [ByteArray.data_extract]
  simp only [Array.toList_extract, List.extract_eq_take_drop]
  rw [h] at hl ⊢
  simp at hl ⊢
  rw [show M.length - 1 = j - 1 by omega]
  omega
theorem str_nil {s : ByteArray} (h : s.size = 0) : s.toList = [] := by
  rw [Lib.toList_data]
  exact List.eq_nil_of_length_eq_zero (by rw [Array.length_toList]; exact h)
theorem in0 (c : UInt8) (w : World) : Calls Tryd.prog 58 #[.int .i64 0, .int .u8 (c.toNat : Int)] w fun e w' => e = .returned (.bool (EscI.inS 0 c.toNat)) ∧ w = w' := by
  by_cases hf : (c.toNat : Int) < 32 ∨ 126 < (c.toNat : Int)
  · exact EscI.ref_far 0 c.toNat w (by omega) (by omega) hf
  · exact EscI.ref_0 c.toNat w (by omega) (by omega)
theorem enc0_any (s : ByteArray) (w : World) (hs : s.size ≤ 1073741824) : Calls Tryd.prog 37 #[.int .i64 0, .string s] w fun e w' => e = .returned (.string (strOf (EscE.enc 0 s.data.toList))) ∧ Below w.heap.size w w' := EscR.ref_encode 0 s w hs in0
theorem first_byte (s : ByteArray) (h : 0 < s.size) (hh : ¬ s.data.toList.head? = some 91) : (s.toList == []) = false ∧ s.toList.isEmpty = false ∧ ¬ s.toList = [] ∧ ∃ x : UInt8, s[0] = x ∧ ((x.toNat : Int) == 91) = false ∧ ¬ (x.toNat : Int) = 91 := by
  have hl : s.data.toList.length = s.size := Array.length_toList
  obtain ⟨a, r, hM⟩ : ∃ a r, s.data.toList = a :: r := by
    cases e : s.data.toList with
    | nil => rw [e] at hl; simp at hl; omega
    | cons a r => exact ⟨a, r, rfl⟩
  have hs0 : s[0] = a := by
    have : s.data.toList[0]'(by omega) = s[0] := rfl
    rw [← this]
    simp only [hM, List.getElem_cons_zero]
  have ha : a ≠ 91 := by
    intro e
    rw [hM, e] at hh
    exact hh rfl
  have hn : ¬ (a.toNat : Int) = 91 := fun e => ha (UInt8.toNat_inj.1 (by show _ = 91; omega))
  rw [Lib.toList_data, hM]
  exact ⟨rfl, rfl, by simp, a, hs0, by rw [beq_eq_false_iff_ne]; exact hn, hn⟩
set_option linter.unusedSimpArgs false in
set_option maxRecDepth 100000 in
set_option maxHeartbeats 8000000 in
theorem parse_any (s : ByteArray) (sp : Bool) (w : World) (hs : s.size ≤ 900000) : Calls Tryd.prog 19 #[.string s, .bool sp] w fun e w' => e = .returned (HV (hst s.data.toList sp)) ∧ Below w.heap.size w w' := by
  have hl : s.data.toList.length = s.size := Array.length_toList
  have HLE := hid hl
  obtain ⟨H, hH⟩ : ∃ H, H = HV (hst s.data.toList sp) := ⟨_, rfl⟩
  rw [← hH]
  have HS9 := hid hs
  clear hl
  by_cases hh : s.data.toList.head? = some 91
  · have hH2 : H = HV (hbr s.data.toList.tail) := by rw [hH]; unfold hst; rw [if_pos hh]
    obtain ⟨M, hM⟩ : ∃ M, s.data.toList = 91 :: M := by
      cases e : s.data.toList with
      | nil => rw [e] at hh; cases hh
      | cons a r => rw [e] at hh; simp at hh; exact ⟨r, by rw [hh]⟩
    have h1 : 1 ≤ s.size := by rw [← HLE.out, hM]; simp
    rw [hM] at hH2
    replace hH2 : H = HV (hbr M) := hH2
    have hs0 : s[0] = 91 := by
      have : s.data.toList[0]'(by rw [HLE.out]; omega) = s[0] := rfl
      rw [← this]
      simp only [hM, List.getElem_cons_zero]
    have hq : (s.toList == []) = false := by
      rw [Lib.toList_data, hM]
      rfl
    have hq2 : s.toList.isEmpty = false := by rw [Lib.toList_data, hM]; rfl
    have hq3 : ¬ s.toList = [] := by rw [Lib.toList_data, hM]; simp
    obtain ⟨j, c, hj1, hj2, hj3, hj4, hj5⟩ := last_byte s h1
    rw [hM] at hj5
    have hji : (j : Int) < (s.size : Int) := by omega
    have hj0 : (0 : Int) ≤ (j : Int) := by omega
    have hjm : (j : Int) ≤ 900000 := by omega
    have h0i : (0 : Int) < (s.size : Int) := by omega
    by_cases hc : c = 93
    · rw [hc] at hj5
      obtain ⟨hM1, hM2⟩ := hbr_yes hj5
      rw [hM2] at hH2
      have hX := cut_mid s M j hM hj2
      obtain ⟨X, hXe⟩ : ∃ X, X = s.extract 1 j := ⟨_, rfl⟩
      have hXs : X.size ≤ 1048576 := by rw [hXe, ByteArray.size_extract]; omega
      rw [← hXe] at hX
      rw [← hX] at hH2
      have hj2' : 2 ≤ s.size := by
        have := HLE.out
        rw [hM] at this
        simp at this
        omega
      have h2i : ¬ (s.size : Int) < 2 := by omega
      have h1j : (1 : Int) ≤ (j : Int) := by omega
      have hcc : ((c.toNat : Int) != 93) = false := by rw [hc]; rfl
      have hpa := fun w => SixF.parse_any X w hXs
      have HXE := hid hXe
      have HJ2 := hid hj2
      clear hH hM hj5 hM1 hM2 hX hXs hXe hj2' hj2 hc hh hs
      cases hv : six X.data.toList with
      | none =>
        have HE : Hid (H = .tuple #[.string (strOf []), .bool false]) := by show _ = _; rw [hH2]; unfold addr; rw [hv]; rfl
        rw [hv] at hpa
        obtain ⟨f, hf⟩ : ∃ f : Nat → Nat, V8 f = zer := ⟨fun _ => 0, rfl⟩
        have HV2 : Hid (SixV none = .tuple #[.agg #[.int .u16 (f 0 : Int), .int .u16 (f 1 : Int), .int .u16 (f 2 : Int), .int .u16 (f 3 : Int), .int .u16 (f 4 : Int), .int .u16 (f 5 : Int), .int .u16 (f 6 : Int), .int .u16 (f 7 : Int)], .bool false]) := by
          show SixV none = .tuple #[.agg (ncells (V8 f)).toArray, .bool false]
          rw [hf]
          rfl
        rw [HV2.out] at hpa
        have HP := hid hpa
        clear hpa hv hH2 hf
        go_enter Tryd.func19, Tryd.ntmps19
        go_wp2_with fail
        rw [← HXE.out]
        refine (HP.out _).mono ?_
        rintro e w2 ⟨rfl, hb2⟩
        have HB2 := hid hb2
        clear hb2
        go_wp2
        go_ret2
        exact ⟨by rw [HE.out]; rfl, HB2.out.alloc HB2.out.size _⟩
      | some V =>
        obtain ⟨f, rfl, h6⟩ := six_fun hv
        have hE : H = .tuple #[.string (strOf (91 :: (SixI.prt f ++ [93]))), .bool true] := by rw [hH2]; unfold addr; rw [hv, ← prtL_V8]; rfl
        rw [hv] at hpa
        have HV2 : Hid (SixV (some (V8 f)) = .tuple #[.agg #[.int .u16 (f 0 : Int), .int .u16 (f 1 : Int), .int .u16 (f 2 : Int), .int .u16 (f 3 : Int), .int .u16 (f 4 : Int), .int .u16 (f 5 : Int), .int .u16 (f 6 : Int), .int .u16 (f 7 : Int)], .bool true]) := rfl
        rw [HV2.out] at hpa
        have HP := hid hpa
        obtain ⟨P, hP⟩ : ∃ P, P = strOf (SixI.prt f) := ⟨_, rfl⟩
        have HPR : Hid (∀ w, Calls Tryd.prog 15 #[A8 f] w fun e w' => e = .returned (.string P) ∧ Below w.heap.size w w') := by
          show ∀ w, _
          rw [hP]
          exact fun w => SixK.print_any f h6 w
        obtain ⟨Y, hY⟩ : ∃ Y, Y = strOf (91 :: SixI.prt f) := ⟨_, rfl⟩
        obtain ⟨Z, hZ⟩ : ∃ Z, Z = strOf (91 :: (SixI.prt f ++ [93])) := ⟨_, rfl⟩
        rw [← hZ] at hE
        have hpl := prt_len f
        have a1 : ∀ w : World, (Op.stringOp .add ⟨#[91]⟩ P).run Tryd.prog w = .ok (.string Y) w := fun w => by
          rw [hY, hP]
          exact str_add [91] _ w (by simp; omega)
        have a2 : ∀ w : World, (Op.stringOp .add Y ⟨#[93]⟩).run Tryd.prog w = .ok (.string Z) w := fun w => by
          rw [hZ, hY]
          exact str_add (91 :: SixI.prt f) [93] w (by simp; omega)
        have HE := hid hE
        clear hpa hv hH2 hE hP hY hZ hpl h6 HV2
        go_enter Tryd.func19, Tryd.ntmps19
        go_wp2_with fail
        rw [← HXE.out]
        refine (HP.out _).mono ?_
        rintro e w2 ⟨rfl, hb2⟩
        have HB2 := hid hb2
        clear hb2
        go_upto_region 5 with (fail)
        generalize hw3 : w2.alloc _ = w3
        have HB3 : Hid (Below w.heap.size w w3) := by
          show Below _ _ _
          rw [← hw3]
          exact HB2.out.alloc HB2.out.size _
        have HX3 : Hid (Box w3 w2.heap.size 24 (V8 f)) := by
          show Box _ _ _ _
          rw [← hw3]
          exact box_new f
        clear hw3
        obtain ⟨c0, c1, c2, c3, c4, c5, c6, c7⟩ := cells8 HX3.out f rfl
        go_wp2_with fail
        clear c0 c1 c2 c3 c4 c5 c6 c7
        refine (HPR.out _).mono ?_
        rintro e w4 ⟨rfl, hb4⟩
        have HB4 := hid (bel HB3.out hb4)
        clear hb4
        go_wp2
        go_ret2
        exact ⟨by rw [HE.out]; rfl, HB4.out⟩
    · rw [hbr_no hj5 hc] at hH2
      have HE : Hid (H = .tuple #[.string (strOf []), .bool false]) := hH2
      have hcc : ((c.toNat : Int) != 93) = true := by
        rw [bne_iff_ne]
        intro e
        exact hc (UInt8.toNat_inj.1 (by show _ = 93; omega))
      have HJ2 := hid hj2
      clear hH hM hj5 hH2 hj2 hc hh hs
      go_enter Tryd.func19, Tryd.ntmps19
      go_wp2
      go_ret2
      exact ⟨by rw [HE.out]; rfl, Below.refl _ _⟩
  · cases sp with
    | true =>
      have hH2 : H = HV (if oks true (lower (EscD.dec s.data.toList)) = true then dm2 (lower (EscD.dec s.data.toList)) else none) := by
        rw [hH]
        unfold hst
        rw [if_neg hh, if_pos rfl]
        unfold dmn
        rw [oks_lower]
      obtain ⟨D, hD⟩ : ∃ D : ByteArray, D = strOf (EscD.dec s.data.toList) := ⟨_, rfl⟩
      obtain ⟨M, hM⟩ : ∃ M : ByteArray, M = strOf (lower D.data.toList) := ⟨_, rfl⟩
      have hDd : EscD.dec s.data.toList = D.data.toList := by rw [hD]; rfl
      have hMd : lower D.data.toList = M.data.toList := by rw [hM]; rfl
      have hDs : D.size ≤ 900000 := by
        rw [hD, size_strOf]
        have := EscD.dec_len s.data.toList
        rw [HLE.out] at this
        omega
      have hMs : M.size ≤ 900000 := by
        rw [hM, size_strOf, lower_len]
        have : D.data.toList.length = D.size := Array.length_toList
        omega
      have HDC : Hid (∀ w, Calls Tryd.prog 36 #[.string s] w fun e w' => e = .returned (.string D) ∧ Below w.heap.size w w') := by
        show ∀ w, _
        rw [hD]
        exact fun w => EscF.decode_ref s w (by omega)
      have HLW : Hid (∀ w, Calls Tryd.prog 35 #[.string D] w fun e w' => e = .returned (.string M) ∧ Below w.heap.size w w') := by
        show ∀ w, _
        rw [hM]
        exact fun w => RefA.lower_any D w (by omega)
      rw [hDd, hMd] at hH2
      have HH := hid hH2
      have hlm : M.data.toList.length = M.size := Array.length_toList
      have HLM := hid hlm
      have HM9 := hid hMs
      clear hH hH2 hD hM hDd hMd hDs hMs hlm
      rcases Nat.eq_zero_or_pos s.size with h0 | h0
      · have hq : s.toList = [] := str_nil h0
        have hq2 : (s.toList == []) = true := by rw [hq]; rfl
        clear hh h0 hs hq
        go_enter Tryd.func19, Tryd.ntmps19
        go_wp2_with fail
        refine (HDC.out _).mono ?_
        rintro e w1 ⟨rfl, hb1⟩
        have HB1 := hid hb1
        clear hb1
        go_wp2_with fail
        refine (HLW.out _).mono ?_
        rintro e wm ⟨rfl, hb2⟩
        have HB2 := hid (bel HB1.out hb2)
        clear hb2
        go_wp2
        go_loopw [8, 50] (fun _ vk wr => ∃ k : Nat, k ≤ M.size ∧ vk = .int .i64 (k : Int) ∧ wr = wm ∧ Hid (oks true (M.data.toList.take k) = true)) (fun _ vk _ => M.size - (intOf vk).toNat)
        case atStart => exact ⟨0, Nat.zero_le _, rfl, rfl, rfl⟩
        case round =>
          obtain ⟨k, hk, rfl, rfl, HO⟩ := hrel
          have hmz : M.size ≤ 900000 := HM9.out
          by_cases hlt : k < M.size
          · obtain ⟨c, hc⟩ : ∃ c, M[k] = c := ⟨_, rfl⟩
            have hkl : k < M.data.toList.length := by rw [HLM.out]; exact hlt
            have hcl : M.data.toList[k] = c := hc
            cases hf : fbd true c with
            | true =>
              have HE : Hid (H = .tuple #[.string (strOf []), .bool false]) := by
                show _ = _
                rw [HH.out, if_neg (by rw [oks_no true _ k hkl (by rw [hcl, okb_true, hf]; rfl)]; exact Bool.false_ne_true)]
                rfl
              have hfc := fun w => refForbidden_any c true w
              rw [hf] at hfc
              have HF := hid hfc
              clear hkl hcl hf hfc
              go_wp2_with fail
              refine (HF.out _).mono ?_
              rintro e w2 ⟨rfl, rfl⟩
              go_wp2
              go_ret2
              exact ⟨by rw [HE.out]; rfl, HB2.out⟩
            | false =>
              by_cases h126 : (126 : Int) < (c.toNat : Int)
              · have HE : Hid (H = .tuple #[.string (strOf []), .bool false]) := by
                  show _ = _
                  rw [HH.out, if_neg]
                  · rfl
                  · rw [oks_no true _ k hkl (by rw [hcl, okb_true, decide_eq_false (by omega), Bool.and_false])]
                    exact Bool.false_ne_true
                have hfc := fun w => refForbidden_any c true w
                rw [hf] at hfc
                have HF := hid hfc
                clear hkl hcl hf hfc
                go_wp2_with fail
                refine (HF.out _).mono ?_
                rintro e w2 ⟨rfl, rfl⟩
                go_wp2
                go_ret2
                exact ⟨by rw [HE.out]; rfl, HB2.out⟩
              · have hc126 : ¬ (126 : Int) < (c.toNat : Int) := h126
                have HN : Hid (oks true (M.data.toList.take (k + 1)) = true) := by
                  show _ = _
                  rw [oks_take_succ true _ k hkl, HO.out, hcl]
                  unfold okb
                  rw [hf]
                  rw [decide_eq_true (by omega)]; rfl
                have hfc := fun w => refForbidden_any c true w
                rw [hf] at hfc
                have HF := hid hfc
                clear hkl hcl hf hfc
                go_wp2_with fail
                refine (HF.out _).mono ?_
                rintro e w2 ⟨rfl, rfl⟩
                go_wp2
                go_roundw
                case rel => exact ⟨k + 1, by omega, by go_num, by first | rfl | trivial, HN.out⟩
                case measure => simp [intOf]; omega
          · have hO : oks true M.data.toList = true := by
              have := HO.out
              rw [List.take_of_length_le (by rw [HLM.out]; omega)] at this
              exact this
            have hH3 : H = HV (dm2 M.data.toList) := by rw [HH.out, if_pos hO]
            have hend := fun w => QudD.refEnds_any M w HM9.out
            clear hO HO HH
            by_cases hM0 : M.data.toList = []
            · have HE : Hid (H = .tuple #[.string (strOf []), .bool false]) := by show _ = _; rw [hH3, hM0]; rfl
              have hq : M.toList = [] := by rw [Lib.toList_data]; exact hM0
              have hq2 : (M.toList == []) = true := by rw [hq]; rfl
              clear hend hM0 hH3 hq
              go_wp2
              go_ret2
              exact ⟨by rw [HE.out]; rfl, HB2.out⟩
            · have hq : (M.toList == []) = false := by
                rw [Lib.toList_data, beq_eq_false_iff_ne]
                exact hM0
              have hq2 : M.toList.isEmpty = false := by rw [Lib.toList_data]; simpa using hM0
              have hq3 : ¬ M.toList = [] := by rw [Lib.toList_data]; exact hM0
              cases he : ends M.data.toList with
              | false =>
                rw [he] at hend
                have HEN := hid hend
                have HE : Hid (H = .tuple #[.string M, .bool true]) := by
                  show _ = _
                  rw [hH3]
                  unfold dm2
                  rw [if_neg hM0, he, if_neg (by simp)]
                  show Value.tuple #[.string (strOf M.data.toList), .bool true] = _
                  rw [strOf_toList]
                clear hend he hM0 hH3
                go_wp2_with fail
                refine (HEN.out _).mono ?_
                rintro e w3 ⟨rfl, hb3⟩
                have HB3 := hid (bel HB2.out hb3)
                clear hb3
                go_wp2
                go_ret2
                exact ⟨by rw [HE.out]; rfl, HB3.out⟩
              | true =>
                rw [he] at hend
                have HEN := hid hend
                have hH4 : H = HV ((prs M.data.toList).map QudG.pr) := by rw [hH3]; unfold dm2; rw [if_neg hM0, he, if_pos rfl]
                have hpa := fun w => QudF.refParse_any M w HM9.out
                clear hend he hM0 hH3
                cases hp : prs M.data.toList with
                | none =>
                  rw [hp] at hpa hH4
                  have HE : Hid (H = .tuple #[.string (strOf []), .bool false]) := by show _ = _; rw [hH4]; rfl
                  have HV2 : Hid (QudE.PrsV none = .tuple #[.int .u32 0, .bool false]) := QudE.prsV_none _ rfl
                  rw [HV2.out] at hpa
                  have HP := hid hpa
                  clear hpa hH4 hp
                  go_wp2_with fail
                  refine (HEN.out _).mono ?_
                  rintro e w3 ⟨rfl, hb3⟩
                  have HB3 := hid (bel HB2.out hb3)
                  clear hb3
                  go_wp2_with fail
                  refine (HP.out _).mono ?_
                  rintro e w4 ⟨rfl, hb4⟩
                  have HB4 := hid (bel HB3.out hb4)
                  clear hb4
                  go_wp2
                  go_ret2
                  exact ⟨by rw [HE.out]; rfl, HB4.out⟩
                | some n =>
                  have hn := prs_lt hp
                  rw [hp] at hpa hH4
                  obtain ⟨R, hR⟩ : ∃ R : ByteArray, R = strOf (QudG.pr n) := ⟨_, rfl⟩
                  have HE : Hid (H = .tuple #[.string R, .bool true]) := by show _ = _; rw [hH4, hR]; rfl
                  have HV2 : Hid (QudE.PrsV (some n) = .tuple #[.int .u32 (n : Int), .bool true]) := QudE.prsV_some _ n rfl
                  rw [HV2.out] at hpa
                  have HP := hid hpa
                  have HPR : Hid (∀ w, Calls Tryd.prog 40 #[.int .u32 (n : Int)] w fun e w' => e = .returned (.string R) ∧ Below w.heap.size w w') := by
                    show ∀ w, _
                    rw [hR]
                    exact fun w => QudH.refPrint_any n hn w
                  clear hpa hH4 hp hn hR
                  go_wp2_with fail
                  refine (HEN.out _).mono ?_
                  rintro e w3 ⟨rfl, hb3⟩
                  have HB3 := hid (bel HB2.out hb3)
                  clear hb3
                  go_wp2_with fail
                  refine (HP.out _).mono ?_
                  rintro e w4 ⟨rfl, hb4⟩
                  have HB4 := hid (bel HB3.out hb4)
                  clear hb4
                  go_wp2_with fail
                  refine (HPR.out _).mono ?_
                  rintro e w5 ⟨rfl, hb5⟩
                  have HB5 := hid (bel HB4.out hb5)
                  clear hb5
                  go_wp2
                  go_ret2
                  exact ⟨by rw [HE.out]; rfl, HB5.out⟩
      · obtain ⟨hq, hq2, hq3, x, hx0, hx, hxn⟩ := first_byte s h0 hh
        have h0i : (0 : Int) < (s.size : Int) := by omega
        clear hh hs
        go_enter Tryd.func19, Tryd.ntmps19
        go_wp2_with fail
        refine (HDC.out _).mono ?_
        rintro e w1 ⟨rfl, hb1⟩
        have HB1 := hid hb1
        clear hb1
        go_wp2_with fail
        refine (HLW.out _).mono ?_
        rintro e wm ⟨rfl, hb2⟩
        have HB2 := hid (bel HB1.out hb2)
        clear hb2
        go_wp2
        go_loopw [8, 50] (fun _ vk wr => ∃ k : Nat, k ≤ M.size ∧ vk = .int .i64 (k : Int) ∧ wr = wm ∧ Hid (oks true (M.data.toList.take k) = true)) (fun _ vk _ => M.size - (intOf vk).toNat)
        case atStart => exact ⟨0, Nat.zero_le _, rfl, rfl, rfl⟩
        case round =>
          obtain ⟨k, hk, rfl, rfl, HO⟩ := hrel
          have hmz : M.size ≤ 900000 := HM9.out
          by_cases hlt : k < M.size
          · obtain ⟨c, hc⟩ : ∃ c, M[k] = c := ⟨_, rfl⟩
            have hkl : k < M.data.toList.length := by rw [HLM.out]; exact hlt
            have hcl : M.data.toList[k] = c := hc
            cases hf : fbd true c with
            | true =>
              have HE : Hid (H = .tuple #[.string (strOf []), .bool false]) := by
                show _ = _
                rw [HH.out, if_neg (by rw [oks_no true _ k hkl (by rw [hcl, okb_true, hf]; rfl)]; exact Bool.false_ne_true)]
                rfl
              have hfc := fun w => refForbidden_any c true w
              rw [hf] at hfc
              have HF := hid hfc
              clear hkl hcl hf hfc
              go_wp2_with fail
              refine (HF.out _).mono ?_
              rintro e w2 ⟨rfl, rfl⟩
              go_wp2
              go_ret2
              exact ⟨by rw [HE.out]; rfl, HB2.out⟩
            | false =>
              by_cases h126 : (126 : Int) < (c.toNat : Int)
              · have HE : Hid (H = .tuple #[.string (strOf []), .bool false]) := by
                  show _ = _
                  rw [HH.out, if_neg]
                  · rfl
                  · rw [oks_no true _ k hkl (by rw [hcl, okb_true, decide_eq_false (by omega), Bool.and_false])]
                    exact Bool.false_ne_true
                have hfc := fun w => refForbidden_any c true w
                rw [hf] at hfc
                have HF := hid hfc
                clear hkl hcl hf hfc
                go_wp2_with fail
                refine (HF.out _).mono ?_
                rintro e w2 ⟨rfl, rfl⟩
                go_wp2
                go_ret2
                exact ⟨by rw [HE.out]; rfl, HB2.out⟩
              · have hc126 : ¬ (126 : Int) < (c.toNat : Int) := h126
                have HN : Hid (oks true (M.data.toList.take (k + 1)) = true) := by
                  show _ = _
                  rw [oks_take_succ true _ k hkl, HO.out, hcl]
                  unfold okb
                  rw [hf]
                  rw [decide_eq_true (by omega)]; rfl
                have hfc := fun w => refForbidden_any c true w
                rw [hf] at hfc
                have HF := hid hfc
                clear hkl hcl hf hfc
                go_wp2_with fail
                refine (HF.out _).mono ?_
                rintro e w2 ⟨rfl, rfl⟩
                go_wp2
                go_roundw
                case rel => exact ⟨k + 1, by omega, by go_num, by first | rfl | trivial, HN.out⟩
                case measure => simp [intOf]; omega
          · have hO : oks true M.data.toList = true := by
              have := HO.out
              rw [List.take_of_length_le (by rw [HLM.out]; omega)] at this
              exact this
            have hH3 : H = HV (dm2 M.data.toList) := by rw [HH.out, if_pos hO]
            have hend := fun w => QudD.refEnds_any M w HM9.out
            clear hO HO HH
            by_cases hM0 : M.data.toList = []
            · have HE : Hid (H = .tuple #[.string (strOf []), .bool false]) := by show _ = _; rw [hH3, hM0]; rfl
              have hq : M.toList = [] := by rw [Lib.toList_data]; exact hM0
              have hq2 : (M.toList == []) = true := by rw [hq]; rfl
              clear hend hM0 hH3 hq
              go_wp2
              go_ret2
              exact ⟨by rw [HE.out]; rfl, HB2.out⟩
            · have hq : (M.toList == []) = false := by
                rw [Lib.toList_data, beq_eq_false_iff_ne]
                exact hM0
              have hq2 : M.toList.isEmpty = false := by rw [Lib.toList_data]; simpa using hM0
              have hq3 : ¬ M.toList = [] := by rw [Lib.toList_data]; exact hM0
              cases he : ends M.data.toList with
              | false =>
                rw [he] at hend
                have HEN := hid hend
                have HE : Hid (H = .tuple #[.string M, .bool true]) := by
                  show _ = _
                  rw [hH3]
                  unfold dm2
                  rw [if_neg hM0, he, if_neg (by simp)]
                  show Value.tuple #[.string (strOf M.data.toList), .bool true] = _
                  rw [strOf_toList]
                clear hend he hM0 hH3
                go_wp2_with fail
                refine (HEN.out _).mono ?_
                rintro e w3 ⟨rfl, hb3⟩
                have HB3 := hid (bel HB2.out hb3)
                clear hb3
                go_wp2
                go_ret2
                exact ⟨by rw [HE.out]; rfl, HB3.out⟩
              | true =>
                rw [he] at hend
                have HEN := hid hend
                have hH4 : H = HV ((prs M.data.toList).map QudG.pr) := by rw [hH3]; unfold dm2; rw [if_neg hM0, he, if_pos rfl]
                have hpa := fun w => QudF.refParse_any M w HM9.out
                clear hend he hM0 hH3
                cases hp : prs M.data.toList with
                | none =>
                  rw [hp] at hpa hH4
                  have HE : Hid (H = .tuple #[.string (strOf []), .bool false]) := by show _ = _; rw [hH4]; rfl
                  have HV2 : Hid (QudE.PrsV none = .tuple #[.int .u32 0, .bool false]) := QudE.prsV_none _ rfl
                  rw [HV2.out] at hpa
                  have HP := hid hpa
                  clear hpa hH4 hp
                  go_wp2_with fail
                  refine (HEN.out _).mono ?_
                  rintro e w3 ⟨rfl, hb3⟩
                  have HB3 := hid (bel HB2.out hb3)
                  clear hb3
                  go_wp2_with fail
                  refine (HP.out _).mono ?_
                  rintro e w4 ⟨rfl, hb4⟩
                  have HB4 := hid (bel HB3.out hb4)
                  clear hb4
                  go_wp2
                  go_ret2
                  exact ⟨by rw [HE.out]; rfl, HB4.out⟩
                | some n =>
                  have hn := prs_lt hp
                  rw [hp] at hpa hH4
                  obtain ⟨R, hR⟩ : ∃ R : ByteArray, R = strOf (QudG.pr n) := ⟨_, rfl⟩
                  have HE : Hid (H = .tuple #[.string R, .bool true]) := by show _ = _; rw [hH4, hR]; rfl
                  have HV2 : Hid (QudE.PrsV (some n) = .tuple #[.int .u32 (n : Int), .bool true]) := QudE.prsV_some _ n rfl
                  rw [HV2.out] at hpa
                  have HP := hid hpa
                  have HPR : Hid (∀ w, Calls Tryd.prog 40 #[.int .u32 (n : Int)] w fun e w' => e = .returned (.string R) ∧ Below w.heap.size w w') := by
                    show ∀ w, _
                    rw [hR]
                    exact fun w => QudH.refPrint_any n hn w
                  clear hpa hH4 hp hn hR
                  go_wp2_with fail
                  refine (HEN.out _).mono ?_
                  rintro e w3 ⟨rfl, hb3⟩
                  have HB3 := hid (bel HB2.out hb3)
                  clear hb3
                  go_wp2_with fail
                  refine (HP.out _).mono ?_
                  rintro e w4 ⟨rfl, hb4⟩
                  have HB4 := hid (bel HB3.out hb4)
                  clear hb4
                  go_wp2_with fail
                  refine (HPR.out _).mono ?_
                  rintro e w5 ⟨rfl, hb5⟩
                  have HB5 := hid (bel HB4.out hb5)
                  clear hb5
                  go_wp2
                  go_ret2
                  exact ⟨by rw [HE.out]; rfl, HB5.out⟩
    | false =>
      have HH : Hid (H = HV (plc s.data.toList)) := by show _ = _; rw [hH]; unfold hst; rw [if_neg hh, if_neg (by simp)]
      clear hH
      rcases Nat.eq_zero_or_pos s.size with h0 | h0
      · have hq : s.toList = [] := str_nil h0
        have hq2 : (s.toList == []) = true := by rw [hq]; rfl
        clear hh h0 hs hq
        go_enter Tryd.func19, Tryd.ntmps19
        go_wp2
        go_loopw [8, 50] (fun _ vk wr => ∃ k : Nat, k ≤ s.size ∧ vk = .int .i64 (k : Int) ∧ wr = w ∧ Hid (oks false (s.data.toList.take k) = true)) (fun _ vk _ => s.size - (intOf vk).toNat)
        case atStart => exact ⟨0, Nat.zero_le _, rfl, rfl, rfl⟩
        case round =>
          obtain ⟨k, hk, rfl, rfl, HO⟩ := hrel
          have hmz : s.size ≤ 900000 := HS9.out
          by_cases hlt : k < s.size
          · obtain ⟨c, hc⟩ : ∃ c, s[k] = c := ⟨_, rfl⟩
            have hkl : k < s.data.toList.length := by rw [HLE.out]; exact hlt
            have hcl : s.data.toList[k] = c := hc
            cases hf : fbd false c with
            | true =>
              have HE : Hid (H = .tuple #[.string (strOf []), .bool false]) := by
                show _ = _
                rw [HH.out]; unfold plc; rw [oks_no false _ k hkl (by rw [hcl]; unfold okb; rw [hf]; rfl)]; rfl
              have hfc := fun w => refForbidden_any c false w
              rw [hf] at hfc
              have HF := hid hfc
              clear hkl hcl hf hfc
              go_wp2_with fail
              refine (HF.out _).mono ?_
              rintro e w2 ⟨rfl, rfl⟩
              go_wp2
              go_ret2
              exact ⟨by rw [HE.out]; rfl, Below.refl _ _⟩
            | false =>
              have HN : Hid (oks false (s.data.toList.take (k + 1)) = true) := by
                show _ = _
                rw [oks_take_succ false _ k hkl, HO.out, hcl]
                unfold okb
                rw [hf]
                rfl
              have hfc := fun w => refForbidden_any c false w
              rw [hf] at hfc
              have HF := hid hfc
              clear hkl hcl hf hfc
              go_wp2_with fail
              refine (HF.out _).mono ?_
              rintro e w2 ⟨rfl, rfl⟩
              go_wp2
              go_roundw
              case rel => exact ⟨k + 1, by omega, by go_num, by first | rfl | trivial, HN.out⟩
              case measure => simp [intOf]; omega
          · have hO : oks false s.data.toList = true := by
              have := HO.out
              rw [List.take_of_length_le (by rw [HLE.out]; omega)] at this
              exact this
            obtain ⟨R, hR⟩ : ∃ R : ByteArray, R = strOf (EscE.enc 0 s.data.toList) := ⟨_, rfl⟩
            have HE : Hid (H = .tuple #[.string R, .bool true]) := by
              show _ = _
              rw [HH.out]
              unfold plc
              rw [if_pos hO, hR]
              rfl
            have HEC : Hid (∀ w, Calls Tryd.prog 37 #[.int .i64 0, .string s] w fun e w' => e = .returned (.string R) ∧ Below w.heap.size w w') := by
              show ∀ w, _
              rw [hR]
              exact fun w => enc0_any s w (by have := HS9.out; omega)
            clear hO HO HH hR
            go_wp2_with fail
            refine (HEC.out _).mono ?_
            rintro e w3 ⟨rfl, hb3⟩
            go_wp2
            go_ret2
            exact ⟨by rw [HE.out]; rfl, hb3⟩
      · obtain ⟨hq, hq2, hq3, x, hx0, hx, hxn⟩ := first_byte s h0 hh
        have h0i : (0 : Int) < (s.size : Int) := by omega
        clear hh hs
        go_enter Tryd.func19, Tryd.ntmps19
        go_wp2
        go_loopw [8, 50] (fun _ vk wr => ∃ k : Nat, k ≤ s.size ∧ vk = .int .i64 (k : Int) ∧ wr = w ∧ Hid (oks false (s.data.toList.take k) = true)) (fun _ vk _ => s.size - (intOf vk).toNat)
        case atStart => exact ⟨0, Nat.zero_le _, rfl, rfl, rfl⟩
        case round =>
          obtain ⟨k, hk, rfl, rfl, HO⟩ := hrel
          have hmz : s.size ≤ 900000 := HS9.out
          by_cases hlt : k < s.size
          · obtain ⟨c, hc⟩ : ∃ c, s[k] = c := ⟨_, rfl⟩
            have hkl : k < s.data.toList.length := by rw [HLE.out]; exact hlt
            have hcl : s.data.toList[k] = c := hc
            cases hf : fbd false c with
            | true =>
              have HE : Hid (H = .tuple #[.string (strOf []), .bool false]) := by
                show _ = _
                rw [HH.out]; unfold plc; rw [oks_no false _ k hkl (by rw [hcl]; unfold okb; rw [hf]; rfl)]; rfl
              have hfc := fun w => refForbidden_any c false w
              rw [hf] at hfc
              have HF := hid hfc
              clear hkl hcl hf hfc
              go_wp2_with fail
              refine (HF.out _).mono ?_
              rintro e w2 ⟨rfl, rfl⟩
              go_wp2
              go_ret2
              exact ⟨by rw [HE.out]; rfl, Below.refl _ _⟩
            | false =>
              have HN : Hid (oks false (s.data.toList.take (k + 1)) = true) := by
                show _ = _
                rw [oks_take_succ false _ k hkl, HO.out, hcl]
                unfold okb
                rw [hf]
                rfl
              have hfc := fun w => refForbidden_any c false w
              rw [hf] at hfc
              have HF := hid hfc
              clear hkl hcl hf hfc
              go_wp2_with fail
              refine (HF.out _).mono ?_
              rintro e w2 ⟨rfl, rfl⟩
              go_wp2
              go_roundw
              case rel => exact ⟨k + 1, by omega, by go_num, by first | rfl | trivial, HN.out⟩
              case measure => simp [intOf]; omega
          · have hO : oks false s.data.toList = true := by
              have := HO.out
              rw [List.take_of_length_le (by rw [HLE.out]; omega)] at this
              exact this
            obtain ⟨R, hR⟩ : ∃ R : ByteArray, R = strOf (EscE.enc 0 s.data.toList) := ⟨_, rfl⟩
            have HE : Hid (H = .tuple #[.string R, .bool true]) := by
              show _ = _
              rw [HH.out]
              unfold plc
              rw [if_pos hO, hR]
              rfl
            have HEC : Hid (∀ w, Calls Tryd.prog 37 #[.int .i64 0, .string s] w fun e w' => e = .returned (.string R) ∧ Below w.heap.size w w') := by
              show ∀ w, _
              rw [hR]
              exact fun w => enc0_any s w (by have := HS9.out; omega)
            clear hO HO HH hR
            go_wp2_with fail
            refine (HEC.out _).mono ?_
            rintro e w3 ⟨rfl, hb3⟩
            go_wp2
            go_ret2
            exact ⟨by rw [HE.out]; rfl, hb3⟩
end Go.Proofs.YtnmkkejodkjjiaaDoor.HstD
