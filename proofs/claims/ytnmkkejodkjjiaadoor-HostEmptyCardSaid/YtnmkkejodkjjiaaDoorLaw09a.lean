/- The walks of the laws HostReads and HostEmpty: they return true, whatever they are called with. -/
import Derived.Test.YtnmkkejodkjjiaaDoorHstW
import Derived.Test.YtnmkkejodkjjiaaDoorHstD
namespace Go.Proofs.YtnmkkejodkjjiaaDoor.Laws
open Go.RowKit Go.Proofs.YtnmkkejodkjjiaaDoor.Base Go.Proofs.YtnmkkejodkjjiaaDoor.Base2 Go.Proofs.YtnmkkejodkjjiaaDoor.SixG Go.Proofs.YtnmkkejodkjjiaaDoor.HstP Go.Proofs.YtnmkkejodkjjiaaDoor.HstA Go.Proofs.YtnmkkejodkjjiaaDoor.HstB Go.Proofs.YtnmkkejodkjjiaaDoor.HstC Go.Proofs.YtnmkkejodkjjiaaDoor.HstW Go.Proofs.YtnmkkejodkjjiaaDoor.Spl

theorem byte_of (z : Int) (h : 0 ≤ z ∧ z ≤ 255) : ∃ c : UInt8, z = (c.toNat : Int) := by
  refine ⟨UInt8.ofNat z.toNat, ?_⟩
  rw [UInt8.toNat_ofNat']
  omega
set_option linter.unusedSimpArgs false in
set_option maxHeartbeats 2000000 in
theorem HostReads_any (s : ByteArray) (sp : Bool) (z : Int) (w : World) (hs : s.size ≤ 140737488351232) (hz : 0 ≤ z ∧ z ≤ 255) (hT : Tab.Pow w) (hL : Lad w) (hM : Max w) : Calls Tryd.prog 7 #[.string s, .bool sp, .int .u8 z] w fun e w' => e = .returned (.bool true) ∧ Below w.heap.size w w' := by
  obtain ⟨c, rfl⟩ := byte_of z hz
  have HT := hid hT
  have HL := hid hL
  have HM := hid hM
  clear hT hL hM hz
  by_cases h4 : s.size ≤ 400
  · have h4i : ¬ (400 : Int) < (s.size : Int) := by omega
    have hc := fun w hL hT hM => HstC.parse_any s sp w (by omega) hL hT hM
    have hr := fun w => HstD.parse_any s sp w (by omega)
    obtain ⟨X, b, hX⟩ := hv_form (hst s.data.toList sp)
    rw [hX] at hc hr
    have HC := hid hc
    have HR := hid hr
    have HF := hid (fun w => forbidden_any c sp w)
    have HG := hid (fun w => refForbidden_any c sp w)
    generalize fbd sp c = fb at HF HG
    clear hc hr hX h4 hs
    go_enter Tryd.func7, Tryd.ntmps7
    go_wp2_with fail
    refine (awake_any _ HT.out HL.out HM.out).mono ?_
    rintro e w1 ⟨rfl, hb1⟩
    have HB1 := hid hb1
    clear hb1
    go_wp2_with fail
    refine (HC.out _ (HL.out.below HB1.out) (pow_below HT.out HB1.out) (HM.out.below HB1.out)).mono ?_
    rintro e w2 ⟨rfl, hb2⟩
    have HB2 := hid (bel HB1.out hb2)
    clear hb2
    go_wp2_with fail
    refine (HR.out _).mono ?_
    rintro e w3 ⟨rfl, hb3⟩
    have HB3 := hid (bel HB2.out hb3)
    clear hb3
    go_wp2_with fail
    refine (HF.out _).mono ?_
    rintro e w4 ⟨rfl, hw4⟩
    subst hw4
    go_wp2_with fail
    refine (HG.out _).mono ?_
    rintro e w4 ⟨rfl, hw4⟩
    subst hw4
    go_wp2
    go_ret
    exact ⟨by first | rfl | simp, HB3.out⟩
  · have h4i : (400 : Int) < (s.size : Int) := by omega
    clear h4 hs
    go_enter Tryd.func7, Tryd.ntmps7
    go_wp2_with fail
    refine (awake_any _ HT.out HL.out HM.out).mono ?_
    rintro e w1 ⟨rfl, hb1⟩
    have HB1 := hid hb1
    clear hb1
    go_wp2_with fail
    refine (awake_any _ (pow_below HT.out HB1.out) (HL.out.below HB1.out) (HM.out.below HB1.out)).mono ?_
    rintro e w2 ⟨rfl, hb2⟩
    go_wp2
    go_ret
    exact ⟨rfl, bel HB1.out hb2⟩
theorem hst_nil_sp : hst [] true = none := by decide +kernel
theorem hst_nil : hst [] false = some [] := by decide +kernel
theorem hst_bad_plain (c : UInt8) (L : List UInt8) (h : frb c = true) (h91 : c ≠ 91) : hst (c :: L) false = none := by
  unfold hst
  rw [if_neg (by simp [h91]), if_neg (by simp)]
  unfold plc
  rw [if_neg]
  rw [oks_no false (c :: L) 0 (by simp) (by show okb false c = false; rw [okb_false, h]; rfl)]
  exact Bool.false_ne_true
theorem dec_head (c : UInt8) (L : List UInt8) (h : c ≠ 37) : EscD.dec (c :: L) = c :: EscD.dec L := by
  refine EscD.dec_none c L ?_
  unfold EscD.esc
  split
  · rename_i a b d r e
    injection e with e1 e2
    rw [if_neg]
    rintro ⟨h1, _⟩
    exact h (e1.trans h1)
  · rfl
theorem hst_bad_sp (c : UInt8) (L : List UInt8) (h : frb c = true) (h91 : c ≠ 91) : hst (c :: L) true = none := by
  unfold hst
  rw [if_neg (by simp [h91]), if_pos rfl]
  unfold dmn
  rw [if_neg]
  have h37 : c ≠ 37 := by rintro rfl; revert h; decide
  rw [dec_head c L h37, oks_no true (c :: EscD.dec L) 0 (by simp) (by show okb true c = false; rw [okb_true]; unfold fbd; rw [h]; rfl)]
  exact Bool.false_ne_true
set_option linter.unusedSimpArgs false in
set_option maxHeartbeats 2000000 in
theorem HostEmpty_any (z : Int) (s : ByteArray) (w : World) (hz : 0 ≤ z ∧ z ≤ 255) (hs : s.size ≤ 140737488351232) (hT : Tab.Pow w) (hL : Lad w) (hM : Max w) : Calls Tryd.prog 10 #[.int .u8 z, .string s] w fun e w' => e = .returned (.bool true) ∧ Below w.heap.size w w' := by
  obtain ⟨c, rfl⟩ := byte_of z hz
  have HT := hid hT
  have HL := hid hL
  have HM := hid hM
  clear hT hL hM hz
  by_cases h4 : s.size ≤ 200
  · have h4i : ¬ (200 : Int) < (s.size : Int) := by omega
    have h1 := fun w hL hT hM => HstC.parse_any ⟨#[]⟩ true w (by decide) hL hT hM
    rw [show (⟨#[]⟩ : ByteArray).data.toList = [] from rfl, hst_nil_sp] at h1
    have h2 := fun w hL hT hM => HstC.parse_any ⟨#[]⟩ false w (by decide) hL hT hM
    rw [show (⟨#[]⟩ : ByteArray).data.toList = [] from rfl, hst_nil] at h2
    rw [show HV none = .tuple #[.string ⟨#[]⟩, .bool false] from rfl] at h1
    rw [show HV (some []) = .tuple #[.string ⟨#[]⟩, .bool true] from rfl] at h2
    have H1 := hid h1
    have H2 := hid h2
    have HF := hid (fun w => forbidden_any c false w)
    rw [fbd_false] at HF
    obtain ⟨S, hS⟩ : ∃ S : ByteArray, S = strOf ([c] ++ s.data.toList) := ⟨_, rfl⟩
    have hSs : S.size ≤ 900000 := by
      rw [hS, size_strOf]
      have : s.data.toList.length = s.size := Array.length_toList
      simp
      omega
    have hSd : S.data.toList = c :: s.data.toList := by rw [hS]; rfl
    have hadd : ∀ w : World, (Op.stringOp .add (strOf [c]) s).run Tryd.prog w = .ok (.string S) w := fun w => by
      rw [hS]
      have := str_add [c] s.data.toList w (P := Tryd.prog) (by
        have : s.data.toList.length = s.size := Array.length_toList
        simp
        omega)
      rw [strOf_toList] at this
      exact this
    cases hf : frb c with
    | false =>
      rw [hf] at HF
      clear hS hSs hSd hadd h1 h2 h4 hs hf
      go_enter Tryd.func10, Tryd.ntmps10
      go_wp2_with fail
      refine (awake_any _ HT.out HL.out HM.out).mono ?_
      rintro e w1 ⟨rfl, hb1⟩
      have HB1 := hid hb1
      clear hb1
      go_wp2_with fail
      refine (H1.out _ (HL.out.below HB1.out) (pow_below HT.out HB1.out) (HM.out.below HB1.out)).mono ?_
      rintro e w2 ⟨rfl, hb2⟩
      have HB2 := hid (bel HB1.out hb2)
      clear hb2
      go_wp2_with fail
      refine (H2.out _ (HL.out.below HB2.out) (pow_below HT.out HB2.out) (HM.out.below HB2.out)).mono ?_
      rintro e w3 ⟨rfl, hb3⟩
      have HB3 := hid (bel HB2.out hb3)
      clear hb3
      go_wp2_with fail
      refine (HF.out _).mono ?_
      rintro e w4 ⟨rfl, hw4⟩
      subst hw4
      go_wp2
      go_ret
      exact ⟨rfl, HB3.out⟩
    | true =>
      rw [hf] at HF
      by_cases h91 : c = 91
      · have hc91 : ((c.toNat : Int) == 91) = true := by rw [h91]; rfl
        clear hS hSs hSd hadd h1 h2 h4 hs hf h91
        go_enter Tryd.func10, Tryd.ntmps10
        go_wp2_with fail
        refine (awake_any _ HT.out HL.out HM.out).mono ?_
        rintro e w1 ⟨rfl, hb1⟩
        have HB1 := hid hb1
        clear hb1
        go_wp2_with fail
        refine (H1.out _ (HL.out.below HB1.out) (pow_below HT.out HB1.out) (HM.out.below HB1.out)).mono ?_
        rintro e w2 ⟨rfl, hb2⟩
        have HB2 := hid (bel HB1.out hb2)
        clear hb2
        go_wp2_with fail
        refine (H2.out _ (HL.out.below HB2.out) (pow_below HT.out HB2.out) (HM.out.below HB2.out)).mono ?_
        rintro e w3 ⟨rfl, hb3⟩
        have HB3 := hid (bel HB2.out hb3)
        clear hb3
        go_wp2_with fail
        refine (HF.out _).mono ?_
        rintro e w4 ⟨rfl, hw4⟩
        subst hw4
        go_wp2
        go_ret
        exact ⟨rfl, HB3.out⟩
      · have hc91 : ((c.toNat : Int) == 91) = false := by
          rw [beq_eq_false_iff_ne]
          intro e
          exact h91 (UInt8.toNat_inj.1 (by show _ = 91; omega))
        have h5 := fun w hL hT hM => HstC.parse_any S false w hSs hL hT hM
        have h6 := fun w hL hT hM => HstC.parse_any S true w hSs hL hT hM
        rw [hSd, hst_bad_plain c _ hf h91] at h5
        rw [hSd, hst_bad_sp c _ hf h91] at h6
        rw [show HV none = .tuple #[.string ⟨#[]⟩, .bool false] from rfl] at h5 h6
        have H5 := hid h5
        have H6 := hid h6
        clear hS hSs hSd h1 h2 h4 hs hf h91 h5 h6
        go_enter Tryd.func10, Tryd.ntmps10
        go_wp2_with fail
        refine (awake_any _ HT.out HL.out HM.out).mono ?_
        rintro e w1 ⟨rfl, hb1⟩
        have HB1 := hid hb1
        clear hb1
        go_wp2_with fail
        refine (H1.out _ (HL.out.below HB1.out) (pow_below HT.out HB1.out) (HM.out.below HB1.out)).mono ?_
        rintro e w2 ⟨rfl, hb2⟩
        have HB2 := hid (bel HB1.out hb2)
        clear hb2
        go_wp2_with fail
        refine (H2.out _ (HL.out.below HB2.out) (pow_below HT.out HB2.out) (HM.out.below HB2.out)).mono ?_
        rintro e w3 ⟨rfl, hb3⟩
        have HB3 := hid (bel HB2.out hb3)
        clear hb3
        go_wp2_with fail
        refine (HF.out _).mono ?_
        rintro e w4 ⟨rfl, hw4⟩
        subst hw4
        have hcv := fun (w : World) t mk => run_string_of (P := Tryd.prog) 40 9 5 Tryd.underlying40 Tryd.underlying5 Tryd.underlying9 [c] 1 (rds_const w [c] t mk)
        have hcv2 : ∀ (w : World) t mk, (convert 40 9 (.slice (some ⟨w.heap.size, 0, none⟩) 1 1)).run Tryd.prog (w.alloc (.cells #[.int .u8 (c.toNat : Int)] t mk)) = .ok (.string (strOf [c])) (w.alloc (.cells #[.int .u8 (c.toNat : Int)] t mk)) := hcv
        clear hcv
        go_wp2_with fail
        generalize hw4 : w3.alloc _ = w4
        have HB4 : Hid (Below w.heap.size w w4) := by
          show Below _ _ _
          rw [← hw4]
          exact HB3.out.alloc HB3.out.size _
        clear hw4
        refine (H5.out _ (HL.out.below HB4.out) (pow_below HT.out HB4.out) (HM.out.below HB4.out)).mono ?_
        rintro e w5 ⟨rfl, hb5⟩
        have HB5 := hid (bel HB4.out hb5)
        clear hb5
        go_wp2_with fail
        generalize hw6 : w5.alloc _ = w6
        have HB6 : Hid (Below w.heap.size w w6) := by
          show Below _ _ _
          rw [← hw6]
          exact HB5.out.alloc HB5.out.size _
        clear hw6
        refine (H6.out _ (HL.out.below HB6.out) (pow_below HT.out HB6.out) (HM.out.below HB6.out)).mono ?_
        rintro e w7 ⟨rfl, hb7⟩
        have HB7 := hid (bel HB6.out hb7)
        clear hb7 hcv2 hadd
        go_wp2
        go_ret
        exact ⟨rfl, HB7.out⟩
  · have h4i : (200 : Int) < (s.size : Int) := by omega
    clear h4 hs
    go_enter Tryd.func10, Tryd.ntmps10
    go_wp2_with fail
    refine (awake_any _ HT.out HL.out HM.out).mono ?_
    rintro e w1 ⟨rfl, hb1⟩
    have HB1 := hid hb1
    clear hb1
    go_wp2_with fail
    refine (awake_any _ (pow_below HT.out HB1.out) (HL.out.below HB1.out) (HM.out.below HB1.out)).mono ?_
    rintro e w2 ⟨rfl, hb2⟩
    go_wp2
    go_ret
    exact ⟨rfl, bel HB1.out hb2⟩
end Go.Proofs.YtnmkkejodkjjiaaDoor.Laws
