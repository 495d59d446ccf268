/- The walk of the law GroupWithin: it returns true, whatever it is called with. -/
import Derived.Test.YtbkobobnbdblbaaLaw06
namespace Go.Proofs.Ytbkobobnbdblbaa.Laws
open Go.RowKit Go.Proofs.Ytbkobobnbdblbaa.Base Go.Proofs.Ytbkobobnbdblbaa.Base2 Go.Proofs.Ytbkobobnbdblbaa.GrpP Go.Proofs.Ytbkobobnbdblbaa.GrpA Go.Proofs.Ytbkobobnbdblbaa.GrpB Go.Proofs.Ytbkobobnbdblbaa.GrpD Go.Proofs.Ytbkobobnbdblbaa.GrpC Go.Proofs.Ytbkobobnbdblbaa.Mim0

theorem cl_any (g : Int) (T S : ByteArray) (A : Option Addr) (n cap B : Nat) (w : World) (hM : Mim w B T S (.slice A n cap)) (hT : T.size ≤ 140737488351232) (hS : S.size ≤ 140737488351232) :
    Calls Try.prog 11 #[.int .i64 g, .pointer (some ⟨B, 0, none⟩)] w fun e w' => e = .returned (.bool (gB g T.data.toList S.data.toList)) ∧ Below w.heap.size w w' := by
  obtain ⟨c0, c1, c2⟩ := hM.facts
  clear hM
  go_enter Try.func11, Try.ntmps11
  go_wp2_with fail
  refine (in_any g T S _ _ _ _ hT hS).mono ?_
  rintro e w1 ⟨rfl, hb1⟩
  go_wp2_with fail
  go_ret
  exact ⟨rfl, hb1⟩
theorem g7 (T S : List UInt8) : gB 7 T S = (gB 5 T S || gB 6 T S || (ess T S == c_apppdf)) := by
  unfold gB
  rw [if_neg (by decide), if_neg (by decide), if_neg (by decide), if_neg (by decide), if_neg (by decide), if_neg (by decide), if_neg (by decide), if_pos rfl]
  rw [if_neg (by decide), if_neg (by decide), if_neg (by decide), if_neg (by decide), if_neg (by decide), if_pos rfl]
  rw [if_neg (by decide), if_neg (by decide), if_neg (by decide), if_neg (by decide), if_neg (by decide), if_neg (by decide), if_pos rfl]
theorem g6 (T S : List UInt8) (h : gB 6 T S = true) : T = c_text ∧ S = [104, 116, 109, 108] := by
  unfold gB at h
  rw [if_neg (by decide), if_neg (by decide), if_neg (by decide), if_neg (by decide), if_neg (by decide), if_neg (by decide), if_pos rfl, ess_b T S c_text [104, 116, 109, 108] c_texthtml rfl rfl rfl, Bool.and_eq_true, beq_iff_eq, beq_iff_eq] at h
  exact h
theorem g0 (T S : List UInt8) (h : gB 0 T S = true) : gB 2 T S = false := by
  unfold gB at h ⊢
  rw [if_pos rfl, beq_iff_eq] at h
  rw [if_neg (by decide), if_neg (by decide), if_pos rfl, fonts_ess, h]
  simp
theorem g3 (T S : List UInt8) (h : gB 3 T S = true) (hS : S = [122, 105, 112]) : gB 4 T S = true := by
  unfold gB at h ⊢
  rw [if_neg (by decide), if_neg (by decide), if_neg (by decide), if_pos rfl, ess_b T S c_app [122, 105, 112] c_appzip rfl rfl rfl] at h
  rw [if_neg (by decide), if_neg (by decide), if_neg (by decide), if_neg (by decide), if_pos rfl, archs_ess]
  subst hS
  rw [show suf c_zip_ [122, 105, 112] = false by decide, Bool.false_or, Bool.and_eq_true] at h
  have h1 := h.1
  simp only [c_app] at h1
  rw [h1]
  decide
set_option maxHeartbeats 8000000 in
set_option maxRecDepth 100000 in
theorem GroupWithin_any (T S : ByteArray) (A : Option Addr) (n cap : Nat) (l : List (ByteArray × ByteArray)) (w : World) (hT : T.size ≤ 140737488351232) (hS : S.size ≤ 140737488351232) (hr : Prm w A n l) (hc : n ≤ cap) (hm : cap ≤ maxLen) :
    Calls Try.prog 5 #[.agg #[.string T, .string S, .slice A n cap]] w fun e w' => e = .returned (.bool true) ∧ Below w.heap.size w w' := by
  have HPR := hid hr
  clear hr
  have f7 := g7 T.data.toList S.data.toList
  have f6 := g6 T.data.toList S.data.toList
  have f0 := g0 T.data.toList S.data.toList
  have f3 := g3 T.data.toList S.data.toList
  have x5 : gB 5 c_text [104, 116, 109, 108] = false := by decide
  have x8 : gB 8 c_text [104, 116, 109, 108] = false := by decide
  have x9 : gB 9 c_text [104, 116, 109, 108] = false := by decide
  have f6' : gB 6 T.data.toList S.data.toList = true → gB 5 T.data.toList S.data.toList = false ∧ gB 8 T.data.toList S.data.toList = false ∧ gB 9 T.data.toList S.data.toList = false := by
    intro h
    obtain ⟨e1, e2⟩ := f6 h
    rw [e1, e2]
    exact ⟨x5, x8, x9⟩
  clear x5 x8 x9 f6
  obtain ⟨b0, hb0⟩ : ∃ b, gB 0 T.data.toList S.data.toList = b := ⟨_, rfl⟩
  obtain ⟨b1, hb1⟩ : ∃ b, gB 1 T.data.toList S.data.toList = b := ⟨_, rfl⟩
  obtain ⟨b2, hb2⟩ : ∃ b, gB 2 T.data.toList S.data.toList = b := ⟨_, rfl⟩
  obtain ⟨b3, hb3⟩ : ∃ b, gB 3 T.data.toList S.data.toList = b := ⟨_, rfl⟩
  obtain ⟨b4, hb4⟩ : ∃ b, gB 4 T.data.toList S.data.toList = b := ⟨_, rfl⟩
  obtain ⟨b5, hb5⟩ : ∃ b, gB 5 T.data.toList S.data.toList = b := ⟨_, rfl⟩
  obtain ⟨b6, hb6⟩ : ∃ b, gB 6 T.data.toList S.data.toList = b := ⟨_, rfl⟩
  obtain ⟨b7, hb7⟩ : ∃ b, gB 7 T.data.toList S.data.toList = b := ⟨_, rfl⟩
  obtain ⟨b8, hb8⟩ : ∃ b, gB 8 T.data.toList S.data.toList = b := ⟨_, rfl⟩
  obtain ⟨b9, hb9⟩ : ∃ b, gB 9 T.data.toList S.data.toList = b := ⟨_, rfl⟩
  rw [hb7, hb5, hb6] at f7
  rw [hb6, hb5, hb8, hb9] at f6'
  rw [hb0, hb2] at f0
  rw [hb3, hb4] at f3
  have H0 := hid hb0
  have H1 := hid hb1
  have H2 := hid hb2
  have H3 := hid hb3
  have H4 := hid hb4
  have H5 := hid hb5
  have H6 := hid hb6
  have H7 := hid hb7
  have H8 := hid hb8
  have H9 := hid hb9
  clear hb0 hb1 hb2 hb3 hb4 hb5 hb6 hb7 hb8 hb9
  obtain ⟨bz, hbz⟩ : ∃ b, (S.data.toList == [122, 105, 112]) = b := ⟨_, rfl⟩
  have qz := (beq_data S [122, 105, 112]).trans hbz
  have f3' : b3 = true → bz = true → b4 = true := fun h1 h2 => f3 h1 (beq_iff_eq.1 (hbz.trans h2))
  clear f3 hbz
  have h57 : b5 = true → b7 = true := fun h => by rw [f7, h]; simp
  have h67 : b6 = true → b7 = true := fun h => by rw [f7, h]; simp
  clear f7
  have HA := hid h57
  have HC := hid h67
  have HD := hid f6'
  have HE := hid f0
  have HF := hid f3'
  clear h57 h67 f6' f0 f3'
  go_enter Try.func5, Try.ntmps5
  go_wp2_with fail
  refine (awake_any _).mono ?_
  rintro e w1 ⟨rfl, hb1⟩
  obtain ⟨hM, hB⟩ := boxed hb1
  obtain ⟨c0, c1, c2⟩ := hM.facts
  have HM1 := hid hM
  have HB1 := hid hB
  clear hb1 hM hB
  go_wp2_with fail
  refine (few_any T S A n cap l _ (HPR.out.under HB1.out (Nat.le_refl _)) hc hm hT hS).mono ?_
  rintro e w2 ⟨b, rfl, hb2⟩
  have HM := hid (HM1.out.below hb2)
  have HB := hid (bel HB1.out hb2)
  clear hb2 HM1 HB1 c0 c1 c2
  cases b
  · go_wp2_with fail
    refine (awake_any _).mono ?_
    rintro e w3 ⟨rfl, hb3⟩
    go_wp2_with fail
    go_ret
    exact ⟨rfl, bel HB.out hb3⟩
  cases b5
  · cases b6
    · go_wp2_with fail
      refine (cl_any 5 T S A n cap _ _ HM.out hT hS).mono ?_
      rintro e w9 ⟨rfl, hb9⟩
      rw [H5.out]
      replace HM := hid (HM.out.below hb9)
      replace HB := hid (bel HB.out hb9)
      clear hb9
      go_wp2_with fail
      refine (cl_any 6 T S A n cap _ _ HM.out hT hS).mono ?_
      rintro e w9 ⟨rfl, hb9⟩
      rw [H6.out]
      replace HM := hid (HM.out.below hb9)
      replace HB := hid (bel HB.out hb9)
      clear hb9
      go_wp2_with fail
      refine (cl_any 5 T S A n cap _ _ HM.out hT hS).mono ?_
      rintro e w9 ⟨rfl, hb9⟩
      rw [H5.out]
      replace HM := hid (HM.out.below hb9)
      replace HB := hid (bel HB.out hb9)
      clear hb9
      go_wp2_with fail
      refine (cl_any 6 T S A n cap _ _ HM.out hT hS).mono ?_
      rintro e w9 ⟨rfl, hb9⟩
      rw [H6.out]
      replace HM := hid (HM.out.below hb9)
      replace HB := hid (bel HB.out hb9)
      clear hb9
      go_wp2_with fail
      cases b0
      · refine (cl_any 0 T S A n cap _ _ HM.out hT hS).mono ?_
        rintro e w9 ⟨rfl, hb9⟩
        rw [H0.out]
        replace HM := hid (HM.out.below hb9)
        replace HB := hid (bel HB.out hb9)
        clear hb9
        go_wp2_with fail
        cases b3
        · refine (cl_any 3 T S A n cap _ _ HM.out hT hS).mono ?_
          rintro e w9 ⟨rfl, hb9⟩
          rw [H3.out]
          replace HM := hid (HM.out.below hb9)
          replace HB := hid (bel HB.out hb9)
          clear hb9
          go_wp2_with fail
          go_ret
          exact ⟨rfl, HB.out⟩
        · cases bz
          · refine (cl_any 3 T S A n cap _ _ HM.out hT hS).mono ?_
            rintro e w9 ⟨rfl, hb9⟩
            rw [H3.out]
            replace HM := hid (HM.out.below hb9)
            replace HB := hid (bel HB.out hb9)
            clear hb9
            obtain ⟨c0, c1, c2⟩ := HM.out.facts
            go_wp2_with fail
            go_ret
            exact ⟨rfl, HB.out⟩
          · obtain rfl : b4 = true := HF.out rfl rfl
            refine (cl_any 3 T S A n cap _ _ HM.out hT hS).mono ?_
            rintro e w9 ⟨rfl, hb9⟩
            rw [H3.out]
            replace HM := hid (HM.out.below hb9)
            replace HB := hid (bel HB.out hb9)
            clear hb9
            obtain ⟨c0, c1, c2⟩ := HM.out.facts
            go_wp2_with fail
            refine (cl_any 4 T S A n cap _ _ HM.out hT hS).mono ?_
            rintro e w9 ⟨rfl, hb9⟩
            rw [H4.out]
            replace HM := hid (HM.out.below hb9)
            replace HB := hid (bel HB.out hb9)
            clear hb9
            go_wp2_with fail
            go_ret
            exact ⟨rfl, HB.out⟩
      · refine (cl_any 0 T S A n cap _ _ HM.out hT hS).mono ?_
        rintro e w9 ⟨rfl, hb9⟩
        rw [H0.out]
        replace HM := hid (HM.out.below hb9)
        replace HB := hid (bel HB.out hb9)
        clear hb9
        go_wp2_with fail
        obtain rfl : b2 = false := by first | exact HE.out rfl | exact HE.out trivial
        refine (cl_any 2 T S A n cap _ _ HM.out hT hS).mono ?_
        rintro e w9 ⟨rfl, hb9⟩
        rw [H2.out]
        replace HM := hid (HM.out.below hb9)
        replace HB := hid (bel HB.out hb9)
        clear hb9
        go_wp2_with fail
        cases b3
        · refine (cl_any 3 T S A n cap _ _ HM.out hT hS).mono ?_
          rintro e w9 ⟨rfl, hb9⟩
          rw [H3.out]
          replace HM := hid (HM.out.below hb9)
          replace HB := hid (bel HB.out hb9)
          clear hb9
          go_wp2_with fail
          go_ret
          exact ⟨rfl, HB.out⟩
        · cases bz
          · refine (cl_any 3 T S A n cap _ _ HM.out hT hS).mono ?_
            rintro e w9 ⟨rfl, hb9⟩
            rw [H3.out]
            replace HM := hid (HM.out.below hb9)
            replace HB := hid (bel HB.out hb9)
            clear hb9
            obtain ⟨c0, c1, c2⟩ := HM.out.facts
            go_wp2_with fail
            go_ret
            exact ⟨rfl, HB.out⟩
          · obtain rfl : b4 = true := HF.out rfl rfl
            refine (cl_any 3 T S A n cap _ _ HM.out hT hS).mono ?_
            rintro e w9 ⟨rfl, hb9⟩
            rw [H3.out]
            replace HM := hid (HM.out.below hb9)
            replace HB := hid (bel HB.out hb9)
            clear hb9
            obtain ⟨c0, c1, c2⟩ := HM.out.facts
            go_wp2_with fail
            refine (cl_any 4 T S A n cap _ _ HM.out hT hS).mono ?_
            rintro e w9 ⟨rfl, hb9⟩
            rw [H4.out]
            replace HM := hid (HM.out.below hb9)
            replace HB := hid (bel HB.out hb9)
            clear hb9
            go_wp2_with fail
            go_ret
            exact ⟨rfl, HB.out⟩
    · obtain rfl : b7 = true := HC.out rfl
      obtain ⟨_, rfl, rfl⟩ := HD.out rfl
      go_wp2_with fail
      refine (cl_any 5 T S A n cap _ _ HM.out hT hS).mono ?_
      rintro e w9 ⟨rfl, hb9⟩
      rw [H5.out]
      replace HM := hid (HM.out.below hb9)
      replace HB := hid (bel HB.out hb9)
      clear hb9
      go_wp2_with fail
      refine (cl_any 6 T S A n cap _ _ HM.out hT hS).mono ?_
      rintro e w9 ⟨rfl, hb9⟩
      rw [H6.out]
      replace HM := hid (HM.out.below hb9)
      replace HB := hid (bel HB.out hb9)
      clear hb9
      go_wp2_with fail
      refine (cl_any 7 T S A n cap _ _ HM.out hT hS).mono ?_
      rintro e w9 ⟨rfl, hb9⟩
      rw [H7.out]
      replace HM := hid (HM.out.below hb9)
      replace HB := hid (bel HB.out hb9)
      clear hb9
      go_wp2_with fail
      refine (cl_any 5 T S A n cap _ _ HM.out hT hS).mono ?_
      rintro e w9 ⟨rfl, hb9⟩
      rw [H5.out]
      replace HM := hid (HM.out.below hb9)
      replace HB := hid (bel HB.out hb9)
      clear hb9
      go_wp2_with fail
      refine (cl_any 6 T S A n cap _ _ HM.out hT hS).mono ?_
      rintro e w9 ⟨rfl, hb9⟩
      rw [H6.out]
      replace HM := hid (HM.out.below hb9)
      replace HB := hid (bel HB.out hb9)
      clear hb9
      go_wp2_with fail
      refine (cl_any 8 T S A n cap _ _ HM.out hT hS).mono ?_
      rintro e w9 ⟨rfl, hb9⟩
      rw [H8.out]
      replace HM := hid (HM.out.below hb9)
      replace HB := hid (bel HB.out hb9)
      clear hb9
      go_wp2_with fail
      refine (cl_any 9 T S A n cap _ _ HM.out hT hS).mono ?_
      rintro e w9 ⟨rfl, hb9⟩
      rw [H9.out]
      replace HM := hid (HM.out.below hb9)
      replace HB := hid (bel HB.out hb9)
      clear hb9
      go_wp2_with fail
      cases b0
      · refine (cl_any 0 T S A n cap _ _ HM.out hT hS).mono ?_
        rintro e w9 ⟨rfl, hb9⟩
        rw [H0.out]
        replace HM := hid (HM.out.below hb9)
        replace HB := hid (bel HB.out hb9)
        clear hb9
        go_wp2_with fail
        cases b3
        · refine (cl_any 3 T S A n cap _ _ HM.out hT hS).mono ?_
          rintro e w9 ⟨rfl, hb9⟩
          rw [H3.out]
          replace HM := hid (HM.out.below hb9)
          replace HB := hid (bel HB.out hb9)
          clear hb9
          go_wp2_with fail
          go_ret
          exact ⟨rfl, HB.out⟩
        · cases bz
          · refine (cl_any 3 T S A n cap _ _ HM.out hT hS).mono ?_
            rintro e w9 ⟨rfl, hb9⟩
            rw [H3.out]
            replace HM := hid (HM.out.below hb9)
            replace HB := hid (bel HB.out hb9)
            clear hb9
            obtain ⟨c0, c1, c2⟩ := HM.out.facts
            go_wp2_with fail
            go_ret
            exact ⟨rfl, HB.out⟩
          · obtain rfl : b4 = true := HF.out rfl rfl
            refine (cl_any 3 T S A n cap _ _ HM.out hT hS).mono ?_
            rintro e w9 ⟨rfl, hb9⟩
            rw [H3.out]
            replace HM := hid (HM.out.below hb9)
            replace HB := hid (bel HB.out hb9)
            clear hb9
            obtain ⟨c0, c1, c2⟩ := HM.out.facts
            go_wp2_with fail
            refine (cl_any 4 T S A n cap _ _ HM.out hT hS).mono ?_
            rintro e w9 ⟨rfl, hb9⟩
            rw [H4.out]
            replace HM := hid (HM.out.below hb9)
            replace HB := hid (bel HB.out hb9)
            clear hb9
            go_wp2_with fail
            go_ret
            exact ⟨rfl, HB.out⟩
      · refine (cl_any 0 T S A n cap _ _ HM.out hT hS).mono ?_
        rintro e w9 ⟨rfl, hb9⟩
        rw [H0.out]
        replace HM := hid (HM.out.below hb9)
        replace HB := hid (bel HB.out hb9)
        clear hb9
        go_wp2_with fail
        obtain rfl : b2 = false := by first | exact HE.out rfl | exact HE.out trivial
        refine (cl_any 2 T S A n cap _ _ HM.out hT hS).mono ?_
        rintro e w9 ⟨rfl, hb9⟩
        rw [H2.out]
        replace HM := hid (HM.out.below hb9)
        replace HB := hid (bel HB.out hb9)
        clear hb9
        go_wp2_with fail
        cases b3
        · refine (cl_any 3 T S A n cap _ _ HM.out hT hS).mono ?_
          rintro e w9 ⟨rfl, hb9⟩
          rw [H3.out]
          replace HM := hid (HM.out.below hb9)
          replace HB := hid (bel HB.out hb9)
          clear hb9
          go_wp2_with fail
          go_ret
          exact ⟨rfl, HB.out⟩
        · cases bz
          · refine (cl_any 3 T S A n cap _ _ HM.out hT hS).mono ?_
            rintro e w9 ⟨rfl, hb9⟩
            rw [H3.out]
            replace HM := hid (HM.out.below hb9)
            replace HB := hid (bel HB.out hb9)
            clear hb9
            obtain ⟨c0, c1, c2⟩ := HM.out.facts
            go_wp2_with fail
            go_ret
            exact ⟨rfl, HB.out⟩
          · obtain rfl : b4 = true := HF.out rfl rfl
            refine (cl_any 3 T S A n cap _ _ HM.out hT hS).mono ?_
            rintro e w9 ⟨rfl, hb9⟩
            rw [H3.out]
            replace HM := hid (HM.out.below hb9)
            replace HB := hid (bel HB.out hb9)
            clear hb9
            obtain ⟨c0, c1, c2⟩ := HM.out.facts
            go_wp2_with fail
            refine (cl_any 4 T S A n cap _ _ HM.out hT hS).mono ?_
            rintro e w9 ⟨rfl, hb9⟩
            rw [H4.out]
            replace HM := hid (HM.out.below hb9)
            replace HB := hid (bel HB.out hb9)
            clear hb9
            go_wp2_with fail
            go_ret
            exact ⟨rfl, HB.out⟩
  · obtain rfl : b7 = true := HA.out rfl
    obtain rfl : b6 = false := by cases hh : b6; rfl; have := (HD.out hh).1; cases this
    go_wp2_with fail
    refine (cl_any 5 T S A n cap _ _ HM.out hT hS).mono ?_
    rintro e w9 ⟨rfl, hb9⟩
    rw [H5.out]
    replace HM := hid (HM.out.below hb9)
    replace HB := hid (bel HB.out hb9)
    clear hb9
    go_wp2_with fail
    refine (cl_any 7 T S A n cap _ _ HM.out hT hS).mono ?_
    rintro e w9 ⟨rfl, hb9⟩
    rw [H7.out]
    replace HM := hid (HM.out.below hb9)
    replace HB := hid (bel HB.out hb9)
    clear hb9
    go_wp2_with fail
    refine (cl_any 5 T S A n cap _ _ HM.out hT hS).mono ?_
    rintro e w9 ⟨rfl, hb9⟩
    rw [H5.out]
    replace HM := hid (HM.out.below hb9)
    replace HB := hid (bel HB.out hb9)
    clear hb9
    go_wp2_with fail
    refine (cl_any 6 T S A n cap _ _ HM.out hT hS).mono ?_
    rintro e w9 ⟨rfl, hb9⟩
    rw [H6.out]
    replace HM := hid (HM.out.below hb9)
    replace HB := hid (bel HB.out hb9)
    clear hb9
    go_wp2_with fail
    refine (cl_any 6 T S A n cap _ _ HM.out hT hS).mono ?_
    rintro e w9 ⟨rfl, hb9⟩
    rw [H6.out]
    replace HM := hid (HM.out.below hb9)
    replace HB := hid (bel HB.out hb9)
    clear hb9
    go_wp2_with fail
    cases b0
    · refine (cl_any 0 T S A n cap _ _ HM.out hT hS).mono ?_
      rintro e w9 ⟨rfl, hb9⟩
      rw [H0.out]
      replace HM := hid (HM.out.below hb9)
      replace HB := hid (bel HB.out hb9)
      clear hb9
      go_wp2_with fail
      cases b3
      · refine (cl_any 3 T S A n cap _ _ HM.out hT hS).mono ?_
        rintro e w9 ⟨rfl, hb9⟩
        rw [H3.out]
        replace HM := hid (HM.out.below hb9)
        replace HB := hid (bel HB.out hb9)
        clear hb9
        go_wp2_with fail
        go_ret
        exact ⟨rfl, HB.out⟩
      · cases bz
        · refine (cl_any 3 T S A n cap _ _ HM.out hT hS).mono ?_
          rintro e w9 ⟨rfl, hb9⟩
          rw [H3.out]
          replace HM := hid (HM.out.below hb9)
          replace HB := hid (bel HB.out hb9)
          clear hb9
          obtain ⟨c0, c1, c2⟩ := HM.out.facts
          go_wp2_with fail
          go_ret
          exact ⟨rfl, HB.out⟩
        · obtain rfl : b4 = true := HF.out rfl rfl
          refine (cl_any 3 T S A n cap _ _ HM.out hT hS).mono ?_
          rintro e w9 ⟨rfl, hb9⟩
          rw [H3.out]
          replace HM := hid (HM.out.below hb9)
          replace HB := hid (bel HB.out hb9)
          clear hb9
          obtain ⟨c0, c1, c2⟩ := HM.out.facts
          go_wp2_with fail
          refine (cl_any 4 T S A n cap _ _ HM.out hT hS).mono ?_
          rintro e w9 ⟨rfl, hb9⟩
          rw [H4.out]
          replace HM := hid (HM.out.below hb9)
          replace HB := hid (bel HB.out hb9)
          clear hb9
          go_wp2_with fail
          go_ret
          exact ⟨rfl, HB.out⟩
    · refine (cl_any 0 T S A n cap _ _ HM.out hT hS).mono ?_
      rintro e w9 ⟨rfl, hb9⟩
      rw [H0.out]
      replace HM := hid (HM.out.below hb9)
      replace HB := hid (bel HB.out hb9)
      clear hb9
      go_wp2_with fail
      obtain rfl : b2 = false := by first | exact HE.out rfl | exact HE.out trivial
      refine (cl_any 2 T S A n cap _ _ HM.out hT hS).mono ?_
      rintro e w9 ⟨rfl, hb9⟩
      rw [H2.out]
      replace HM := hid (HM.out.below hb9)
      replace HB := hid (bel HB.out hb9)
      clear hb9
      go_wp2_with fail
      cases b3
      · refine (cl_any 3 T S A n cap _ _ HM.out hT hS).mono ?_
        rintro e w9 ⟨rfl, hb9⟩
        rw [H3.out]
        replace HM := hid (HM.out.below hb9)
        replace HB := hid (bel HB.out hb9)
        clear hb9
        go_wp2_with fail
        go_ret
        exact ⟨rfl, HB.out⟩
      · cases bz
        · refine (cl_any 3 T S A n cap _ _ HM.out hT hS).mono ?_
          rintro e w9 ⟨rfl, hb9⟩
          rw [H3.out]
          replace HM := hid (HM.out.below hb9)
          replace HB := hid (bel HB.out hb9)
          clear hb9
          obtain ⟨c0, c1, c2⟩ := HM.out.facts
          go_wp2_with fail
          go_ret
          exact ⟨rfl, HB.out⟩
        · obtain rfl : b4 = true := HF.out rfl rfl
          refine (cl_any 3 T S A n cap _ _ HM.out hT hS).mono ?_
          rintro e w9 ⟨rfl, hb9⟩
          rw [H3.out]
          replace HM := hid (HM.out.below hb9)
          replace HB := hid (bel HB.out hb9)
          clear hb9
          obtain ⟨c0, c1, c2⟩ := HM.out.facts
          go_wp2_with fail
          refine (cl_any 4 T S A n cap _ _ HM.out hT hS).mono ?_
          rintro e w9 ⟨rfl, hb9⟩
          rw [H4.out]
          replace HM := hid (HM.out.below hb9)
          replace HB := hid (bel HB.out hb9)
          clear hb9
          go_wp2_with fail
          go_ret
          exact ⟨rfl, HB.out⟩
end Go.Proofs.Ytbkobobnbdblbaa.Laws
