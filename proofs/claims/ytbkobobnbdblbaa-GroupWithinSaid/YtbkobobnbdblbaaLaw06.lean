/- The walks of the laws GroupTells and GroupParams: each returns true, whatever it is called with. -/
import Derived.Test.YtbkobobnbdblbaaGrpC
import Derived.Test.YtbkobobnbdblbaaRegs
namespace Go.Proofs.Ytbkobobnbdblbaa.Laws
open Go.RowKit Go.Proofs.Ytbkobobnbdblbaa.Base Go.Proofs.Ytbkobobnbdblbaa.Base2 Go.Proofs.Ytbkobobnbdblbaa.GrpP Go.Proofs.Ytbkobobnbdblbaa.GrpA Go.Proofs.Ytbkobobnbdblbaa.GrpB Go.Proofs.Ytbkobobnbdblbaa.GrpD Go.Proofs.Ytbkobobnbdblbaa.GrpC Go.Proofs.Ytbkobobnbdblbaa.Mim0 Go.Proofs.Ytbkobobnbdblbaa.Regs

set_option maxRecDepth 100000 in
theorem awake_any (w : World) : Calls Try.prog 6 #[] w fun e w' => e = .returned (.bool true) ∧ Below w.heap.size w w' := by
  have HV : Hid (gB 0 c_image [115, 118, 103, 43, 120, 109, 108] = true) := by show _ = _; decide
  go_enter Try.func6, Try.ntmps6
  go_wp2_with fail
  refine (in_any 0 (strOf c_image) (strOf [115, 118, 103, 43, 120, 109, 108]) none 0 0 _ (by decide) (by decide)).mono ?_
  rintro e w1 ⟨rfl, hb1⟩
  rw [show gB 0 (strOf c_image).data.toList (strOf [115, 118, 103, 43, 120, 109, 108]).data.toList = true from HV.out]
  go_wp2_with fail
  go_ret
  exact ⟨rfl, hb1⟩
theorem inR_prefix (T S : List UInt8) : ∀ d k : Nat, ∃ r, inR T S (k + d) = inR T S k ++ r
  | 0, k => ⟨[], by simp⟩
  | d + 1, k => by
    obtain ⟨r, h⟩ := inR_prefix T S d k
    rw [← Nat.add_assoc, inR_succ, h]
    split
    · exact ⟨r ++ [((k + d : Nat) : Int)], by simp⟩
    · exact ⟨r, rfl⟩
theorem inR_at (T S : List UInt8) (k : Nat) (hk : k < 10) (hg : gB (k : Int) T S = true) : ∃ h : (inR T S k).length < (inR T S 10).length, (inR T S 10)[(inR T S k).length] = (k : Int) := by
  obtain ⟨r, h⟩ := inR_prefix T S (9 - k) (k + 1)
  rw [show k + 1 + (9 - k) = 10 by omega, inR_succ T S k, if_pos hg] at h
  refine ⟨by rw [h]; simp, ?_⟩
  simp only [h]
  rw [List.getElem_append_left (by simp), List.getElem_append_right (by simp)]
  simp
set_option linter.unusedSimpArgs false in
set_option maxHeartbeats 4000000 in
set_option maxRecDepth 100000 in
theorem GroupTells_any (T S : ByteArray) (A : Option Addr) (n cap : Nat) (l : List (ByteArray × ByteArray)) (z : Int) (w : World) (hT : T.size ≤ 140737488351232) (hS : S.size ≤ 140737488351232) (hr : Prm w A n l) (hc : n ≤ cap) (hm : cap ≤ maxLen) (_hz : -9223372036854775808 ≤ z ∧ z ≤ 9223372036854775807) :
    Calls Try.prog 3 #[.agg #[.string T, .string S, .slice A n cap], .int .i64 z] w fun e w' => e = .returned (.bool true) ∧ Below w.heap.size w w' := by
  have HPR := hid hr
  clear hr
  obtain ⟨X, hX⟩ : ∃ X, X = inR T.data.toList S.data.toList 10 := ⟨_, rfl⟩
  obtain ⟨n10, hn10⟩ : ∃ k, k = X.length := ⟨_, rfl⟩
  have hn10' : n10 ≤ 10 := by rw [hn10, hX]; exact inR_len _ _ _
  obtain ⟨bz, hbz⟩ : ∃ b, gB z T.data.toList S.data.toList = b := ⟨_, rfl⟩
  have HX := hid hX
  have HN := hid hn10
  have HBZ := hid hbz
  clear hX hn10 hbz
  go_enter Try.func3, Try.ntmps3
  go_wp2_with fail
  refine (awake_any _).mono ?_
  rintro e w1 ⟨rfl, hb1⟩
  obtain ⟨hM, hB⟩ := boxed hb1
  obtain ⟨c0, c1, c2⟩ := hM.facts
  have HM1 := hid hM
  have HB1 := hid hB
  clear hb1 hM hB
  go_wp2_with fail
  refine (few_any T S A n cap l _ (HPR.out.under HB1.out (Nat.le_refl _)) hc hm hT hS).mono ?_
  rintro e w2 ⟨b, rfl, hb2⟩
  have HM2 := hid (HM1.out.below hb2)
  have HB2 := hid (bel HB1.out hb2)
  clear hb2 HM1 HB1 c0 c1 c2
  cases b
  · go_wp2_with fail
    refine (awake_any _).mono ?_
    rintro e w3 ⟨rfl, hb3⟩
    go_wp2_with fail
    go_ret
    exact ⟨rfl, bel HB2.out hb3⟩
  obtain ⟨c0, c1, c2⟩ := HM2.out.facts
  go_wp2_with fail
  refine (all_any T S _ _ _ _ hT hS).mono ?_
  rintro e w3 ⟨v, rfl, hown, hb3⟩
  rw [← HX.out, ← HN.out] at hown
  obtain ⟨Al, cl, rfl, hcl, hml, hrl⟩ := owns_form hown
  have HRL := hid hrl
  have HM3 := hid (HM2.out.below hb3)
  have HB3 := hid (bel HB2.out hb3)
  clear hb3 HM2 HB2 c0 c1 c2 hown hrl
  go_wp2_with fail
  go_loopw [6, 7, 8, 19] (fun va _ _ vk wr => ∃ k m : Nat, k ≤ 10 ∧ m ≤ n10 ∧ vk = .int .i64 (k : Int) ∧ va = .int .i64 (m : Int) ∧ Hid (m = (inR T.data.toList S.data.toList k).length) ∧ Hid (Rds wr Al n10 (icells .i64 X)) ∧ Hid (Mim wr w.heap.size T S (.slice A n cap)) ∧ Hid (Below w.heap.size w wr)) (fun _ _ _ vk _ => 10 - (intOf vk).toNat)
  case atStart => exact ⟨0, 0, by omega, by omega, rfl, rfl, rfl, HRL.out, HM3.out, HB3.out⟩
  case round =>
    clear HRL HM3 HB3
    obtain ⟨k, m, hk, hmn, rfl, rfl, HMM, HR, HM, HB⟩ := hrel
    obtain ⟨c0, c1, c2⟩ := HM.out.facts
    by_cases hlt : k < 10
    · cases hg : gB (k : Int) T.data.toList S.data.toList
      · have HG := hid hg
        have HS : Hid (inR T.data.toList S.data.toList (k + 1) = inR T.data.toList S.data.toList k) := by rw [inR_succ, if_neg (by rw [hg]; decide)]; exact rfl
        clear hg
        go_wp2_with fail
        refine (ref_any (k : Int) T S _ _ _ _ hT hS).mono ?_
        rintro e w4 ⟨rfl, hb4⟩
        rw [HG.out]
        have HM4 := hid (HM.out.below hb4)
        have HB4 := hid (bel HB.out hb4)
        have HR4 := hid (HR.out.below hb4)
        clear hb4 HM HB HR c0 c1 c2
        obtain ⟨c0, c1, c2⟩ := HM4.out.facts
        go_wp2_with fail
        refine (in_any (k : Int) T S _ _ _ _ hT hS).mono ?_
        rintro e w5 ⟨rfl, hb5⟩
        rw [HG.out]
        have HM5 := hid (HM4.out.below hb5)
        have HB5 := hid (bel HB4.out hb5)
        have HR5 := hid (HR4.out.below hb5)
        clear hb5 HM4 HB4 HR4 c0 c1 c2
        go_wp2_with fail
        go_roundw
        case rel => exact ⟨k + 1, m, by omega, hmn, by go_num, rfl, by rw [HS.out]; exact HMM.out, HR5.out, HM5.out, HB5.out⟩
        case measure => simp [intOf]; omega
      · have HG := hid hg
        have HS : Hid (inR T.data.toList S.data.toList (k + 1) = inR T.data.toList S.data.toList k ++ [(k : Int)]) := by rw [inR_succ, if_pos hg]; exact rfl
        obtain ⟨hlt2, hat⟩ := inR_at T.data.toList S.data.toList k hlt hg
        have hmlt : m < n10 := by rw [HMM.out, HN.out, HX.out]; exact hlt2
        have hmX : m < X.length := by rw [← HN.out]; exact hmlt
        have HXm : Hid (X[m] = (k : Int)) := by
          show X[m] = (k : Int)
          have e1 := HX.out
          have e2 := HMM.out
          subst e1
          simp only [e2]
          exact hat
        clear hg hlt2 hat
        go_wp2_with fail
        refine (ref_any (k : Int) T S _ _ _ _ hT hS).mono ?_
        rintro e w4 ⟨rfl, hb4⟩
        rw [HG.out]
        have HM4 := hid (HM.out.below hb4)
        have HB4 := hid (bel HB.out hb4)
        have HR4 := hid (HR.out.below hb4)
        clear hb4 HM HB HR c0 c1 c2
        obtain ⟨c0, c1, c2⟩ := HM4.out.facts
        go_wp2_with fail
        refine (in_any (k : Int) T S _ _ _ _ hT hS).mono ?_
        rintro e w5 ⟨rfl, hb5⟩
        rw [HG.out]
        have HM5 := hid (HM4.out.below hb5)
        have HB5 := hid (bel HB4.out hb5)
        have HR5 := hid (HR4.out.below hb5)
        clear hb5 HM4 HB4 HR4 c0 c1 c2
        obtain ⟨b, off, rfl, hb, _⟩ := HR5.out.spot (by omega)
        have hcell := HR5.out.int m hmX
        rw [HXm.out] at hcell
        have e1 : ((m : Int) == (n10 : Int)) = false := by simp; omega
        have hmI : (m : Int) < (n10 : Int) := by omega
        go_wp2_with fail
        go_roundw
        case rel => exact ⟨k + 1, m + 1, by omega, by omega, by go_num, by go_num, by rw [HS.out, List.length_append, ← HMM.out]; exact rfl, HR5.out, HM5.out, HB5.out⟩
        case measure => simp [intOf]; omega
    · obtain rfl : k = 10 := by omega
      obtain rfl : n10 = m := by rw [HMM.out, HN.out, HX.out]
      clear c0 c1 c2
      go_wp2
      refine wp_region_rel (by kernel_rfl) [is (.int .i64 (n10 : Int)), is (.slice Al n10 cl), is (.int .i64 (n10 : Int)), is (.bool true), is (.bool true), is (.int .i64 z), is ((.agg #[.string T, .string S, .slice A n cap])), is (.bool bz), is (.int .i64 z), is ((.agg #[.string T, .string S, .slice A n cap])), is (.bool bz), is (.bool true), is (.bool true), is (.bool true)] [[], [], [1], [0, 2], [3], [4], [4], [4, 5, 6], [4], [4], [4, 8, 9], [4, 7, 10], [4, 11], [12]] (by kernel_rfl) ?_ ?_
      · refine ⟨?_, ?_, ?_, ?_, ?_, ?_, ?_, ?_, ?_, ?_, ?_, ?_, ?_, ?_, trivial⟩
        · intro t wq hbq hh K hK
          clear hh
          simp only [filled, upd, Have, is, any, row, pick, Act.put, List.setIfInBounds_toArray, List.set_cons_zero, List.set_cons_succ, Nat.reduceAdd, Nat.reduceEqDiff, reduceIte] at hK ⊢
          go_simp
          exact hK _ _ (Below.refl _ _) rfl
        · intro t wq hbq hh K hK
          clear hh
          simp only [filled, upd, Have, is, any, row, pick, Act.put, List.setIfInBounds_toArray, List.set_cons_zero, List.set_cons_succ, Nat.reduceAdd, Nat.reduceEqDiff, reduceIte] at hK ⊢
          go_simp
          exact hK _ _ (Below.refl _ _) rfl
        · intro t wq hbq hh K hK
          have e1 := hh.1
          simp only [pick] at e1
          replace e1 : t 1 = (.slice Al n10 cl) := e1
          clear hh
          simp only [filled, upd, Have, is, any, row, pick, Act.put, List.setIfInBounds_toArray, List.set_cons_zero, List.set_cons_succ, Nat.reduceAdd, Nat.reduceEqDiff, reduceIte] at hK ⊢
          simp only [e1] at hK ⊢
          go_simp
          exact hK _ _ (Below.refl _ _) rfl
        · intro t wq hbq hh K hK
          have e0 := hh.1
          simp only [pick] at e0
          replace e0 : t 0 = (.int .i64 (n10 : Int)) := e0
          have e2 := hh.2.1
          simp only [pick] at e2
          replace e2 : t 2 = (.int .i64 (n10 : Int)) := e2
          clear hh
          simp only [filled, upd, Have, is, any, row, pick, Act.put, List.setIfInBounds_toArray, List.set_cons_zero, List.set_cons_succ, Nat.reduceAdd, Nat.reduceEqDiff, reduceIte] at hK ⊢
          simp only [e0, e2] at hK ⊢
          go_simp
          exact hK _ _ (Below.refl _ _) (by simp)
        · intro t wq hbq hh K hK
          have e3 := hh.1
          simp only [pick] at e3
          replace e3 : t 3 = (.bool true) := e3
          clear hh
          simp only [filled, upd, Have, is, any, row, pick, Act.put, List.setIfInBounds_toArray, List.set_cons_zero, List.set_cons_succ, Nat.reduceAdd, Nat.reduceEqDiff, reduceIte] at hK ⊢
          simp only [e3] at hK ⊢
          go_simp
          exact hK _ _ (Below.refl _ _) rfl
        · intro t wq hbq hh K hK
          have e4 := hh.1
          simp only [pick] at e4
          replace e4 : t 4 = (.bool true) := e4
          clear hh
          simp only [filled, upd, Have, is, any, row, pick, Act.put, List.setIfInBounds_toArray, List.set_cons_zero, List.set_cons_succ, Nat.reduceAdd, Nat.reduceEqDiff, reduceIte] at hK ⊢
          simp only [e4] at hK ⊢
          go_simp
          exact hK _ _ (Below.refl _ _) rfl
        · intro t wq hbq hh K hK
          have e4 := hh.1
          simp only [pick] at e4
          replace e4 : t 4 = (.bool true) := e4
          clear hh
          simp only [filled, upd, Have, is, any, row, pick, Act.put, List.setIfInBounds_toArray, List.set_cons_zero, List.set_cons_succ, Nat.reduceAdd, Nat.reduceEqDiff, reduceIte] at hK ⊢
          simp only [e4] at hK ⊢
          obtain ⟨d0, d1, d2⟩ := ((HM.out).below hbq).facts
          go_simp
          exact hK _ _ (Below.refl _ _) rfl
        · intro t wq hbq hh K hK
          have e4 := hh.1
          simp only [pick] at e4
          replace e4 : t 4 = (.bool true) := e4
          have e5 := hh.2.1
          simp only [pick] at e5
          replace e5 : t 5 = (.int .i64 z) := e5
          have e6 := hh.2.2.1
          simp only [pick] at e6
          replace e6 : t 6 = ((.agg #[.string T, .string S, .slice A n cap])) := e6
          clear hh
          simp only [filled, upd, Have, is, any, row, pick, Act.put, List.setIfInBounds_toArray, List.set_cons_zero, List.set_cons_succ, Nat.reduceAdd, Nat.reduceEqDiff, reduceIte] at hK ⊢
          simp only [e4, e5, e6] at hK ⊢
          go_simp
          refine (in_any z T S _ _ _ _ hT hS).mono ?_
          rintro e w5 ⟨rfl, hb5⟩
          exact hK _ _ hb5 (congrArg Value.bool HBZ.out)
        · intro t wq hbq hh K hK
          have e4 := hh.1
          simp only [pick] at e4
          replace e4 : t 4 = (.bool true) := e4
          clear hh
          simp only [filled, upd, Have, is, any, row, pick, Act.put, List.setIfInBounds_toArray, List.set_cons_zero, List.set_cons_succ, Nat.reduceAdd, Nat.reduceEqDiff, reduceIte] at hK ⊢
          simp only [e4] at hK ⊢
          go_simp
          exact hK _ _ (Below.refl _ _) rfl
        · intro t wq hbq hh K hK
          have e4 := hh.1
          simp only [pick] at e4
          replace e4 : t 4 = (.bool true) := e4
          clear hh
          simp only [filled, upd, Have, is, any, row, pick, Act.put, List.setIfInBounds_toArray, List.set_cons_zero, List.set_cons_succ, Nat.reduceAdd, Nat.reduceEqDiff, reduceIte] at hK ⊢
          simp only [e4] at hK ⊢
          obtain ⟨d0, d1, d2⟩ := ((HM.out).below hbq).facts
          go_simp
          exact hK _ _ (Below.refl _ _) rfl
        · intro t wq hbq hh K hK
          have e4 := hh.1
          simp only [pick] at e4
          replace e4 : t 4 = (.bool true) := e4
          have e8 := hh.2.1
          simp only [pick] at e8
          replace e8 : t 8 = (.int .i64 z) := e8
          have e9 := hh.2.2.1
          simp only [pick] at e9
          replace e9 : t 9 = ((.agg #[.string T, .string S, .slice A n cap])) := e9
          clear hh
          simp only [filled, upd, Have, is, any, row, pick, Act.put, List.setIfInBounds_toArray, List.set_cons_zero, List.set_cons_succ, Nat.reduceAdd, Nat.reduceEqDiff, reduceIte] at hK ⊢
          simp only [e4, e8, e9] at hK ⊢
          go_simp
          refine (ref_any z T S _ _ _ _ hT hS).mono ?_
          rintro e w5 ⟨rfl, hb5⟩
          exact hK _ _ hb5 (congrArg Value.bool HBZ.out)
        · intro t wq hbq hh K hK
          have e4 := hh.1
          simp only [pick] at e4
          replace e4 : t 4 = (.bool true) := e4
          have e7 := hh.2.1
          simp only [pick] at e7
          replace e7 : t 7 = (.bool bz) := e7
          have e10 := hh.2.2.1
          simp only [pick] at e10
          replace e10 : t 10 = (.bool bz) := e10
          clear hh
          simp only [filled, upd, Have, is, any, row, pick, Act.put, List.setIfInBounds_toArray, List.set_cons_zero, List.set_cons_succ, Nat.reduceAdd, Nat.reduceEqDiff, reduceIte] at hK ⊢
          simp only [e4, e7, e10] at hK ⊢
          go_simp
          exact hK _ _ (Below.refl _ _) (by simp)
        · intro t wq hbq hh K hK
          have e4 := hh.1
          simp only [pick] at e4
          replace e4 : t 4 = (.bool true) := e4
          have e11 := hh.2.1
          simp only [pick] at e11
          replace e11 : t 11 = (.bool true) := e11
          clear hh
          simp only [filled, upd, Have, is, any, row, pick, Act.put, List.setIfInBounds_toArray, List.set_cons_zero, List.set_cons_succ, Nat.reduceAdd, Nat.reduceEqDiff, reduceIte] at hK ⊢
          simp only [e4, e11] at hK ⊢
          go_simp
          exact hK _ _ (Below.refl _ _) rfl
        · intro t wq hbq hh K hK
          have e12 := hh.1
          simp only [pick] at e12
          replace e12 : t 12 = (.bool true) := e12
          clear hh
          simp only [filled, upd, Have, is, any, row, pick, Act.put, List.setIfInBounds_toArray, List.set_cons_zero, List.set_cons_succ, Nat.reduceAdd, Nat.reduceEqDiff, reduceIte] at hK ⊢
          simp only [e12] at hK ⊢
          go_simp
          exact hK _ _ (Below.refl _ _) rfl
      · intro t wq hbq hh
        have f13 := have_get hh 13 (by decide)
        simp only [pick] at f13
        replace f13 : t 13 = (.bool true) := f13
        clear hh
        simp only [filled, upd, Have, is, any, row, pick, Act.put, List.setIfInBounds_toArray, List.set_cons_zero, List.set_cons_succ, Nat.reduceAdd, Nat.reduceEqDiff, reduceIte]
        simp only [f13]
        go_wp2
        go_ret
        exact ⟨rfl, bel HB.out hbq⟩
set_option linter.unusedSimpArgs false in
set_option maxHeartbeats 4000000 in
set_option maxRecDepth 100000 in
theorem GroupParams_any (T S : ByteArray) (A : Option Addr) (n cap : Nat) (l : List (ByteArray × ByteArray)) (A2 : Option Addr) (n2 cap2 : Nat) (w : World) (hT : T.size ≤ 140737488351232) (hS : S.size ≤ 140737488351232) (hr : Prm w A n l) (hc : n ≤ cap) (hm : cap ≤ maxLen) (hn2 : n2 ≤ cap2) (hm2 : cap2 ≤ maxLen) :
    Calls Try.prog 4 #[.agg #[.string T, .string S, .slice A n cap], .slice A2 n2 cap2] w fun e w' => e = .returned (.bool true) ∧ Below w.heap.size w w' := by
  have hn2' : n2 ≤ 9223372036854775807 := by unfold maxLen at hm2; omega
  have HPR := hid hr
  clear hr hm2
  obtain ⟨X, hX⟩ : ∃ X, X = inR T.data.toList S.data.toList 10 := ⟨_, rfl⟩
  obtain ⟨n10, hn10⟩ : ∃ k, k = X.length := ⟨_, rfl⟩
  have hn10' : n10 ≤ 10 := by rw [hn10, hX]; exact inR_len _ _ _
  have HX := hid hX
  have HN := hid hn10
  clear hX hn10
  go_enter Try.func4, Try.ntmps4
  go_wp2_with fail
  refine (awake_any _).mono ?_
  rintro e w1 ⟨rfl, hb1⟩
  obtain ⟨hM, hB⟩ := boxed hb1
  obtain ⟨c0, c1, c2⟩ := hM.facts
  have HM1 := hid hM
  have HB1 := hid hB
  clear hb1 hM hB
  go_wp2_with fail
  refine (few_any T S A n cap l _ (HPR.out.under HB1.out (Nat.le_refl _)) hc hm hT hS).mono ?_
  rintro e w2 ⟨b, rfl, hb2⟩
  have HM2 := hid (HM1.out.below hb2)
  have HB2 := hid (bel HB1.out hb2)
  clear hb2 HM1 HB1 c0 c1 c2
  cases b
  · go_wp2_with fail
    refine (awake_any _).mono ?_
    rintro e w3 ⟨rfl, hb3⟩
    go_wp2_with fail
    go_ret
    exact ⟨rfl, bel HB2.out hb3⟩
  by_cases h20 : n2 ≤ 20
  · have p1 : ¬ (20 : Int) < (n2 : Int) := by omega
    obtain ⟨c0, c1, c2⟩ := HM2.out.facts
    go_wp2
    clear c0 c1 c2
    obtain ⟨w3, hw3⟩ : ∃ w3 : World, w3 = w2.alloc (.cells #[.string T, .string S, .slice A2 n2 cap2] 24) := ⟨_, rfl⟩
    rw [← hw3]
    have HM : Hid (Mim w3 w.heap.size T S (.slice A n cap)) := by rw [hw3]; exact HM2.out.below (flat _ _)
    have HM2x : Hid (Mim w3 w2.heap.size T S (.slice A2 n2 cap2)) := by rw [hw3]; exact Mim.new _ _ _ _
    have HB : Hid (Below w.heap.size w w3) := by rw [hw3]; exact HB2.out.alloc HB2.out.size _
    clear hw3 HB2
    refine wp_region_rel (by kernel_rfl) [is ((.agg #[.string T, .string S, .slice A n cap])), row n10 (icells .i64 X), is ((.agg #[.string T, .string S, .slice A2 n2 cap2])), row n10 (icells .i64 X), row n10 (icells .i64 X), row n10 (icells .i64 X)] [[], [0], [], [2], [1], [3]] (by kernel_rfl) ?_ ?_
    · refine ⟨?_, ?_, ?_, ?_, ?_, ?_, trivial⟩
      · intro t wq hbq hh K hK
        clear hh
        simp only [filled, upd, Have, is, any, row, pick, Act.put, List.setIfInBounds_toArray, List.set_cons_zero, List.set_cons_succ, Nat.reduceAdd, Nat.reduceEqDiff, reduceIte] at hK ⊢
        obtain ⟨d0, d1, d2⟩ := ((HM.out).below hbq).facts
        go_simp
        exact hK _ _ (Below.refl _ _) rfl
      · intro t wq hbq hh K hK
        have e0 := hh.1
        simp only [pick] at e0
        replace e0 : t 0 = ((.agg #[.string T, .string S, .slice A n cap])) := e0
        clear hh
        simp only [filled, upd, Have, is, any, row, pick, Act.put, List.setIfInBounds_toArray, List.set_cons_zero, List.set_cons_succ, Nat.reduceAdd, Nat.reduceEqDiff, reduceIte] at hK ⊢
        simp only [e0] at hK ⊢
        go_simp
        refine (all_any T S _ _ _ _ hT hS).mono ?_
        rintro e w5 ⟨v, rfl, hown, hb5⟩
        rw [← HX.out, ← HN.out] at hown
        obtain ⟨A5, c5, rfl, hc5, hm5, hr5⟩ := owns_form hown
        exact hK _ _ hb5 ⟨_, _, rfl, hc5, hm5, hr5⟩
      · intro t wq hbq hh K hK
        clear hh
        simp only [filled, upd, Have, is, any, row, pick, Act.put, List.setIfInBounds_toArray, List.set_cons_zero, List.set_cons_succ, Nat.reduceAdd, Nat.reduceEqDiff, reduceIte] at hK ⊢
        obtain ⟨d0, d1, d2⟩ := ((HM2x.out).below hbq).facts
        go_simp
        exact hK _ _ (Below.refl _ _) rfl
      · intro t wq hbq hh K hK
        have e2 := hh.1
        simp only [pick] at e2
        replace e2 : t 2 = ((.agg #[.string T, .string S, .slice A2 n2 cap2])) := e2
        clear hh
        simp only [filled, upd, Have, is, any, row, pick, Act.put, List.setIfInBounds_toArray, List.set_cons_zero, List.set_cons_succ, Nat.reduceAdd, Nat.reduceEqDiff, reduceIte] at hK ⊢
        simp only [e2] at hK ⊢
        go_simp
        refine (all_any T S _ _ _ _ hT hS).mono ?_
        rintro e w5 ⟨v, rfl, hown, hb5⟩
        rw [← HX.out, ← HN.out] at hown
        obtain ⟨A5, c5, rfl, hc5, hm5, hr5⟩ := owns_form hown
        exact hK _ _ hb5 ⟨_, _, rfl, hc5, hm5, hr5⟩
      · intro t wq hbq hh K hK
        have e1 := hh.1
        simp only [pick] at e1
        clear hh
        simp only [filled, upd, Have, is, any, row, pick, Act.put, List.setIfInBounds_toArray, List.set_cons_zero, List.set_cons_succ, Nat.reduceAdd, Nat.reduceEqDiff, reduceIte] at hK ⊢
        obtain ⟨A1, c1, e1, hc1, hm1, hr1⟩ := e1
        simp only [e1] at hK ⊢
        go_simp
        exact hK _ _ (Below.refl _ _) ⟨_, _, rfl, hc1, hm1, hr1⟩
      · intro t wq hbq hh K hK
        have e3 := hh.1
        simp only [pick] at e3
        clear hh
        simp only [filled, upd, Have, is, any, row, pick, Act.put, List.setIfInBounds_toArray, List.set_cons_zero, List.set_cons_succ, Nat.reduceAdd, Nat.reduceEqDiff, reduceIte] at hK ⊢
        obtain ⟨A3, c3, e3, hc3, hm3, hr3⟩ := e3
        simp only [e3] at hK ⊢
        go_simp
        exact hK _ _ (Below.refl _ _) ⟨_, _, rfl, hc3, hm3, hr3⟩
    · intro t wq hbq hh
      have f4 := have_get hh 4 (by decide)
      simp only [pick] at f4
      have f5 := have_get hh 5 (by decide)
      simp only [pick] at f5
      clear hh
      simp only [filled, upd, Have, is, any, row, pick, Act.put, List.setIfInBounds_toArray, List.set_cons_zero, List.set_cons_succ, Nat.reduceAdd, Nat.reduceEqDiff, reduceIte]
      obtain ⟨A4, c4, f4, hc4, hm4, hr4⟩ := f4
      obtain ⟨A5, c5, f5, hc5, hm5, hr5⟩ := f5
      simp only [f4, f5]
      go_wp2
      have HBQ := hid (bel HB.out hbq)
      have HR4 := hid hr4
      have HR5 := hid hr5
      have e1 : ((n10 : Int) != (n10 : Int)) = false := by simp
      clear hbq hr4 hr5
      go_loopw [8, 36] (fun _ vk wr => ∃ k : Nat, k ≤ n10 ∧ vk = .int .i64 (k : Int) ∧ ∃ d, wr = wq.drewN d) (fun _ vk _ => n10 - (intOf vk).toNat)
      case atStart => exact ⟨0, Nat.zero_le _, rfl, 0, rfl⟩
      case round =>
        obtain ⟨k, hk, rfl, d, rfl⟩ := hrel
        by_cases hlt : k < n10
        · have hlX : k < X.length := by rw [← HN.out]; exact hlt
          obtain ⟨b1, o1, rfl, hb1, _⟩ := HR4.out.spot (by omega)
          obtain ⟨b2, o2, rfl, hb2, _⟩ := HR5.out.spot (by omega)
          have d1 := HR4.out.int k hlX
          have d2 := HR5.out.int k hlX
          obtain ⟨x, hx⟩ : ∃ x, x = X[k] := ⟨_, rfl⟩
          rw [← hx] at d1 d2
          clear hx hb1 hb2
          have hkI : (k : Int) < (n10 : Int) := by omega
          have e2 : (x != x) = false := by simp
          go_wp2
          go_quiet (fail)
          go_wp2
          all_goals
            go_roundw
            case rel => exact ⟨k + 1, by omega, by go_num, _, rfl⟩
            case measure => simp [intOf]; omega
        · obtain rfl : k = n10 := by omega
          go_wp2
          go_ret
          exact ⟨rfl, below_drewN HBQ.out _⟩
  · have p1 : (20 : Int) < (n2 : Int) := by omega
    go_wp2_with fail
    refine (awake_any _).mono ?_
    rintro e w3 ⟨rfl, hb3⟩
    go_wp2_with fail
    go_ret
    exact ⟨rfl, bel HB2.out hb3⟩
end Go.Proofs.Ytbkobobnbdblbaa.Laws
