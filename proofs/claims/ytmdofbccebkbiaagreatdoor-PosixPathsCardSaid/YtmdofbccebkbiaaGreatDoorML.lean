/- Texts that belong together: PrsN, PrsR. -/
import Derived.Test.YtmdofbccebkbiaaGreatDoorMJ
import Derived.Test.YtmdofbccebkbiaaGreatDoorMK
import Derived.Test.YtmdofbccebkbiaaGreatDoorMH
set_option linter.unusedSimpArgs false
set_option linter.unusedVariables false
namespace Go.Proofs.YtmdofbccebkbiaaGreatDoor.PrsN
open Go.RowKit Base Regs Base2 UtfA UtfL PthG PthH PthJ UrlA PrsP PrsA PrsQ PrsB Ubx Pbx PrsC PrsD PthL SixG HstC Spl PrsE PrsF PrsH PrsI
set_option maxRecDepth 100000 in
set_option maxHeartbeats 16000000 in
theorem resolveN_any (p : Parts) (w : World) (hs : p.rest.length ≤ 700000) (hL : Lad w) (hT : Tab.Pow w) (hM : Max w) : Calls Tryz.prog 41 #[.agg (pcells p), .pointer none] w (AnsO w (PrsP.resolve p none)) := by
 obtain ⟨s, rt, q, f, hq, hf⟩ := p
 simp only at hs
 obtain ⟨O, hO⟩ : ∃ O, O = PrsP.resolve ⟨s, rt, q, f, hq, hf⟩ none := ⟨_, rfl⟩
 rw [← hO]
 unfold PrsP.resolve at hO
 simp only at hO
 have HO := hid hO
 have HSP : Hid (∀ w : World, Calls Tryz.prog 84 #[.string (strOf s)] w fun e w' => e = .returned (.bool (special s)) ∧ w' = w) := fun w => special_any (strOf s) w
 have HPL : Hid (∀ w : World, Lad w → Tab.Pow w → Max w → Calls Tryz.prog 89 #[.agg (pcells ⟨s, rt, q, f, hq, hf⟩)] w (AnsO w (PrsP.plain ⟨s, rt, q, f, hq, hf⟩))) := fun w a c d => plain_any ⟨s, rt, q, f, hq, hf⟩ w (by show rt.length ≤ _; omega) a c d
 have HFN : Hid (∀ w : World, Lad w → Tab.Pow w → Max w → Calls Tryz.prog 83 #[.string (strOf rt), .pointer none] w (AnsO w (file rt none))) := fun w a c d => fileN_any rt w hs a c d
 have HSS : Hid (∀ w : World, Calls Tryz.prog 88 #[.string (strOf s)] w fun e w' => e = .returned (.string (cs (special s))) ∧ w' = w) := fun w => slashes_any (strOf s) w
 have HTR : Hid (∀ w : World, Calls Tryz.prog 87 #[.string (strOf rt), .string (cs true)] w fun e w' => e = .returned (.string (strOf (rt.dropWhile (stp1 true)))) ∧ Below w.heap.size w w') := fun w => trim_slashes rt w
 obtain ⟨T2, hT2⟩ : ∃ x, x = rt.dropWhile (stp1 true) := ⟨_, rfl⟩
 have hT2l : T2.length ≤ 900000 := by rw [hT2]; have := (List.dropWhile_sublist (stp1 true) (l := rt)).length_le; omega
 rw [← hT2] at HTR HO
 obtain ⟨OA, hOA⟩ : ∃ x, x = authority s T2 := ⟨_, rfl⟩
 have HAU : Hid (∀ w : World, Lad w → Tab.Pow w → Max w → Calls Tryz.prog 86 #[.string (strOf s), .string (strOf T2)] w (AnsO w OA)) := fun w a b c => by rw [hOA]; exact authority_any s T2 w hT2l a b c
 rw [← hOA] at HO
 have HL := hid hL
 have HT := hid hT
 have HM := hid hM
 clear hO hT2 hOA hL hT hM
 go_enter Tryz.func41, Tryz.ntmps41
 go_upto_region 1 with (fail)
 generalize hw : World.alloc (World.alloc w _) _ = w1
 have h1 : PB w1 (w.heap.size) (⟨s, rt, q, f, hq, hf⟩) ∧ UB w1 ((w.heap.size + 1)) (U0) (.slice none 0 0) ∧ Below w.heap.size w w1 := by
  subst hw
  exact laid2 w _ _ _ _
 clear hw
 have LE_p : Hid (w.heap.size ≤ w.heap.size) := Nat.le_refl _
 have LE_r : Hid (w.heap.size ≤ (w.heap.size + 1)) := Nat.le_succ _
 have HXpw1 := hid h1.1
 have HXrw1 := hid h1.2.1
 have HBw1 := hid h1.2.2
 clear h1
 obtain ⟨p0, p1, p2, p3, p4, p5⟩ := HXpw1.out.facts
 by_cases hs1 : s = FILE
 ·
  have HO5 : Hid (O = file rt none) := by show _ = _; rw [HO.out, if_pos hs1]; first | done | rfl
  have e0hs1 : ((strOf s).toList == [102, 105, 108, 101]) = true := by rw [str_tl, hs1]; first | done | rfl
  have e1hs1 : (strOf s).toList = [102, 105, 108, 101] := by rw [str_tl, hs1]; first | done | rfl
  clear hs1
  go_wp2_with fail
  refine (HFN.out _ (HL.out.below HBw1.out) (pow_below HT.out HBw1.out) (HM.out.below HBw1.out)).mono ?_
  rintro e w2 ⟨hbx, u', A', n', c', ok, rfl, hown, hoo⟩
  have HLr : Hid ((w.heap.size + 1) < w1.heap.size) := HXrw1.out.lt
  have HOW := hid hown
  have HOO := hid hoo
  clear hown hoo
  have HXpw2 := hid (HXpw1.out.below hbx)
  have HXrw2 := hid (HXrw1.out.below hbx)
  have HBw2 := hid (bel HBw1.out hbx)
  have HOB : Hid (w.heap.size ≤ w1.heap.size) := HBw1.out.size
  clear HXpw1 HXrw1 HBw1
  clear hbx
  go_wp2_with (refine store_box HXrw2.out u' A' n' c' (.tmp 4) (.tmp 23) rfl rfl rfl rfl ?_)
  try simp only [Exit.inBlock, Exit.then]
  exact bodyPost_ret (w := World.setRow w2 (w.heap.size + 1) (cells u' (.slice A' n' c'))) (res2 (u := u') (p := .slice A' n' c') rfl (HXrw2.out.row u' _) ok _ rfl rfl) rfl ⟨below_setRow HBw2.out LE_r.out _, u', A', n', c', ok, rfl, (HOW.out.row HLr.out _).base HOB.out, by rw [HO5.out]; exact HOO.out⟩
 ·
  have e0hs1 : ((strOf s).toList == [102, 105, 108, 101]) = false := by rw [str_tl, beq_eq_false_iff_ne]; exact hs1
  have e1hs1 : ¬ (strOf s).toList = [102, 105, 108, 101] := by rw [str_tl]; exact hs1
  cases hsp : special s with
  | true =>
   have HO5 : Hid (O = OA) := by show _ = _; rw [HO.out, if_neg hs1, if_pos hsp]
   rw [hsp] at HSP HSS
   clear hsp hs1
   go_wp2_with fail
   refine (HSP.out _).mono ?_
   rintro e wx ⟨rfl, hwx⟩
   obtain rfl : w1 = wx := by first | exact hwx | exact hwx.symm
   clear hwx
   clear p0 p1 p2 p3 p4 p5
   go_upto_region 6 with (fail)
   refine wp_region_rel (by kernel_rfl) [is (.pointer none), is (.bool false), is (.bool false), is (undef), is (undef), is (undef), is (undef), is (undef), is (undef), is (undef), is (.bool false), is (.bool false), is (undef), is (undef), is (undef), is (undef), is (.bool false)] [[], [0], [1], [2], [2, 3], [2, 4], [2, 5], [2], [2, 7], [2, 6, 8], [2, 9], [10], [11], [11, 12], [11, 13], [11, 14], [11, 15]] (by kernel_rfl) ?_ ?_
   ·refine ⟨?_, ?_, ?_, ?_, ?_, ?_, ?_, ?_, ?_, ?_, ?_, ?_, ?_, ?_, ?_, ?_, ?_, trivial⟩
    ·intro t wq hbq hh K hK
     clear hh
     simp only [filled, upd, Have, is, any, row, pick, Act.put, List.setIfInBounds_toArray, List.set_cons_zero, List.set_cons_succ, Nat.reduceAdd, Nat.reduceEqDiff, reduceIte] at hK ⊢
     go_simp
     exact hK _ _ (Below.refl _ _) rfl
    ·intro t wq hbq hh K hK
     have e0 := hh.1
     simp only [pick] at e0
     replace e0 : t 0 = (.pointer none) := e0
     clear hh
     simp only [filled, upd, Have, is, any, row, pick, Act.put, List.setIfInBounds_toArray, List.set_cons_zero, List.set_cons_succ, Nat.reduceAdd, Nat.reduceEqDiff, reduceIte] at hK ⊢
     simp only [e0] at hK ⊢
     go_simp
     first | exact hK _ _ (Below.refl _ _) rfl | exact hK _ _ (Below.refl _ _) (int_wrap (by omega) (by omega))
    ·intro t wq hbq hh K hK
     have e1 := hh.1
     simp only [pick] at e1
     replace e1 : t 1 = (.bool false) := e1
     clear hh
     simp only [filled, upd, Have, is, any, row, pick, Act.put, List.setIfInBounds_toArray, List.set_cons_zero, List.set_cons_succ, Nat.reduceAdd, Nat.reduceEqDiff, reduceIte] at hK ⊢
     simp only [e1] at hK ⊢
     go_simp
     exact hK _ _ (Below.refl _ _) rfl
    ·intro t wq hbq hh K hK
     have e2 := hh.1
     simp only [pick] at e2
     replace e2 : t 2 = (.bool false) := e2
     clear hh
     simp only [filled, upd, Have, is, any, row, pick, Act.put, List.setIfInBounds_toArray, List.set_cons_zero, List.set_cons_succ, Nat.reduceAdd, Nat.reduceEqDiff, reduceIte] at hK ⊢
     simp only [e2] at hK ⊢
     go_simp
     exact hK _ _ (Below.refl _ _) rfl
    ·intro t wq hbq hh K hK
     have e2 := hh.1
     simp only [pick] at e2
     replace e2 : t 2 = (.bool false) := e2
     have e3 := hh.2.1
     simp only [pick] at e3
     replace e3 : t 3 = (undef) := e3
     clear hh
     simp only [filled, upd, Have, is, any, row, pick, Act.put, List.setIfInBounds_toArray, List.set_cons_zero, List.set_cons_succ, Nat.reduceAdd, Nat.reduceEqDiff, reduceIte] at hK ⊢
     simp only [e2, e3] at hK ⊢
     go_simp
     exact hK _ _ (Below.refl _ _) rfl
    ·intro t wq hbq hh K hK
     have e2 := hh.1
     simp only [pick] at e2
     replace e2 : t 2 = (.bool false) := e2
     have e4 := hh.2.1
     simp only [pick] at e4
     replace e4 : t 4 = (undef) := e4
     clear hh
     simp only [filled, upd, Have, is, any, row, pick, Act.put, List.setIfInBounds_toArray, List.set_cons_zero, List.set_cons_succ, Nat.reduceAdd, Nat.reduceEqDiff, reduceIte] at hK ⊢
     simp only [e2, e4] at hK ⊢
     go_simp
     exact hK _ _ (Below.refl _ _) rfl
    ·intro t wq hbq hh K hK
     have e2 := hh.1
     simp only [pick] at e2
     replace e2 : t 2 = (.bool false) := e2
     have e5 := hh.2.1
     simp only [pick] at e5
     replace e5 : t 5 = (undef) := e5
     clear hh
     simp only [filled, upd, Have, is, any, row, pick, Act.put, List.setIfInBounds_toArray, List.set_cons_zero, List.set_cons_succ, Nat.reduceAdd, Nat.reduceEqDiff, reduceIte] at hK ⊢
     simp only [e2, e5] at hK ⊢
     go_simp
     exact hK _ _ (Below.refl _ _) rfl
    ·intro t wq hbq hh K hK
     have e2 := hh.1
     simp only [pick] at e2
     replace e2 : t 2 = (.bool false) := e2
     clear hh
     simp only [filled, upd, Have, is, any, row, pick, Act.put, List.setIfInBounds_toArray, List.set_cons_zero, List.set_cons_succ, Nat.reduceAdd, Nat.reduceEqDiff, reduceIte] at hK ⊢
     simp only [e2] at hK ⊢
     go_simp
     exact hK _ _ (Below.refl _ _) rfl
    ·intro t wq hbq hh K hK
     have e2 := hh.1
     simp only [pick] at e2
     replace e2 : t 2 = (.bool false) := e2
     have e7 := hh.2.1
     simp only [pick] at e7
     replace e7 : t 7 = (undef) := e7
     clear hh
     simp only [filled, upd, Have, is, any, row, pick, Act.put, List.setIfInBounds_toArray, List.set_cons_zero, List.set_cons_succ, Nat.reduceAdd, Nat.reduceEqDiff, reduceIte] at hK ⊢
     simp only [e2, e7] at hK ⊢
     go_simp
     exact hK _ _ (Below.refl _ _) rfl
    ·intro t wq hbq hh K hK
     have e2 := hh.1
     simp only [pick] at e2
     replace e2 : t 2 = (.bool false) := e2
     have e6 := hh.2.1
     simp only [pick] at e6
     replace e6 : t 6 = (undef) := e6
     have e8 := hh.2.2.1
     simp only [pick] at e8
     replace e8 : t 8 = (undef) := e8
     clear hh
     simp only [filled, upd, Have, is, any, row, pick, Act.put, List.setIfInBounds_toArray, List.set_cons_zero, List.set_cons_succ, Nat.reduceAdd, Nat.reduceEqDiff, reduceIte] at hK ⊢
     simp only [e2, e6, e8] at hK ⊢
     go_simp
     first | exact hK _ _ (Below.refl _ _) rfl | exact hK _ _ (Below.refl _ _) (int_wrap (by omega) (by omega))
    ·intro t wq hbq hh K hK
     have e2 := hh.1
     simp only [pick] at e2
     replace e2 : t 2 = (.bool false) := e2
     have e9 := hh.2.1
     simp only [pick] at e9
     replace e9 : t 9 = (undef) := e9
     clear hh
     simp only [filled, upd, Have, is, any, row, pick, Act.put, List.setIfInBounds_toArray, List.set_cons_zero, List.set_cons_succ, Nat.reduceAdd, Nat.reduceEqDiff, reduceIte] at hK ⊢
     simp only [e2, e9] at hK ⊢
     go_simp
     exact hK _ _ (Below.refl _ _) rfl
    ·intro t wq hbq hh K hK
     have e10 := hh.1
     simp only [pick] at e10
     replace e10 : t 10 = (.bool false) := e10
     clear hh
     simp only [filled, upd, Have, is, any, row, pick, Act.put, List.setIfInBounds_toArray, List.set_cons_zero, List.set_cons_succ, Nat.reduceAdd, Nat.reduceEqDiff, reduceIte] at hK ⊢
     simp only [e10] at hK ⊢
     go_simp
     exact hK _ _ (Below.refl _ _) rfl
    ·intro t wq hbq hh K hK
     have e11 := hh.1
     simp only [pick] at e11
     replace e11 : t 11 = (.bool false) := e11
     clear hh
     simp only [filled, upd, Have, is, any, row, pick, Act.put, List.setIfInBounds_toArray, List.set_cons_zero, List.set_cons_succ, Nat.reduceAdd, Nat.reduceEqDiff, reduceIte] at hK ⊢
     simp only [e11] at hK ⊢
     go_simp
     exact hK _ _ (Below.refl _ _) rfl
    ·intro t wq hbq hh K hK
     have e11 := hh.1
     simp only [pick] at e11
     replace e11 : t 11 = (.bool false) := e11
     have e12 := hh.2.1
     simp only [pick] at e12
     replace e12 : t 12 = (undef) := e12
     clear hh
     simp only [filled, upd, Have, is, any, row, pick, Act.put, List.setIfInBounds_toArray, List.set_cons_zero, List.set_cons_succ, Nat.reduceAdd, Nat.reduceEqDiff, reduceIte] at hK ⊢
     simp only [e11, e12] at hK ⊢
     go_simp
     exact hK _ _ (Below.refl _ _) rfl
    ·intro t wq hbq hh K hK
     have e11 := hh.1
     simp only [pick] at e11
     replace e11 : t 11 = (.bool false) := e11
     have e13 := hh.2.1
     simp only [pick] at e13
     replace e13 : t 13 = (undef) := e13
     clear hh
     simp only [filled, upd, Have, is, any, row, pick, Act.put, List.setIfInBounds_toArray, List.set_cons_zero, List.set_cons_succ, Nat.reduceAdd, Nat.reduceEqDiff, reduceIte] at hK ⊢
     simp only [e11, e13] at hK ⊢
     go_simp
     exact hK _ _ (Below.refl _ _) rfl
    ·intro t wq hbq hh K hK
     have e11 := hh.1
     simp only [pick] at e11
     replace e11 : t 11 = (.bool false) := e11
     have e14 := hh.2.1
     simp only [pick] at e14
     replace e14 : t 14 = (undef) := e14
     clear hh
     simp only [filled, upd, Have, is, any, row, pick, Act.put, List.setIfInBounds_toArray, List.set_cons_zero, List.set_cons_succ, Nat.reduceAdd, Nat.reduceEqDiff, reduceIte] at hK ⊢
     simp only [e11, e14] at hK ⊢
     go_simp
     exact hK _ _ (Below.refl _ _) rfl
    ·intro t wq hbq hh K hK
     have e11 := hh.1
     simp only [pick] at e11
     replace e11 : t 11 = (.bool false) := e11
     have e15 := hh.2.1
     simp only [pick] at e15
     replace e15 : t 15 = (undef) := e15
     clear hh
     simp only [filled, upd, Have, is, any, row, pick, Act.put, List.setIfInBounds_toArray, List.set_cons_zero, List.set_cons_succ, Nat.reduceAdd, Nat.reduceEqDiff, reduceIte] at hK ⊢
     simp only [e11, e15] at hK ⊢
     go_simp
     exact hK _ _ (Below.refl _ _) rfl
   ·intro t wz hbq hh
    have f16 := have_get hh 16 (by decide)
    simp only [pick] at f16
    replace f16 : t 16 = (.bool false) := f16
    clear hh
    simp only [filled, upd, Have, is, any, row, pick, Act.put, List.setIfInBounds_toArray, List.set_cons_zero, List.set_cons_succ, Nat.reduceAdd, Nat.reduceEqDiff, reduceIte]
    simp only [f16]
    have HXpwz := hid (HXpw1.out.below hbq)
    have HXrwz := hid (HXrw1.out.below hbq)
    have HBwz := hid (bel HBw1.out hbq)
    clear HXpw1 HXrw1 HBw1
    clear hbq
    have HLr : Hid ((w.heap.size + 1) < wz.heap.size) := HXrwz.out.lt
    go_upto_region 8 with (fail)
    refine wp_region_rel_tail (by kernel_rfl) 11 [is (.pointer (some ⟨w.heap.size, 0, none⟩)), is (.string (strOf s)), is (.pointer (some ⟨w.heap.size, 1, none⟩)), is (.string (strOf rt)), is (.pointer (some ⟨w.heap.size, 0, none⟩)), is (.string (strOf s)), is (.string (cs true)), is (.string (strOf T2)), urlt OA wz.heap.size, urla OA wz.heap.size, is (.bool OA.isSome)] [[], [0], [], [2], [], [4], [4, 5], [2, 3, 4, 5, 6], [0, 1, 2, 3, 4, 5, 6, 7], [0, 1, 2, 3, 4, 5, 6, 7, 8], [0, 1, 2, 3, 4, 5, 6, 7, 8], [0, 1, 2, 3, 4, 5, 6, 7, 8, 9, 10]] (by kernel_rfl) ?_ ?_
    ·refine ⟨?_, ?_, ?_, ?_, ?_, ?_, ?_, ?_, ?_, ?_, ?_, trivial⟩
     ·intro t wq hbq hh K hK
      clear hh
      simp only [filled, filledN, upd, Have, is, any, row, pick, Act.put, List.setIfInBounds_toArray, List.set_cons_zero, List.set_cons_succ, Nat.reduceAdd, Nat.reduceEqDiff, reduceIte] at hK ⊢
      go_simp
      exact hK _ _ (Below.refl _ _) rfl
     ·intro t wq hbq hh K hK
      have e0 := hh.1
      simp only [pick] at e0
      replace e0 : t 0 = (.pointer (some ⟨w.heap.size, 0, none⟩)) := e0
      clear hh
      simp only [filled, filledN, upd, Have, is, any, row, pick, Act.put, List.setIfInBounds_toArray, List.set_cons_zero, List.set_cons_succ, Nat.reduceAdd, Nat.reduceEqDiff, reduceIte] at hK ⊢
      simp only [e0] at hK ⊢
      have hc := (HXpwz.out.below hbq).facts.1
      go_simp
      exact hK _ _ (Below.refl _ _) rfl
     ·intro t wq hbq hh K hK
      clear hh
      simp only [filled, filledN, upd, Have, is, any, row, pick, Act.put, List.setIfInBounds_toArray, List.set_cons_zero, List.set_cons_succ, Nat.reduceAdd, Nat.reduceEqDiff, reduceIte] at hK ⊢
      go_simp
      exact hK _ _ (Below.refl _ _) rfl
     ·intro t wq hbq hh K hK
      have e2 := hh.1
      simp only [pick] at e2
      replace e2 : t 2 = (.pointer (some ⟨w.heap.size, 1, none⟩)) := e2
      clear hh
      simp only [filled, filledN, upd, Have, is, any, row, pick, Act.put, List.setIfInBounds_toArray, List.set_cons_zero, List.set_cons_succ, Nat.reduceAdd, Nat.reduceEqDiff, reduceIte] at hK ⊢
      simp only [e2] at hK ⊢
      have hc := (HXpwz.out.below hbq).facts.2.1
      go_simp
      exact hK _ _ (Below.refl _ _) rfl
     ·intro t wq hbq hh K hK
      clear hh
      simp only [filled, filledN, upd, Have, is, any, row, pick, Act.put, List.setIfInBounds_toArray, List.set_cons_zero, List.set_cons_succ, Nat.reduceAdd, Nat.reduceEqDiff, reduceIte] at hK ⊢
      go_simp
      exact hK _ _ (Below.refl _ _) rfl
     ·intro t wq hbq hh K hK
      have e4 := hh.1
      simp only [pick] at e4
      replace e4 : t 4 = (.pointer (some ⟨w.heap.size, 0, none⟩)) := e4
      clear hh
      simp only [filled, filledN, upd, Have, is, any, row, pick, Act.put, List.setIfInBounds_toArray, List.set_cons_zero, List.set_cons_succ, Nat.reduceAdd, Nat.reduceEqDiff, reduceIte] at hK ⊢
      simp only [e4] at hK ⊢
      have hc := (HXpwz.out.below hbq).facts.1
      go_simp
      exact hK _ _ (Below.refl _ _) rfl
     ·intro t wq hbq hh K hK
      have e5 := hh.2.1
      simp only [pick] at e5
      replace e5 : t 5 = (.string (strOf s)) := e5
      clear hh
      simp only [filled, filledN, upd, Have, is, any, row, pick, Act.put, List.setIfInBounds_toArray, List.set_cons_zero, List.set_cons_succ, Nat.reduceAdd, Nat.reduceEqDiff, reduceIte] at hK ⊢
      simp only [e5] at hK ⊢
      go_simp
      refine (HSS.out _).mono ?_
      rintro e w9 ⟨rfl, hw9⟩
      subst hw9
      exact hK _ _ (Below.refl _ _) rfl
     ·intro t wq hbq hh K hK
      have e3 := hh.2.1
      simp only [pick] at e3
      replace e3 : t 3 = (.string (strOf rt)) := e3
      have e6 := hh.2.2.2.2.1
      simp only [pick] at e6
      replace e6 : t 6 = (.string (cs true)) := e6
      clear hh
      simp only [filled, filledN, upd, Have, is, any, row, pick, Act.put, List.setIfInBounds_toArray, List.set_cons_zero, List.set_cons_succ, Nat.reduceAdd, Nat.reduceEqDiff, reduceIte] at hK ⊢
      simp only [e3, e6] at hK ⊢
      go_simp
      refine (HTR.out _).mono ?_
      rintro e w9 ⟨rfl, hb9⟩
      exact hK _ _ hb9 rfl
     ·intro t wq hbq hh K hK
      have e1 := hh.2.1
      simp only [pick] at e1
      replace e1 : t 1 = (.string (strOf s)) := e1
      have e7 := hh.2.2.2.2.2.2.2.1
      simp only [pick] at e7
      replace e7 : t 7 = (.string (strOf T2)) := e7
      clear hh
      simp only [filled, filledN, upd, Have, is, any, row, pick, Act.put, List.setIfInBounds_toArray, List.set_cons_zero, List.set_cons_succ, Nat.reduceAdd, Nat.reduceEqDiff, reduceIte] at hK ⊢
      simp only [e1, e7] at hK ⊢
      go_simp
      refine (HAU.out _ (HL.out.below (bel HBwz.out hbq)) (pow_below HT.out (bel HBwz.out hbq)) (HM.out.below (bel HBwz.out hbq))).mono ?_
      intro e w9 ha
      obtain ⟨hb9, A9, n9, c9, rfl, ho9⟩ := Regs.anso_urlt ha
      exact hK _ _ hb9 ⟨A9, n9, c9, rfl, owns_base ho9 hbq.size⟩
     ·intro t wq hbq hh K hK
      have e8 := hh.2.2.2.2.2.2.2.2.1
      simp only [pick] at e8
      clear hh
      simp only [filled, filledN, upd, Have, is, any, row, pick, Act.put, List.setIfInBounds_toArray, List.set_cons_zero, List.set_cons_succ, Nat.reduceAdd, Nat.reduceEqDiff, reduceIte] at hK ⊢
      obtain ⟨A8, n8, c8, e8, ho8⟩ := e8
      simp only [e8] at hK ⊢
      go_simp
      exact hK _ _ (Below.refl _ _) ⟨_, _, _, rfl, ho8⟩
     ·intro t wq hbq hh K hK
      have e8 := hh.2.2.2.2.2.2.2.2.1
      simp only [pick] at e8
      clear hh
      simp only [filled, filledN, upd, Have, is, any, row, pick, Act.put, List.setIfInBounds_toArray, List.set_cons_zero, List.set_cons_succ, Nat.reduceAdd, Nat.reduceEqDiff, reduceIte] at hK ⊢
      obtain ⟨A8, n8, c8, e8, ho8⟩ := e8
      simp only [e8] at hK ⊢
      go_simp
      exact hK _ _ (Below.refl _ _) rfl
    ·intro t wq hbq hh
     have f9 := have_get hh 9 (by decide)
     simp only [pick] at f9
     have f10 := have_get hh 10 (by decide)
     simp only [pick] at f10
     replace f10 : t 10 = (.bool OA.isSome) := f10
     clear hh
     simp only [filled, filledN, upd, Have, is, any, row, pick, Act.put, List.setIfInBounds_toArray, List.set_cons_zero, List.set_cons_succ, Nat.reduceAdd, Nat.reduceEqDiff, reduceIte]
     obtain ⟨A9, n9, c9, f9, ho9⟩ := f9
     simp only [f9, f10]
     have HXrq := hid (HXrwz.out.below hbq)
     have HBq := hid (bel HBwz.out hbq)
     have HOQ := hid ho9
     clear ho9 hbq
     refine store_box HXrq.out ((OA).getD U0) A9 n9 c9 (.tmp 4) (.tmp 63) rfl rfl rfl rfl ?_
     go_wp2
     try simp only [Exit.inBlock, Exit.then]
     have ho := owns_base (SixC.owns_other (w' := World.setRow wq (w.heap.size + 1) (cells ((OA).getD U0) (.slice A9 n9 c9))) (gb := (w.heap.size + 1)) (HOQ.out) (fun k hk => setRow_other _ _ _ _ hk) HLr.out) (by have h1 := LE_r.out; have h2 := HLr.out; omega : w.heap.size ≤ _)
     refine bodyPost_ret (w := World.setRow wq (w.heap.size + 1) (cells ((OA).getD U0) (.slice A9 n9 c9))) (res2 (u := (OA).getD U0) (p := .slice A9 n9 c9) rfl (HXrq.out.row _ _) (OA).isSome _ rfl rfl) rfl ?_
     rw [HO5.out]
     exact Regs.urlt_anso (below_setRow HBq.out LE_r.out _) ho
  | false =>
   rw [hsp] at HSP
   go_wp2_with fail
   refine (HSP.out _).mono ?_
   rintro e wx ⟨rfl, hwx⟩
   obtain rfl : w1 = wx := by first | exact hwx | exact hwx.symm
   clear hwx
   by_cases h0 : s = []
   ·
    have HNO : Hid (O = none) := by show _ = _; rw [HO.out, if_neg hs1, if_neg (by rw [hsp]; simp), if_neg (by simp [h0])]
    have e0h0 : ((strOf s).toList == []) = true := by rw [str_tl, h0]; first | done | rfl
    have e1h0 : (strOf s).toList = [] := by rw [str_tl, h0]; first | done | rfl
    clear h0 hsp hs1
    go_wp2_with (refine store_box HXrw1.out U0 none 0 0 (.tmp 4) (.tmp 76) rfl rfl rfl rfl ?_)
    try simp only [Exit.inBlock, Exit.then]
    exact bodyPost_ret (w := World.setRow w1 (w.heap.size + 1) (cells U0 (.slice none 0 0))) (res2 (u := U0) (p := .slice none 0 0) rfl (HXrw1.out.row U0 _) false _ rfl rfl) rfl (ans_none HNO.out (below_setRow HBw1.out LE_r.out _))
   ·
    have HO5 : Hid (O = PrsP.plain ⟨s, rt, q, f, hq, hf⟩) := by show _ = _; rw [HO.out, if_neg hs1, if_neg (by rw [hsp]; simp), if_pos h0]
    have e0h0 : ((strOf s).toList == []) = false := by rw [str_tl, beq_eq_false_iff_ne]; exact h0
    have e1h0 : ¬ (strOf s).toList = [] := by rw [str_tl]; exact h0
    have e2 : (strOf s).toList.isEmpty = false := by rw [str_tl]; simpa using h0
    clear h0 hsp hs1
    go_wp2_with fail
    refine (HPL.out _ (HL.out.below HBw1.out) (pow_below HT.out HBw1.out) (HM.out.below HBw1.out)).mono ?_
    rintro e w2 ⟨hbx, u', A', n', c', ok, rfl, hown, hoo⟩
    have HLr : Hid ((w.heap.size + 1) < w1.heap.size) := HXrw1.out.lt
    have HOW := hid hown
    have HOO := hid hoo
    clear hown hoo
    have HXpw2 := hid (HXpw1.out.below hbx)
    have HXrw2 := hid (HXrw1.out.below hbx)
    have HBw2 := hid (bel HBw1.out hbx)
    have HOB : Hid (w.heap.size ≤ w1.heap.size) := HBw1.out.size
    clear HXpw1 HXrw1 HBw1
    clear hbx
    go_wp2_with (refine store_box HXrw2.out u' A' n' c' (.tmp 4) (.tmp 71) rfl rfl rfl rfl ?_)
    try simp only [Exit.inBlock, Exit.then]
    exact bodyPost_ret (w := World.setRow w2 (w.heap.size + 1) (cells u' (.slice A' n' c'))) (res2 (u := u') (p := .slice A' n' c') rfl (HXrw2.out.row u' _) ok _ rfl rfl) rfl ⟨below_setRow HBw2.out LE_r.out _, u', A', n', c', ok, rfl, (HOW.out.row HLr.out _).base HOB.out, by rw [HO5.out]; exact HOO.out⟩
end Go.Proofs.YtmdofbccebkbiaaGreatDoor.PrsN
namespace Go.Proofs.YtmdofbccebkbiaaGreatDoor.PrsR
open Go.RowKit Base Regs Base2 UtfA UtfL PthG PthH PthJ UrlA PrsP PrsA PrsQ PrsB Ubx Pbx PrsC PrsD SixG HstC Spl ClnP PrsG PrsH PrsN
theorem apart_len (C : List UInt8) : (PrsP.apart C).rest.length ≤ C.length ∧ (PrsP.apart C).qry.length ≤ C.length ∧ (PrsP.apart C).frg.length ≤ C.length := by
 have h1 := cutB_len 35 C
 have h2 := cutB_len 63 (cutB 35 C).1
 have h3 := cutB_len 58 (cutB 63 (cutB 35 C).1).1
 unfold PrsP.apart
 simp only
 split
 ·refine ⟨?_, ?_, ?_⟩ <;> simp only <;> omega
 ·refine ⟨?_, ?_, ?_⟩ <;> simp only <;> omega
theorem finish_pth (u : U) (p : Parts) : (PrsP.finish u p).pth = u.pth := by
 cases h1 : p.hq <;> cases h2 : p.hf <;> simp [PrsP.finish, h1, h2]
theorem resI {fn : Func} {a b : Tmp} {w : World} {g : Nat} {u : U} {p : Value} (h : fn.results = #[.cell a 25, .tmp b]) (hU : UB w g u p) (z : Int) (tmps : Array Value) (h2 : tmps.getD a undef = .pointer (some ⟨g, 0, none⟩)) (h3 : tmps.getD b undef = .int .i64 z) :
  (results fn tmps).run Tryz.prog w = .ok (.tuple #[.agg (cells u p), .int .i64 z]) w := by
 have hp' : tmps[a]?.getD undef = .pointer (some ⟨g, 0, none⟩) := by simpa using h2
 have hq' : tmps[b]?.getD undef = .int .i64 z := by simpa using h3
 simp [results, h, hp', hq', asAddr, hU.load]
def AnsP (w : World) (o : Option U) (e : Ending) (w' : World) : Prop := Below w.heap.size w w' ∧ ∃ A n c, e = .returned (.tuple #[.agg (cells (o.getD U0) (.slice A n c)), .int .i64 (if o.isSome = true then 0 else 2)]) ∧ Own w w' (o.getD U0) A n c
set_option maxRecDepth 100000 in
set_option maxHeartbeats 16000000 in
theorem parseN_any (T : List UInt8) (w : World) (hs : T.length ≤ 65536) (hL : Lad w) (hT : Tab.Pow w) (hM : Max w) (hU : Utab w) : Calls Tryz.prog 12 #[.string (strOf T), .pointer none] w (AnsP w (PrsP.url T none)) := by
 have hcl := clean_len T
 obtain ⟨C, hC⟩ : ∃ x, x = clean T := ⟨_, rfl⟩
 rw [← hC] at hcl
 obtain ⟨p, hp⟩ : ∃ x, x = PrsP.apart C := ⟨_, rfl⟩
 have hpl := apart_len C
 rw [← hp] at hpl
 obtain ⟨OR, hOR⟩ : ∃ x, x = PrsP.resolve p none := ⟨_, rfl⟩
 obtain ⟨OU, hOU⟩ : ∃ x, x = PrsP.url T none := ⟨_, rfl⟩
 have HOU : Hid (OU = OR.map fun u => PrsP.finish u p) := by show _ = _; rw [hOU]; unfold PrsP.url; rw [← hC, ← hp, ← hOR]
 rw [← hOU]
 have HCL : Hid (∀ w : World, Utab w → Calls Tryz.prog 15 #[.string (strOf T)] w fun e w' => e = .returned (.string (strOf C)) ∧ Below w.heap.size w w') := fun w h => by rw [hC]; exact clean_any T w (by omega) h
 have HAP : Hid (∀ w : World, Max w → Calls Tryz.prog 40 #[.string (strOf C)] w fun e w' => e = .returned (.agg (pcells p)) ∧ Below w.heap.size w w') := fun w h => by rw [hp]; exact apart_any C w (by omega) h
 have HRS : Hid (∀ w : World, Lad w → Tab.Pow w → Max w → Calls Tryz.prog 41 #[.agg (pcells p), .pointer none] w (AnsO w OR)) := fun w a c d => by rw [hOR]; exact resolveN_any p w (by omega) a c d
 have HFI : Hid (∀ (u : U) (A : Option Addr) (n c : Nat) (w : World), Calls Tryz.prog 42 #[.agg (cells u (.slice A n c)), .agg (pcells p)] w fun e w' => e = .returned (.agg (cells (PrsP.finish u p) (.slice A n c))) ∧ Below w.heap.size w w') := fun u A n c w => finish_any u p A n c w (by omega) (by omega)
 have hTI : ¬ ((strOf T).size : Int) > 65536 := by rw [size_strOf]; omega
 have hTI2 : ((strOf T).size : Int) ≤ 65536 := by omega
 have HL := hid hL
 have HT := hid hT
 have HM := hid hM
 have HUT := hid hU
 clear hOU hOR hp hC hL hT hM hU hpl hcl
 obtain ⟨s, rt, q, f, hq, hf⟩ := p
 go_enter Tryz.func12, Tryz.ntmps12
 go_upto_region 1 with (fail)
 generalize hw : World.alloc w _ = w1
 have h1 : UB w1 (w.heap.size) (U0) (.slice none 0 0) ∧ Below w.heap.size w w1 := by
  subst hw
  exact laid1 w _ _
 clear hw
 have LE_r : Hid (w.heap.size ≤ w.heap.size) := (Below.refl w.heap.size w).size
 have HBw1 := hid (bel (Below.refl w.heap.size w) h1.2)
 have HXrw1 := hid h1.1
 clear h1
 go_wp2_with fail
 refine (HCL.out _ (HUT.out.below HBw1.out)).mono ?_
 rintro e w2 ⟨rfl, hbx⟩
 have HXrw2 := hid (HXrw1.out.below hbx)
 have HBw2 := hid (bel HBw1.out hbx)
 clear HXrw1 HBw1
 clear hbx
 go_wp2_with fail
 refine (HAP.out _ (HM.out.below HBw2.out)).mono ?_
 rintro e w3 ⟨rfl, hbx⟩
 have HXrw3 := hid (HXrw2.out.below hbx)
 have HBw3 := hid (bel HBw2.out hbx)
 clear HXrw2 HBw2
 clear hbx
 rw [show Value.agg (pcells ⟨s, rt, q, f, hq, hf⟩) = .agg #[.string (strOf s), .string (strOf rt), .string (strOf q), .string (strOf f), .bool hq, .bool hf] from rfl]
 go_upto_region 4 with (fail)
 generalize hw : World.alloc w3 _ = w4
 have h1 : PB w4 (w3.heap.size) (⟨s, rt, q, f, hq, hf⟩) ∧ Below w3.heap.size w3 w4 := by
  subst hw
  exact laid1 w3 _ _
 clear hw
 have hlr := HXrw3.out.lt
 have NE_r_p : Hid (w.heap.size ≠ w3.heap.size) := by show _ ≠ _; omega
 have NE_p_r : Hid (w3.heap.size ≠ w.heap.size) := by show _ ≠ _; omega
 clear hlr
 have LE_p : Hid (w.heap.size ≤ w3.heap.size) := HBw3.out.size
 have HXrw4 := hid (HXrw3.out.below h1.2)
 have HBw4 := hid (bel HBw3.out h1.2)
 have HXpw4 := hid h1.1
 clear HXrw3 HBw3
 clear h1
 obtain ⟨p0, p1, p2, p3, p4, p5⟩ := HXpw4.out.facts
 go_wp2_with fail
 clear p0 p1 p2 p3 p4 p5
 refine (HRS.out _ (HL.out.below HBw4.out) (pow_below HT.out HBw4.out) (HM.out.below HBw4.out)).mono ?_
 rintro e w5 ⟨hbx, u', A', n', c', ok, rfl, hown, hoo⟩
 have HLr : Hid (w.heap.size < w4.heap.size) := HXrw4.out.lt
 have HOB : Hid (w.heap.size ≤ w4.heap.size) := HBw4.out.size
 have HXrw5 := hid (HXrw4.out.below hbx)
 have HXpw5 := hid (HXpw4.out.below hbx)
 have HBw5 := hid (bel HBw4.out hbx)
 have HOO := hid hoo
 have HWw5 := hid (show Own w4 w5 u' A' n' c' from hown)
 clear hoo hown
 clear HXrw4 HXpw4 HBw4
 clear hbx
 rw [show Value.agg (cells u' (.slice A' n' c')) = .agg #[.string (strOf u'.sch), .string (strOf u'.usr), .string (strOf u'.pwd), .string (strOf u'.hst), .bool u'.hh, .int .i64 u'.port, .bool u'.opq, .string (strOf u'.txt), .slice A' n' c', .bool u'.hq, .bool u'.hf, .string (strOf u'.qry), .string (strOf u'.frg)] from rfl]
 go_upto_region 5 with (fail)
 generalize hw : World.alloc w5 _ = w6
 have h1 : UB w6 (w5.heap.size) (u') (.slice A' n' c') ∧ Below w5.heap.size w5 w6 := by
  subst hw
  exact laid1 w5 _ _
 clear hw
 have hlr := HXrw5.out.lt
 have NE_r_u : Hid (w.heap.size ≠ w5.heap.size) := by show _ ≠ _; omega
 have NE_u_r : Hid (w5.heap.size ≠ w.heap.size) := by show _ ≠ _; omega
 clear hlr
 have hlp := HXpw5.out.lt
 have NE_p_u : Hid (w3.heap.size ≠ w5.heap.size) := by show _ ≠ _; omega
 have NE_u_p : Hid (w5.heap.size ≠ w3.heap.size) := by show _ ≠ _; omega
 clear hlp
 have LE_u : Hid (w.heap.size ≤ w5.heap.size) := HBw5.out.size
 have HXrw6 := hid (HXrw5.out.below h1.2)
 have HXpw6 := hid (HXpw5.out.below h1.2)
 have HBw6 := hid (bel HBw5.out h1.2)
 have HXuw6 := hid h1.1
 have HBU := hid h1.2
 clear HXrw5 HXpw5 HBw5
 clear h1
 skip
 cases ok with
 | false =>
  have HNO : Hid (OU = none) := by
   show _ = _
   rcases HOO.out with ⟨_, h⟩ | ⟨h, _⟩
   ·cases h
   ·rw [HOU.out, h]; rfl
  go_wp2_with (refine store_box HXrw6.out U0 none 0 0 (.tmp 4) (.tmp 24) rfl rfl rfl rfl ?_)
  try simp only [Exit.inBlock, Exit.then]
  refine bodyPost_ret (w := World.setRow w6 w.heap.size (cells U0 (.slice none 0 0))) (resI (u := U0) (p := .slice none 0 0) rfl (HXrw6.out.row U0 _) 2 _ rfl rfl) rfl ?_
  rw [HNO.out]
  exact ⟨below_setRow HBw6.out LE_r.out _, none, 0, 0, rfl, own_nil _ _ rfl⟩
 | true =>
  have HSO : Hid (OU = some (PrsP.finish u' ⟨s, rt, q, f, hq, hf⟩)) := by
   show _ = _
   rcases HOO.out with ⟨h, _⟩ | ⟨_, h, _⟩
   ·rw [HOU.out, h]; rfl
   ·cases h
  have hfp : (PrsP.finish u' ⟨s, rt, q, f, hq, hf⟩).pth = u'.pth := finish_pth _ _
  obtain ⟨d0, d1, d2, d3, d4, d5, d6, d7, d8, d9, d10, d11, d12⟩ := HXuw6.out.facts
  obtain ⟨p0, p1, p2, p3, p4, p5⟩ := HXpw6.out.facts
  go_wp2_with fail
  clear d0 d1 d2 d3 d4 d5 d6 d7 d8 d9 d10 d11 d12
  clear p0 p1 p2 p3 p4 p5
  skip
  have HLW : Hid (Below w5.heap.size w5 w6) := HBU.out
  refine (HFI.out u' A' n' c' _).mono ?_
  rintro e w7 ⟨rfl, hbx⟩
  have HXrw7 := hid (HXrw6.out.below hbx)
  have HXpw7 := hid (HXpw6.out.below hbx)
  have HXuw7 := hid (HXuw6.out.below hbx)
  have HBw7 := hid (bel HBw6.out hbx)
  clear HXrw6 HXpw6 HXuw6 HBw6
  have HBX9 := hid hbx
  clear hbx
  have hwn := (HWw5.out.below HLW.out).below HBX9.out
  go_wp2_with (refine store_box HXrw7.out (PrsP.finish u' ⟨s, rt, q, f, hq, hf⟩) A' n' c' (.tmp 4) (.tmp 27) rfl rfl rfl rfl ?_)
  try simp only [Exit.inBlock, Exit.then]
  have ho := (hwn.row HLr.out (cells (PrsP.finish u' ⟨s, rt, q, f, hq, hf⟩) (.slice A' n' c'))).base HOB.out
  refine bodyPost_ret (w := World.setRow w7 w.heap.size (cells (PrsP.finish u' ⟨s, rt, q, f, hq, hf⟩) (.slice A' n' c'))) (resI (u := PrsP.finish u' ⟨s, rt, q, f, hq, hf⟩) (p := .slice A' n' c') rfl (HXrw7.out.row _ _) 0 _ rfl rfl) rfl ?_
  rw [HSO.out]
  exact ⟨below_setRow HBw7.out LE_r.out _, A', n', c', rfl, by show Own _ _ (PrsP.finish u' ⟨s, rt, q, f, hq, hf⟩) _ _ _; unfold Own; rw [hfp]; exact ho⟩
end Go.Proofs.YtmdofbccebkbiaaGreatDoor.PrsR
