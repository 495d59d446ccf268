/- The walks of the laws MimeSame: they return true, whatever they are called with. -/
import Derived.Test.YtlbgcibdpeaomaaDoorLaw05b
import Derived.Test.YtlbgcibdpeaomaaDoorRegs
namespace Go.Proofs.YtlbgcibdpeaomaaDoor.Laws
open Go.RowKit Go.Proofs.YtlbgcibdpeaomaaDoor.Base Go.Proofs.YtlbgcibdpeaomaaDoor.Base2 Go.Proofs.YtlbgcibdpeaomaaDoor.Regs Go.Proofs.YtlbgcibdpeaomaaDoor.MimK Go.Proofs.YtlbgcibdpeaomaaDoor.UtfL Go.Proofs.YtlbgcibdpeaomaaDoor.TokP Go.Proofs.YtlbgcibdpeaomaaDoor.MimP Go.Proofs.YtlbgcibdpeaomaaDoor.MimB Go.Proofs.YtlbgcibdpeaomaaDoor.MimC Go.Proofs.YtlbgcibdpeaomaaDoor.MimD Go.Proofs.YtlbgcibdpeaomaaDoor.MimE Go.Proofs.YtlbgcibdpeaomaaDoor.MimQ Go.Proofs.YtlbgcibdpeaomaaDoor.MimF Go.Proofs.YtlbgcibdpeaomaaDoor.MimH Go.Proofs.YtlbgcibdpeaomaaDoor.MimI Go.Proofs.YtlbgcibdpeaomaaDoor.MimL Go.Proofs.YtlbgcibdpeaomaaDoor.MimN Go.Proofs.YtlbgcibdpeaomaaDoor.MimW Go.Proofs.YtlbgcibdpeaomaaDoor.Mim0 Go.Proofs.YtlbgcibdpeaomaaDoor.Mim1

theorem print_same {T S T2 S2 : ByteArray} {l m : List (ByteArray × ByteArray)} (h : rightL T.data.toList S.data.toList (PSL l) = true) (h2 : rightL T2.data.toList S2.data.toList (PSL m) = true) :
    ((strOf (printM T.data.toList S.data.toList (PSL l))).toList == (strOf (printM T2.data.toList S2.data.toList (PSL m))).toList) = sameM T S l T2 S2 m := by
  rw [eq_data, Bool.eq_iff_iff, decide_eq_true_iff]
  unfold sameM
  simp only [Bool.and_eq_true, decide_eq_true_iff]
  constructor
  · intro e
    obtain ⟨e1, e2, e3⟩ := print_inj h h2 e
    exact ⟨ext_str e1, ext_str e2, by rw [← psS_PSL l, e3, psS_PSL]⟩
  · rintro ⟨rfl, rfl, rfl⟩
    rfl
set_option linter.unusedSimpArgs false in
set_option maxRecDepth 100000 in
set_option maxHeartbeats 8000000 in
theorem MimeSame_any (T S : ByteArray) (A : Option Addr) (n cap : Nat) (l : List (ByteArray × ByteArray)) (T2 S2 : ByteArray) (A2 : Option Addr) (n2 cap2 : Nat) (m : List (ByteArray × ByteArray)) (w : World) (hT : T.size ≤ 140737488351232) (hS : S.size ≤ 140737488351232) (hr : Prm w A n l) (hc : n ≤ cap) (hm : cap ≤ maxLen) (hsh : Short l) (hT2 : T2.size ≤ 140737488351232) (hS2 : S2.size ≤ 140737488351232) (hr2 : Prm w A2 n2 m) (hc2 : n2 ≤ cap2) (hm2 : cap2 ≤ maxLen) (hsh2 : Short m) : Calls Tryd.prog 6 #[.agg #[.string T, .string S, .slice A n cap], .agg #[.string T2, .string S2, .slice A2 n2 cap2]] w fun e w' => e = .returned (.bool true) ∧ Below w.heap.size w w' := by
  obtain ⟨V, hV⟩ : ∃ V, V = sameM T S l T2 S2 m := ⟨_, rfl⟩
  have HSA := hid (fun (w : World) (h1 : TyB T S A n cap l w) (h2 : TyB T2 S2 A2 n2 cap2 m w) => same_any T S A n cap l T2 S2 A2 n2 cap2 m w h1.1 h2.1 h1.2.1 h1.2.2 h2.2.1 h2.2.2)
  have HSB := hid (fun (w : World) (h1 : TyB T S A n cap l w) (h2 : TyB T2 S2 A2 n2 cap2 m w) => refSame_any T S A n cap l T2 S2 A2 n2 cap2 m w h1.1 h2.1 h1.2.1 h1.2.2 h2.2.1 h2.2.2)
  rw [← hV] at HSA HSB
  have HV := hid hV
  clear hV
  have HFA := hid (few_tb (A := A) (n := n) (cap := cap) hT hS hsh)
  have HFB := hid (few_tb (A := A2) (n := n2) (cap := cap2) hT2 hS2 hsh2)
  have HTA0 : Hid (TyB T S A n cap l w) := ⟨hr, hc, hm⟩
  have HTB0 : Hid (TyB T2 S2 A2 n2 cap2 m w) := ⟨hr2, hc2, hm2⟩
  clear hT hS hsh hr hc hm hT2 hS2 hsh2 hr2 hc2 hm2
  go_enter Tryd.func6, Tryd.ntmps6
  go_upto_region 1 with (fail)
  have hb : Below w.heap.size w (World.alloc (World.alloc w (.cells #[.string T, .string S, .slice A n cap] 25)) (.cells #[.string T2, .string S2, .slice A2 n2 cap2] 25)) := ((Below.refl _ _).alloc (Nat.le_refl _) _).alloc (by simp) _
  have HX := hid (box_two (w := w) (a := #[.string T, .string S, .slice A n cap]) (b := #[.string T2, .string S2, .slice A2 n2 cap2]) 25).1
  have HY := hid (box_two (w := w) (a := #[.string T, .string S, .slice A n cap]) (b := #[.string T2, .string S2, .slice A2 n2 cap2]) 25).2
  replace HX : Hid (B3 25 _ (w.heap.size) (.string T) (.string S) (.slice A n cap)) := HX
  replace HY : Hid (B3 25 _ (w.heap.size + 1) (.string T2) (.string S2) (.slice A2 n2 cap2)) := HY
  generalize World.alloc (World.alloc w _) _ = v0 at hb HX HY ⊢
  have HB1 := hid hb
  have HTA_1 := hid (HTA0.out.below hb)
  have HTB_1 := hid (HTB0.out.below hb)
  clear hb
  go_wp2_with fail
  refine (awake_any _).mono ?_
  rintro e w2 ⟨rfl, hb⟩
  have HB2 := hid (bel HB1.out hb)
  have HTA_2 := hid (HTA_1.out.below hb)
  have HTB_2 := hid (HTB_1.out.below hb)
  have HX_2 := hid (HX.out.below hb)
  have HY_2 := hid (HY.out.below hb)
  clear hb
  obtain ⟨c0, c1, c2⟩ := HX_2.out.facts
  go_wp2_with fail
  clear c0 c1 c2
  refine (HFA.out _ HTA_2.out).mono ?_
  rintro e w3 ⟨fa, rfl, hfa, hb⟩
  have HB3 := hid (bel HB2.out hb)
  have HTA_3 := hid (HTA_2.out.below hb)
  have HTB_3 := hid (HTB_2.out.below hb)
  have HX_3 := hid (HX_2.out.below hb)
  have HY_3 := hid (HY_2.out.below hb)
  clear hb
  cases fa with
  | false =>
    clear hfa
    go_wp2_with fail
    refine (awake_any _).mono ?_
    rintro e w4 ⟨rfl, hb⟩
    have HB4 := hid (bel HB3.out hb)
    have HTA_4 := hid (HTA_3.out.below hb)
    have HTB_4 := hid (HTB_3.out.below hb)
    have HX_4 := hid (HX_3.out.below hb)
    have HY_4 := hid (HY_3.out.below hb)
    clear hb
    go_wp2
    go_ret
    exact ⟨rfl, HB4.out⟩
  | true =>
    have HF1 := hid (hfa rfl)
    clear hfa
    obtain ⟨c0, c1, c2⟩ := HY_3.out.facts
    go_wp2_with fail
    clear c0 c1 c2
    refine (HFB.out _ HTB_3.out).mono ?_
    rintro e w4 ⟨fb, rfl, hfb, hb⟩
    have HB4 := hid (bel HB3.out hb)
    have HTA_4 := hid (HTA_3.out.below hb)
    have HTB_4 := hid (HTB_3.out.below hb)
    have HX_4 := hid (HX_3.out.below hb)
    have HY_4 := hid (HY_3.out.below hb)
    clear hb
    cases fb with
    | false =>
      clear hfb
      go_wp2_with fail
      refine (awake_any _).mono ?_
      rintro e w5 ⟨rfl, hb⟩
      have HB5 := hid (bel HB4.out hb)
      have HTA_5 := hid (HTA_4.out.below hb)
      have HTB_5 := hid (HTB_4.out.below hb)
      have HX_5 := hid (HX_4.out.below hb)
      have HY_5 := hid (HY_4.out.below hb)
      clear hb
      go_wp2
      go_ret
      exact ⟨rfl, HB5.out⟩
    | true =>
      have HF2 := hid (hfb rfl)
      clear hfb
      obtain ⟨X1, hX1⟩ : ∃ X : ByteArray, X = strOf (printM T.data.toList S.data.toList (PSL l)) := ⟨_, rfl⟩
      obtain ⟨X2, hX2⟩ : ∃ X : ByteArray, X = strOf (printM T2.data.toList S2.data.toList (PSL m)) := ⟨_, rfl⟩
      have HPA := hid (fun w (h : TyB T S A n cap l w) => print_any T S A n cap l w h.1 h.2.1 h.2.2 HF1.out)
      rw [← hX1] at HPA
      have HPB := hid (fun w (h : TyB T2 S2 A2 n2 cap2 m w) => print_any T2 S2 A2 n2 cap2 m w h.1 h.2.1 h.2.2 HF2.out)
      rw [← hX2] at HPB
      obtain ⟨R1, hR1⟩ : ∃ R, R = rightL T.data.toList S.data.toList (PSL l) := ⟨_, rfl⟩
      have HRA := hid (fun w h => refRight_tb HF1.out w (h : TyB T S A n cap l w))
      rw [← hR1] at HRA
      obtain ⟨R2, hR2⟩ : ∃ R, R = rightL T2.data.toList S2.data.toList (PSL m) := ⟨_, rfl⟩
      have HRB := hid (fun w h => refRight_tb HF2.out w (h : TyB T2 S2 A2 n2 cap2 m w))
      rw [← hR2] at HRB
      have HQ : Hid (R1 = true → R2 = true → (X1.toList == X2.toList) = V) := by
        intro h1 h2
        rw [hX1, hX2, HV.out]
        exact print_same (hR1.symm.trans h1) (hR2.symm.trans h2)
      clear hX1 hX2 hR1 hR2
      have hvv : (V != V) = false := by simp
      have hvv2 : (V == V) = true := by simp
      obtain ⟨c0, c1, c2⟩ := HX_4.out.facts
      obtain ⟨d0, d1, d2⟩ := HY_4.out.facts
      go_wp2_with fail
      clear c0 c1 c2 d0 d1 d2
      refine (HSB.out _ HTA_4.out HTB_4.out).mono ?_
      rintro e w5 ⟨rfl, hb⟩
      have HB5 := hid (bel HB4.out hb)
      have HTA_5 := hid (HTA_4.out.below hb)
      have HTB_5 := hid (HTB_4.out.below hb)
      have HX_5 := hid (HX_4.out.below hb)
      have HY_5 := hid (HY_4.out.below hb)
      clear hb
      obtain ⟨c0, c1, c2⟩ := HX_5.out.facts
      obtain ⟨d0, d1, d2⟩ := HY_5.out.facts
      go_wp2_with fail
      clear c0 c1 c2 d0 d1 d2
      refine (HSA.out _ HTA_5.out HTB_5.out).mono ?_
      rintro e w6 ⟨rfl, hb⟩
      have HB6 := hid (bel HB5.out hb)
      have HTA_6 := hid (HTA_5.out.below hb)
      have HTB_6 := hid (HTB_5.out.below hb)
      have HX_6 := hid (HX_5.out.below hb)
      have HY_6 := hid (HY_5.out.below hb)
      clear hb
      go_upto_region 6 with (fail)
      cases R1 with
      | false =>
        clear hvv hvv2
        refine wp_region_rel (by kernel_rfl) [is ((.agg #[.string T, .string S, .slice A n cap])), is (.bool false), is (.bool true), is (.bool true), is (undef), is (undef), is (undef), is (.bool true), is (.bool true), is (undef), is (undef), is (undef), is (undef), is (undef), is (undef), is (undef), is (.bool true), is (.bool true)] [[], [0], [1], [2], [3], [3, 4], [3, 5], [3, 6], [7], [8], [8, 9], [8], [8, 11], [8, 10, 12], [8], [8, 13, 14], [8, 15], [16]] (by kernel_rfl) ?_ ?_
        · refine ⟨?_, ?_, ?_, ?_, ?_, ?_, ?_, ?_, ?_, ?_, ?_, ?_, ?_, ?_, ?_, ?_, ?_, ?_, trivial⟩
          · intro t wq hbq hh K hK
            clear hh
            simp only [filled, upd, Have, is, any, row, pick, Act.put, List.setIfInBounds_toArray, List.set_cons_zero, List.set_cons_succ, Nat.reduceAdd, Nat.reduceEqDiff, reduceIte] at hK ⊢
            obtain ⟨c0, c1, c2⟩ := (HX_6.out.below hbq).facts
            go_simp
            exact hK _ _ (Below.refl _ _) rfl
          · intro t wq hbq hh K hK
            have e0 := hh.1
            simp only [pick] at e0
            replace e0 : t 0 = ((.agg #[.string T, .string S, .slice A n cap])) := e0
            clear hh
            simp only [filled, upd, Have, is, any, row, pick, Act.put, List.setIfInBounds_toArray, List.set_cons_zero, List.set_cons_succ, Nat.reduceAdd, Nat.reduceEqDiff, reduceIte] at hK ⊢
            simp only [e0] at hK ⊢
            go_simp
            refine (HRA.out _ (HTA_6.out.below hbq)).mono ?_
            rintro e w9 ⟨rfl, hb9⟩
            exact hK _ _ hb9 rfl
          · intro t wq hbq hh K hK
            have e1 := hh.1
            simp only [pick] at e1
            replace e1 : t 1 = (.bool false) := e1
            clear hh
            simp only [filled, upd, Have, is, any, row, pick, Act.put, List.setIfInBounds_toArray, List.set_cons_zero, List.set_cons_succ, Nat.reduceAdd, Nat.reduceEqDiff, reduceIte] at hK ⊢
            simp only [e1] at hK ⊢
            go_simp
            exact hK _ _ (Below.refl _ _) rfl
          · intro t wq hbq hh K hK
            have e2 := hh.1
            simp only [pick] at e2
            replace e2 : t 2 = (.bool true) := e2
            clear hh
            simp only [filled, upd, Have, is, any, row, pick, Act.put, List.setIfInBounds_toArray, List.set_cons_zero, List.set_cons_succ, Nat.reduceAdd, Nat.reduceEqDiff, reduceIte] at hK ⊢
            simp only [e2] at hK ⊢
            go_simp
            exact hK _ _ (Below.refl _ _) rfl
          · intro t wq hbq hh K hK
            have e3 := hh.1
            simp only [pick] at e3
            replace e3 : t 3 = (.bool true) := e3
            clear hh
            simp only [filled, upd, Have, is, any, row, pick, Act.put, List.setIfInBounds_toArray, List.set_cons_zero, List.set_cons_succ, Nat.reduceAdd, Nat.reduceEqDiff, reduceIte] at hK ⊢
            simp only [e3] at hK ⊢
            go_simp
            exact hK _ _ (Below.refl _ _) rfl
          · intro t wq hbq hh K hK
            have e3 := hh.1
            simp only [pick] at e3
            replace e3 : t 3 = (.bool true) := e3
            have e4 := hh.2.1
            simp only [pick] at e4
            replace e4 : t 4 = (undef) := e4
            clear hh
            simp only [filled, upd, Have, is, any, row, pick, Act.put, List.setIfInBounds_toArray, List.set_cons_zero, List.set_cons_succ, Nat.reduceAdd, Nat.reduceEqDiff, reduceIte] at hK ⊢
            simp only [e3, e4] at hK ⊢
            go_simp
            exact hK _ _ (Below.refl _ _) rfl
          · intro t wq hbq hh K hK
            have e3 := hh.1
            simp only [pick] at e3
            replace e3 : t 3 = (.bool true) := e3
            have e5 := hh.2.1
            simp only [pick] at e5
            replace e5 : t 5 = (undef) := e5
            clear hh
            simp only [filled, upd, Have, is, any, row, pick, Act.put, List.setIfInBounds_toArray, List.set_cons_zero, List.set_cons_succ, Nat.reduceAdd, Nat.reduceEqDiff, reduceIte] at hK ⊢
            simp only [e3, e5] at hK ⊢
            go_simp
            exact hK _ _ (Below.refl _ _) rfl
          · intro t wq hbq hh K hK
            have e3 := hh.1
            simp only [pick] at e3
            replace e3 : t 3 = (.bool true) := e3
            have e6 := hh.2.1
            simp only [pick] at e6
            replace e6 : t 6 = (undef) := e6
            clear hh
            simp only [filled, upd, Have, is, any, row, pick, Act.put, List.setIfInBounds_toArray, List.set_cons_zero, List.set_cons_succ, Nat.reduceAdd, Nat.reduceEqDiff, reduceIte] at hK ⊢
            simp only [e3, e6] at hK ⊢
            go_simp
            exact hK _ _ (Below.refl _ _) rfl
          · intro t wq hbq hh K hK
            have e7 := hh.1
            simp only [pick] at e7
            replace e7 : t 7 = (.bool true) := e7
            clear hh
            simp only [filled, upd, Have, is, any, row, pick, Act.put, List.setIfInBounds_toArray, List.set_cons_zero, List.set_cons_succ, Nat.reduceAdd, Nat.reduceEqDiff, reduceIte] at hK ⊢
            simp only [e7] at hK ⊢
            go_simp
            exact hK _ _ (Below.refl _ _) rfl
          · intro t wq hbq hh K hK
            have e8 := hh.1
            simp only [pick] at e8
            replace e8 : t 8 = (.bool true) := e8
            clear hh
            simp only [filled, upd, Have, is, any, row, pick, Act.put, List.setIfInBounds_toArray, List.set_cons_zero, List.set_cons_succ, Nat.reduceAdd, Nat.reduceEqDiff, reduceIte] at hK ⊢
            simp only [e8] at hK ⊢
            go_simp
            exact hK _ _ (Below.refl _ _) rfl
          · intro t wq hbq hh K hK
            have e8 := hh.1
            simp only [pick] at e8
            replace e8 : t 8 = (.bool true) := e8
            have e9 := hh.2.1
            simp only [pick] at e9
            replace e9 : t 9 = (undef) := e9
            clear hh
            simp only [filled, upd, Have, is, any, row, pick, Act.put, List.setIfInBounds_toArray, List.set_cons_zero, List.set_cons_succ, Nat.reduceAdd, Nat.reduceEqDiff, reduceIte] at hK ⊢
            simp only [e8, e9] at hK ⊢
            go_simp
            exact hK _ _ (Below.refl _ _) rfl
          · intro t wq hbq hh K hK
            have e8 := hh.1
            simp only [pick] at e8
            replace e8 : t 8 = (.bool true) := e8
            clear hh
            simp only [filled, upd, Have, is, any, row, pick, Act.put, List.setIfInBounds_toArray, List.set_cons_zero, List.set_cons_succ, Nat.reduceAdd, Nat.reduceEqDiff, reduceIte] at hK ⊢
            simp only [e8] at hK ⊢
            go_simp
            exact hK _ _ (Below.refl _ _) rfl
          · intro t wq hbq hh K hK
            have e8 := hh.1
            simp only [pick] at e8
            replace e8 : t 8 = (.bool true) := e8
            have e11 := hh.2.1
            simp only [pick] at e11
            replace e11 : t 11 = (undef) := e11
            clear hh
            simp only [filled, upd, Have, is, any, row, pick, Act.put, List.setIfInBounds_toArray, List.set_cons_zero, List.set_cons_succ, Nat.reduceAdd, Nat.reduceEqDiff, reduceIte] at hK ⊢
            simp only [e8, e11] at hK ⊢
            go_simp
            exact hK _ _ (Below.refl _ _) rfl
          · intro t wq hbq hh K hK
            have e8 := hh.1
            simp only [pick] at e8
            replace e8 : t 8 = (.bool true) := e8
            have e10 := hh.2.1
            simp only [pick] at e10
            replace e10 : t 10 = (undef) := e10
            have e12 := hh.2.2.1
            simp only [pick] at e12
            replace e12 : t 12 = (undef) := e12
            clear hh
            simp only [filled, upd, Have, is, any, row, pick, Act.put, List.setIfInBounds_toArray, List.set_cons_zero, List.set_cons_succ, Nat.reduceAdd, Nat.reduceEqDiff, reduceIte] at hK ⊢
            simp only [e8, e10, e12] at hK ⊢
            go_simp
            exact hK _ _ (Below.refl _ _) rfl
          · intro t wq hbq hh K hK
            have e8 := hh.1
            simp only [pick] at e8
            replace e8 : t 8 = (.bool true) := e8
            clear hh
            simp only [filled, upd, Have, is, any, row, pick, Act.put, List.setIfInBounds_toArray, List.set_cons_zero, List.set_cons_succ, Nat.reduceAdd, Nat.reduceEqDiff, reduceIte] at hK ⊢
            simp only [e8] at hK ⊢
            go_simp
            exact hK _ _ (Below.refl _ _) rfl
          · intro t wq hbq hh K hK
            have e8 := hh.1
            simp only [pick] at e8
            replace e8 : t 8 = (.bool true) := e8
            have e13 := hh.2.1
            simp only [pick] at e13
            replace e13 : t 13 = (undef) := e13
            have e14 := hh.2.2.1
            simp only [pick] at e14
            replace e14 : t 14 = (undef) := e14
            clear hh
            simp only [filled, upd, Have, is, any, row, pick, Act.put, List.setIfInBounds_toArray, List.set_cons_zero, List.set_cons_succ, Nat.reduceAdd, Nat.reduceEqDiff, reduceIte] at hK ⊢
            simp only [e8, e13, e14] at hK ⊢
            go_simp
            exact hK _ _ (Below.refl _ _) rfl
          · intro t wq hbq hh K hK
            have e8 := hh.1
            simp only [pick] at e8
            replace e8 : t 8 = (.bool true) := e8
            have e15 := hh.2.1
            simp only [pick] at e15
            replace e15 : t 15 = (undef) := e15
            clear hh
            simp only [filled, upd, Have, is, any, row, pick, Act.put, List.setIfInBounds_toArray, List.set_cons_zero, List.set_cons_succ, Nat.reduceAdd, Nat.reduceEqDiff, reduceIte] at hK ⊢
            simp only [e8, e15] at hK ⊢
            go_simp
            exact hK _ _ (Below.refl _ _) rfl
          · intro t wq hbq hh K hK
            have e16 := hh.1
            simp only [pick] at e16
            replace e16 : t 16 = (.bool true) := e16
            clear hh
            simp only [filled, upd, Have, is, any, row, pick, Act.put, List.setIfInBounds_toArray, List.set_cons_zero, List.set_cons_succ, Nat.reduceAdd, Nat.reduceEqDiff, reduceIte] at hK ⊢
            simp only [e16] at hK ⊢
            go_simp
            exact hK _ _ (Below.refl _ _) rfl
        · intro t wq hbq hh
          have f17 := have_get hh 17 (by decide)
          simp only [pick] at f17
          replace f17 : t 17 = (.bool true) := f17
          clear hh
          simp only [filled, upd, Have, is, any, row, pick, Act.put, List.setIfInBounds_toArray, List.set_cons_zero, List.set_cons_succ, Nat.reduceAdd, Nat.reduceEqDiff, reduceIte]
          simp only [f17]
          have hbf := HB6.out.trans (hbq.mono HB6.out.size)
          go_wp2
          go_ret
          exact ⟨rfl, hbf⟩
      | true =>
        cases R2 with
        | false =>
          clear hvv hvv2
          refine wp_region_rel (by kernel_rfl) [is ((.agg #[.string T, .string S, .slice A n cap])), is (.bool true), is (.bool false), is (.bool false), is ((.agg #[.string T2, .string S2, .slice A2 n2 cap2])), is (.bool false), is (.bool true), is (.bool true), is (.bool true), is (undef), is (undef), is (undef), is (undef), is (undef), is (undef), is (undef), is (.bool true), is (.bool true)] [[], [0], [1], [2], [3], [3, 4], [3, 5], [3, 6], [7], [8], [8, 9], [8], [8, 11], [8, 10, 12], [8], [8, 13, 14], [8, 15], [16]] (by kernel_rfl) ?_ ?_
          · refine ⟨?_, ?_, ?_, ?_, ?_, ?_, ?_, ?_, ?_, ?_, ?_, ?_, ?_, ?_, ?_, ?_, ?_, ?_, trivial⟩
            · intro t wq hbq hh K hK
              clear hh
              simp only [filled, upd, Have, is, any, row, pick, Act.put, List.setIfInBounds_toArray, List.set_cons_zero, List.set_cons_succ, Nat.reduceAdd, Nat.reduceEqDiff, reduceIte] at hK ⊢
              obtain ⟨c0, c1, c2⟩ := (HX_6.out.below hbq).facts
              go_simp
              exact hK _ _ (Below.refl _ _) rfl
            · intro t wq hbq hh K hK
              have e0 := hh.1
              simp only [pick] at e0
              replace e0 : t 0 = ((.agg #[.string T, .string S, .slice A n cap])) := e0
              clear hh
              simp only [filled, upd, Have, is, any, row, pick, Act.put, List.setIfInBounds_toArray, List.set_cons_zero, List.set_cons_succ, Nat.reduceAdd, Nat.reduceEqDiff, reduceIte] at hK ⊢
              simp only [e0] at hK ⊢
              go_simp
              refine (HRA.out _ (HTA_6.out.below hbq)).mono ?_
              rintro e w9 ⟨rfl, hb9⟩
              exact hK _ _ hb9 rfl
            · intro t wq hbq hh K hK
              have e1 := hh.1
              simp only [pick] at e1
              replace e1 : t 1 = (.bool true) := e1
              clear hh
              simp only [filled, upd, Have, is, any, row, pick, Act.put, List.setIfInBounds_toArray, List.set_cons_zero, List.set_cons_succ, Nat.reduceAdd, Nat.reduceEqDiff, reduceIte] at hK ⊢
              simp only [e1] at hK ⊢
              go_simp
              exact hK _ _ (Below.refl _ _) rfl
            · intro t wq hbq hh K hK
              have e2 := hh.1
              simp only [pick] at e2
              replace e2 : t 2 = (.bool false) := e2
              clear hh
              simp only [filled, upd, Have, is, any, row, pick, Act.put, List.setIfInBounds_toArray, List.set_cons_zero, List.set_cons_succ, Nat.reduceAdd, Nat.reduceEqDiff, reduceIte] at hK ⊢
              simp only [e2] at hK ⊢
              go_simp
              exact hK _ _ (Below.refl _ _) rfl
            · intro t wq hbq hh K hK
              have e3 := hh.1
              simp only [pick] at e3
              replace e3 : t 3 = (.bool false) := e3
              clear hh
              simp only [filled, upd, Have, is, any, row, pick, Act.put, List.setIfInBounds_toArray, List.set_cons_zero, List.set_cons_succ, Nat.reduceAdd, Nat.reduceEqDiff, reduceIte] at hK ⊢
              simp only [e3] at hK ⊢
              obtain ⟨c0, c1, c2⟩ := (HY_6.out.below hbq).facts
              go_simp
              exact hK _ _ (Below.refl _ _) rfl
            · intro t wq hbq hh K hK
              have e3 := hh.1
              simp only [pick] at e3
              replace e3 : t 3 = (.bool false) := e3
              have e4 := hh.2.1
              simp only [pick] at e4
              replace e4 : t 4 = ((.agg #[.string T2, .string S2, .slice A2 n2 cap2])) := e4
              clear hh
              simp only [filled, upd, Have, is, any, row, pick, Act.put, List.setIfInBounds_toArray, List.set_cons_zero, List.set_cons_succ, Nat.reduceAdd, Nat.reduceEqDiff, reduceIte] at hK ⊢
              simp only [e3, e4] at hK ⊢
              go_simp
              refine (HRB.out _ (HTB_6.out.below hbq)).mono ?_
              rintro e w9 ⟨rfl, hb9⟩
              exact hK _ _ hb9 rfl
            · intro t wq hbq hh K hK
              have e3 := hh.1
              simp only [pick] at e3
              replace e3 : t 3 = (.bool false) := e3
              have e5 := hh.2.1
              simp only [pick] at e5
              replace e5 : t 5 = (.bool false) := e5
              clear hh
              simp only [filled, upd, Have, is, any, row, pick, Act.put, List.setIfInBounds_toArray, List.set_cons_zero, List.set_cons_succ, Nat.reduceAdd, Nat.reduceEqDiff, reduceIte] at hK ⊢
              simp only [e3, e5] at hK ⊢
              go_simp
              exact hK _ _ (Below.refl _ _) rfl
            · intro t wq hbq hh K hK
              have e3 := hh.1
              simp only [pick] at e3
              replace e3 : t 3 = (.bool false) := e3
              have e6 := hh.2.1
              simp only [pick] at e6
              replace e6 : t 6 = (.bool true) := e6
              clear hh
              simp only [filled, upd, Have, is, any, row, pick, Act.put, List.setIfInBounds_toArray, List.set_cons_zero, List.set_cons_succ, Nat.reduceAdd, Nat.reduceEqDiff, reduceIte] at hK ⊢
              simp only [e3, e6] at hK ⊢
              go_simp
              exact hK _ _ (Below.refl _ _) rfl
            · intro t wq hbq hh K hK
              have e7 := hh.1
              simp only [pick] at e7
              replace e7 : t 7 = (.bool true) := e7
              clear hh
              simp only [filled, upd, Have, is, any, row, pick, Act.put, List.setIfInBounds_toArray, List.set_cons_zero, List.set_cons_succ, Nat.reduceAdd, Nat.reduceEqDiff, reduceIte] at hK ⊢
              simp only [e7] at hK ⊢
              go_simp
              exact hK _ _ (Below.refl _ _) rfl
            · intro t wq hbq hh K hK
              have e8 := hh.1
              simp only [pick] at e8
              replace e8 : t 8 = (.bool true) := e8
              clear hh
              simp only [filled, upd, Have, is, any, row, pick, Act.put, List.setIfInBounds_toArray, List.set_cons_zero, List.set_cons_succ, Nat.reduceAdd, Nat.reduceEqDiff, reduceIte] at hK ⊢
              simp only [e8] at hK ⊢
              go_simp
              exact hK _ _ (Below.refl _ _) rfl
            · intro t wq hbq hh K hK
              have e8 := hh.1
              simp only [pick] at e8
              replace e8 : t 8 = (.bool true) := e8
              have e9 := hh.2.1
              simp only [pick] at e9
              replace e9 : t 9 = (undef) := e9
              clear hh
              simp only [filled, upd, Have, is, any, row, pick, Act.put, List.setIfInBounds_toArray, List.set_cons_zero, List.set_cons_succ, Nat.reduceAdd, Nat.reduceEqDiff, reduceIte] at hK ⊢
              simp only [e8, e9] at hK ⊢
              go_simp
              exact hK _ _ (Below.refl _ _) rfl
            · intro t wq hbq hh K hK
              have e8 := hh.1
              simp only [pick] at e8
              replace e8 : t 8 = (.bool true) := e8
              clear hh
              simp only [filled, upd, Have, is, any, row, pick, Act.put, List.setIfInBounds_toArray, List.set_cons_zero, List.set_cons_succ, Nat.reduceAdd, Nat.reduceEqDiff, reduceIte] at hK ⊢
              simp only [e8] at hK ⊢
              go_simp
              exact hK _ _ (Below.refl _ _) rfl
            · intro t wq hbq hh K hK
              have e8 := hh.1
              simp only [pick] at e8
              replace e8 : t 8 = (.bool true) := e8
              have e11 := hh.2.1
              simp only [pick] at e11
              replace e11 : t 11 = (undef) := e11
              clear hh
              simp only [filled, upd, Have, is, any, row, pick, Act.put, List.setIfInBounds_toArray, List.set_cons_zero, List.set_cons_succ, Nat.reduceAdd, Nat.reduceEqDiff, reduceIte] at hK ⊢
              simp only [e8, e11] at hK ⊢
              go_simp
              exact hK _ _ (Below.refl _ _) rfl
            · intro t wq hbq hh K hK
              have e8 := hh.1
              simp only [pick] at e8
              replace e8 : t 8 = (.bool true) := e8
              have e10 := hh.2.1
              simp only [pick] at e10
              replace e10 : t 10 = (undef) := e10
              have e12 := hh.2.2.1
              simp only [pick] at e12
              replace e12 : t 12 = (undef) := e12
              clear hh
              simp only [filled, upd, Have, is, any, row, pick, Act.put, List.setIfInBounds_toArray, List.set_cons_zero, List.set_cons_succ, Nat.reduceAdd, Nat.reduceEqDiff, reduceIte] at hK ⊢
              simp only [e8, e10, e12] at hK ⊢
              go_simp
              exact hK _ _ (Below.refl _ _) rfl
            · intro t wq hbq hh K hK
              have e8 := hh.1
              simp only [pick] at e8
              replace e8 : t 8 = (.bool true) := e8
              clear hh
              simp only [filled, upd, Have, is, any, row, pick, Act.put, List.setIfInBounds_toArray, List.set_cons_zero, List.set_cons_succ, Nat.reduceAdd, Nat.reduceEqDiff, reduceIte] at hK ⊢
              simp only [e8] at hK ⊢
              go_simp
              exact hK _ _ (Below.refl _ _) rfl
            · intro t wq hbq hh K hK
              have e8 := hh.1
              simp only [pick] at e8
              replace e8 : t 8 = (.bool true) := e8
              have e13 := hh.2.1
              simp only [pick] at e13
              replace e13 : t 13 = (undef) := e13
              have e14 := hh.2.2.1
              simp only [pick] at e14
              replace e14 : t 14 = (undef) := e14
              clear hh
              simp only [filled, upd, Have, is, any, row, pick, Act.put, List.setIfInBounds_toArray, List.set_cons_zero, List.set_cons_succ, Nat.reduceAdd, Nat.reduceEqDiff, reduceIte] at hK ⊢
              simp only [e8, e13, e14] at hK ⊢
              go_simp
              exact hK _ _ (Below.refl _ _) rfl
            · intro t wq hbq hh K hK
              have e8 := hh.1
              simp only [pick] at e8
              replace e8 : t 8 = (.bool true) := e8
              have e15 := hh.2.1
              simp only [pick] at e15
              replace e15 : t 15 = (undef) := e15
              clear hh
              simp only [filled, upd, Have, is, any, row, pick, Act.put, List.setIfInBounds_toArray, List.set_cons_zero, List.set_cons_succ, Nat.reduceAdd, Nat.reduceEqDiff, reduceIte] at hK ⊢
              simp only [e8, e15] at hK ⊢
              go_simp
              exact hK _ _ (Below.refl _ _) rfl
            · intro t wq hbq hh K hK
              have e16 := hh.1
              simp only [pick] at e16
              replace e16 : t 16 = (.bool true) := e16
              clear hh
              simp only [filled, upd, Have, is, any, row, pick, Act.put, List.setIfInBounds_toArray, List.set_cons_zero, List.set_cons_succ, Nat.reduceAdd, Nat.reduceEqDiff, reduceIte] at hK ⊢
              simp only [e16] at hK ⊢
              go_simp
              exact hK _ _ (Below.refl _ _) rfl
          · intro t wq hbq hh
            have f17 := have_get hh 17 (by decide)
            simp only [pick] at f17
            replace f17 : t 17 = (.bool true) := f17
            clear hh
            simp only [filled, upd, Have, is, any, row, pick, Act.put, List.setIfInBounds_toArray, List.set_cons_zero, List.set_cons_succ, Nat.reduceAdd, Nat.reduceEqDiff, reduceIte]
            simp only [f17]
            have hbf := HB6.out.trans (hbq.mono HB6.out.size)
            go_wp2
            go_ret
            exact ⟨rfl, hbf⟩
        | true =>
          have hqq := HQ.out (by first | trivial | rfl) (by first | trivial | rfl)
          refine wp_region_rel (by kernel_rfl) [is ((.agg #[.string T, .string S, .slice A n cap])), is (.bool true), is (.bool false), is (.bool false), is ((.agg #[.string T2, .string S2, .slice A2 n2 cap2])), is (.bool true), is (.bool false), is (.bool false), is (.bool false), is ((.agg #[.string T, .string S, .slice A n cap])), is (.string X1), is ((.agg #[.string T2, .string S2, .slice A2 n2 cap2])), is (.string X2), is (.bool V), is (.bool V), is (.bool true), is (.bool true), is (.bool true)] [[], [0], [1], [2], [3], [3, 4], [3, 5], [3, 6], [7], [8], [8, 9], [8], [8, 11], [8, 10, 12], [8], [8, 13, 14], [8, 15], [16]] (by kernel_rfl) ?_ ?_
          · refine ⟨?_, ?_, ?_, ?_, ?_, ?_, ?_, ?_, ?_, ?_, ?_, ?_, ?_, ?_, ?_, ?_, ?_, ?_, trivial⟩
            · intro t wq hbq hh K hK
              clear hh
              simp only [filled, upd, Have, is, any, row, pick, Act.put, List.setIfInBounds_toArray, List.set_cons_zero, List.set_cons_succ, Nat.reduceAdd, Nat.reduceEqDiff, reduceIte] at hK ⊢
              obtain ⟨c0, c1, c2⟩ := (HX_6.out.below hbq).facts
              go_simp
              exact hK _ _ (Below.refl _ _) rfl
            · intro t wq hbq hh K hK
              have e0 := hh.1
              simp only [pick] at e0
              replace e0 : t 0 = ((.agg #[.string T, .string S, .slice A n cap])) := e0
              clear hh
              simp only [filled, upd, Have, is, any, row, pick, Act.put, List.setIfInBounds_toArray, List.set_cons_zero, List.set_cons_succ, Nat.reduceAdd, Nat.reduceEqDiff, reduceIte] at hK ⊢
              simp only [e0] at hK ⊢
              go_simp
              refine (HRA.out _ (HTA_6.out.below hbq)).mono ?_
              rintro e w9 ⟨rfl, hb9⟩
              exact hK _ _ hb9 rfl
            · intro t wq hbq hh K hK
              have e1 := hh.1
              simp only [pick] at e1
              replace e1 : t 1 = (.bool true) := e1
              clear hh
              simp only [filled, upd, Have, is, any, row, pick, Act.put, List.setIfInBounds_toArray, List.set_cons_zero, List.set_cons_succ, Nat.reduceAdd, Nat.reduceEqDiff, reduceIte] at hK ⊢
              simp only [e1] at hK ⊢
              go_simp
              exact hK _ _ (Below.refl _ _) rfl
            · intro t wq hbq hh K hK
              have e2 := hh.1
              simp only [pick] at e2
              replace e2 : t 2 = (.bool false) := e2
              clear hh
              simp only [filled, upd, Have, is, any, row, pick, Act.put, List.setIfInBounds_toArray, List.set_cons_zero, List.set_cons_succ, Nat.reduceAdd, Nat.reduceEqDiff, reduceIte] at hK ⊢
              simp only [e2] at hK ⊢
              go_simp
              exact hK _ _ (Below.refl _ _) rfl
            · intro t wq hbq hh K hK
              have e3 := hh.1
              simp only [pick] at e3
              replace e3 : t 3 = (.bool false) := e3
              clear hh
              simp only [filled, upd, Have, is, any, row, pick, Act.put, List.setIfInBounds_toArray, List.set_cons_zero, List.set_cons_succ, Nat.reduceAdd, Nat.reduceEqDiff, reduceIte] at hK ⊢
              simp only [e3] at hK ⊢
              obtain ⟨c0, c1, c2⟩ := (HY_6.out.below hbq).facts
              go_simp
              exact hK _ _ (Below.refl _ _) rfl
            · intro t wq hbq hh K hK
              have e3 := hh.1
              simp only [pick] at e3
              replace e3 : t 3 = (.bool false) := e3
              have e4 := hh.2.1
              simp only [pick] at e4
              replace e4 : t 4 = ((.agg #[.string T2, .string S2, .slice A2 n2 cap2])) := e4
              clear hh
              simp only [filled, upd, Have, is, any, row, pick, Act.put, List.setIfInBounds_toArray, List.set_cons_zero, List.set_cons_succ, Nat.reduceAdd, Nat.reduceEqDiff, reduceIte] at hK ⊢
              simp only [e3, e4] at hK ⊢
              go_simp
              refine (HRB.out _ (HTB_6.out.below hbq)).mono ?_
              rintro e w9 ⟨rfl, hb9⟩
              exact hK _ _ hb9 rfl
            · intro t wq hbq hh K hK
              have e3 := hh.1
              simp only [pick] at e3
              replace e3 : t 3 = (.bool false) := e3
              have e5 := hh.2.1
              simp only [pick] at e5
              replace e5 : t 5 = (.bool true) := e5
              clear hh
              simp only [filled, upd, Have, is, any, row, pick, Act.put, List.setIfInBounds_toArray, List.set_cons_zero, List.set_cons_succ, Nat.reduceAdd, Nat.reduceEqDiff, reduceIte] at hK ⊢
              simp only [e3, e5] at hK ⊢
              go_simp
              exact hK _ _ (Below.refl _ _) rfl
            · intro t wq hbq hh K hK
              have e3 := hh.1
              simp only [pick] at e3
              replace e3 : t 3 = (.bool false) := e3
              have e6 := hh.2.1
              simp only [pick] at e6
              replace e6 : t 6 = (.bool false) := e6
              clear hh
              simp only [filled, upd, Have, is, any, row, pick, Act.put, List.setIfInBounds_toArray, List.set_cons_zero, List.set_cons_succ, Nat.reduceAdd, Nat.reduceEqDiff, reduceIte] at hK ⊢
              simp only [e3, e6] at hK ⊢
              go_simp
              exact hK _ _ (Below.refl _ _) rfl
            · intro t wq hbq hh K hK
              have e7 := hh.1
              simp only [pick] at e7
              replace e7 : t 7 = (.bool false) := e7
              clear hh
              simp only [filled, upd, Have, is, any, row, pick, Act.put, List.setIfInBounds_toArray, List.set_cons_zero, List.set_cons_succ, Nat.reduceAdd, Nat.reduceEqDiff, reduceIte] at hK ⊢
              simp only [e7] at hK ⊢
              go_simp
              exact hK _ _ (Below.refl _ _) rfl
            · intro t wq hbq hh K hK
              have e8 := hh.1
              simp only [pick] at e8
              replace e8 : t 8 = (.bool false) := e8
              clear hh
              simp only [filled, upd, Have, is, any, row, pick, Act.put, List.setIfInBounds_toArray, List.set_cons_zero, List.set_cons_succ, Nat.reduceAdd, Nat.reduceEqDiff, reduceIte] at hK ⊢
              simp only [e8] at hK ⊢
              obtain ⟨c0, c1, c2⟩ := (HX_6.out.below hbq).facts
              go_simp
              exact hK _ _ (Below.refl _ _) rfl
            · intro t wq hbq hh K hK
              have e8 := hh.1
              simp only [pick] at e8
              replace e8 : t 8 = (.bool false) := e8
              have e9 := hh.2.1
              simp only [pick] at e9
              replace e9 : t 9 = ((.agg #[.string T, .string S, .slice A n cap])) := e9
              clear hh
              simp only [filled, upd, Have, is, any, row, pick, Act.put, List.setIfInBounds_toArray, List.set_cons_zero, List.set_cons_succ, Nat.reduceAdd, Nat.reduceEqDiff, reduceIte] at hK ⊢
              simp only [e8, e9] at hK ⊢
              go_simp
              refine (HPA.out _ (HTA_6.out.below hbq)).mono ?_
              rintro e w9 ⟨rfl, hb9⟩
              exact hK _ _ hb9 rfl
            · intro t wq hbq hh K hK
              have e8 := hh.1
              simp only [pick] at e8
              replace e8 : t 8 = (.bool false) := e8
              clear hh
              simp only [filled, upd, Have, is, any, row, pick, Act.put, List.setIfInBounds_toArray, List.set_cons_zero, List.set_cons_succ, Nat.reduceAdd, Nat.reduceEqDiff, reduceIte] at hK ⊢
              simp only [e8] at hK ⊢
              obtain ⟨c0, c1, c2⟩ := (HY_6.out.below hbq).facts
              go_simp
              exact hK _ _ (Below.refl _ _) rfl
            · intro t wq hbq hh K hK
              have e8 := hh.1
              simp only [pick] at e8
              replace e8 : t 8 = (.bool false) := e8
              have e11 := hh.2.1
              simp only [pick] at e11
              replace e11 : t 11 = ((.agg #[.string T2, .string S2, .slice A2 n2 cap2])) := e11
              clear hh
              simp only [filled, upd, Have, is, any, row, pick, Act.put, List.setIfInBounds_toArray, List.set_cons_zero, List.set_cons_succ, Nat.reduceAdd, Nat.reduceEqDiff, reduceIte] at hK ⊢
              simp only [e8, e11] at hK ⊢
              go_simp
              refine (HPB.out _ (HTB_6.out.below hbq)).mono ?_
              rintro e w9 ⟨rfl, hb9⟩
              exact hK _ _ hb9 rfl
            · intro t wq hbq hh K hK
              have e8 := hh.1
              simp only [pick] at e8
              replace e8 : t 8 = (.bool false) := e8
              have e10 := hh.2.1
              simp only [pick] at e10
              replace e10 : t 10 = (.string X1) := e10
              have e12 := hh.2.2.1
              simp only [pick] at e12
              replace e12 : t 12 = (.string X2) := e12
              clear hh
              simp only [filled, upd, Have, is, any, row, pick, Act.put, List.setIfInBounds_toArray, List.set_cons_zero, List.set_cons_succ, Nat.reduceAdd, Nat.reduceEqDiff, reduceIte] at hK ⊢
              simp only [e8, e10, e12] at hK ⊢
              go_simp
              first | exact hK _ _ (Below.refl _ _) rfl | exact hK _ _ (Below.refl _ _) (int_wrap (by omega) (by omega))
            · intro t wq hbq hh K hK
              have e8 := hh.1
              simp only [pick] at e8
              replace e8 : t 8 = (.bool false) := e8
              clear hh
              simp only [filled, upd, Have, is, any, row, pick, Act.put, List.setIfInBounds_toArray, List.set_cons_zero, List.set_cons_succ, Nat.reduceAdd, Nat.reduceEqDiff, reduceIte] at hK ⊢
              simp only [e8] at hK ⊢
              go_simp
              exact hK _ _ (Below.refl _ _) rfl
            · intro t wq hbq hh K hK
              have e8 := hh.1
              simp only [pick] at e8
              replace e8 : t 8 = (.bool false) := e8
              have e13 := hh.2.1
              simp only [pick] at e13
              replace e13 : t 13 = (.bool V) := e13
              have e14 := hh.2.2.1
              simp only [pick] at e14
              replace e14 : t 14 = (.bool V) := e14
              clear hh
              simp only [filled, upd, Have, is, any, row, pick, Act.put, List.setIfInBounds_toArray, List.set_cons_zero, List.set_cons_succ, Nat.reduceAdd, Nat.reduceEqDiff, reduceIte] at hK ⊢
              simp only [e8, e13, e14] at hK ⊢
              go_simp
              first | exact hK _ _ (Below.refl _ _) rfl | exact hK _ _ (Below.refl _ _) (int_wrap (by omega) (by omega))
            · intro t wq hbq hh K hK
              have e8 := hh.1
              simp only [pick] at e8
              replace e8 : t 8 = (.bool false) := e8
              have e15 := hh.2.1
              simp only [pick] at e15
              replace e15 : t 15 = (.bool true) := e15
              clear hh
              simp only [filled, upd, Have, is, any, row, pick, Act.put, List.setIfInBounds_toArray, List.set_cons_zero, List.set_cons_succ, Nat.reduceAdd, Nat.reduceEqDiff, reduceIte] at hK ⊢
              simp only [e8, e15] at hK ⊢
              go_simp
              exact hK _ _ (Below.refl _ _) rfl
            · intro t wq hbq hh K hK
              have e16 := hh.1
              simp only [pick] at e16
              replace e16 : t 16 = (.bool true) := e16
              clear hh
              simp only [filled, upd, Have, is, any, row, pick, Act.put, List.setIfInBounds_toArray, List.set_cons_zero, List.set_cons_succ, Nat.reduceAdd, Nat.reduceEqDiff, reduceIte] at hK ⊢
              simp only [e16] at hK ⊢
              go_simp
              exact hK _ _ (Below.refl _ _) rfl
          · intro t wq hbq hh
            have f17 := have_get hh 17 (by decide)
            simp only [pick] at f17
            replace f17 : t 17 = (.bool true) := f17
            clear hh
            simp only [filled, upd, Have, is, any, row, pick, Act.put, List.setIfInBounds_toArray, List.set_cons_zero, List.set_cons_succ, Nat.reduceAdd, Nat.reduceEqDiff, reduceIte]
            simp only [f17]
            have hbf := HB6.out.trans (hbq.mono HB6.out.size)
            go_wp2
            go_ret
            exact ⟨rfl, hbf⟩
end Go.Proofs.YtlbgcibdpeaomaaDoor.Laws
