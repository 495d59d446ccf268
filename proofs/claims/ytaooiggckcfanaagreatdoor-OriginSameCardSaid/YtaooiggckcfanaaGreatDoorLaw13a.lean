/- The law OriginSame, walked. -/
import Derived.Test.YtaooiggckcfanaaGreatDoorOrgW
namespace Go.Proofs.YtaooiggckcfanaaGreatDoor.Laws
open Go.RowKit Go.Proofs.YtaooiggckcfanaaGreatDoor.Base Go.Proofs.YtaooiggckcfanaaGreatDoor.Base2 Go.Proofs.YtaooiggckcfanaaGreatDoor.UtfL Go.Proofs.YtaooiggckcfanaaGreatDoor.UrlA Go.Proofs.YtaooiggckcfanaaGreatDoor.UrlC Go.Proofs.YtaooiggckcfanaaGreatDoor.UrlF Go.Proofs.YtaooiggckcfanaaGreatDoor.HstC Go.Proofs.YtaooiggckcfanaaGreatDoor.PrsP Go.Proofs.YtaooiggckcfanaaGreatDoor.Ubx Go.Proofs.YtaooiggckcfanaaGreatDoor.PrsC Go.Proofs.YtaooiggckcfanaaGreatDoor.PrsD Go.Proofs.YtaooiggckcfanaaGreatDoor.SixG Go.Proofs.YtaooiggckcfanaaGreatDoor.Spl Go.Proofs.YtaooiggckcfanaaGreatDoor.PrsG Go.Proofs.YtaooiggckcfanaaGreatDoor.PrsR Go.Proofs.YtaooiggckcfanaaGreatDoor.PrsS Go.Proofs.YtaooiggckcfanaaGreatDoor.PrsV Go.Proofs.YtaooiggckcfanaaGreatDoor.PrsY Go.Proofs.YtaooiggckcfanaaGreatDoor.Ulw Go.Proofs.YtaooiggckcfanaaGreatDoor.OrgA Go.Proofs.YtaooiggckcfanaaGreatDoor.OrgW Go.Proofs.YtaooiggckcfanaaGreatDoor.Regs

set_option linter.unusedSimpArgs false in
set_option maxRecDepth 100000 in
set_option maxHeartbeats 8000000 in
theorem OriginSame_any (s1 h1 : ByteArray) (p1 n1 : Int) (s2 h2 : ByteArray) (p2 n2 : Int) (s3 h3 : ByteArray) (p3 n3 : Int) (w : World) (_zs1 : s1.size ≤ 140737488351232) (_zh1 : h1.size ≤ 140737488351232) (_bp1 : -9223372036854775808 ≤ p1 ∧ p1 ≤ 9223372036854775807) (_bn1 : -9223372036854775808 ≤ n1 ∧ n1 ≤ 9223372036854775807) (_zs2 : s2.size ≤ 140737488351232) (_zh2 : h2.size ≤ 140737488351232) (_bp2 : -9223372036854775808 ≤ p2 ∧ p2 ≤ 9223372036854775807) (_bn2 : -9223372036854775808 ≤ n2 ∧ n2 ≤ 9223372036854775807) (_zs3 : s3.size ≤ 140737488351232) (_zh3 : h3.size ≤ 140737488351232) (_bp3 : -9223372036854775808 ≤ p3 ∧ p3 ≤ 9223372036854775807) (_bn3 : -9223372036854775808 ≤ n3 ∧ n3 ≤ 9223372036854775807) (hT : Tab.Pow w) (hL : Lad w) (hM : Max w) (hU : Utab w) : Calls Tryz.prog 11 #[.agg #[.string s1, .string h1, .int .i64 p1, .int .i64 n1], .agg #[.string s2, .string h2, .int .i64 p2, .int .i64 n2], .agg #[.string s3, .string h3, .int .i64 p3, .int .i64 n3]] w fun e w' => e = .returned (.bool true) ∧ Below w.heap.size w w' := by
  have HE := hid (⟨hT, hL, hM, hU⟩ : Env w)
  have HAW : Hid (∀ w : World, Env w → Calls Tryz.prog 26 #[] w fun e w' => e = .returned (.bool true) ∧ Below w.heap.size w w') := fun w E => OrgW.awake_any w E
  obtain ⟨X, hX⟩ : ∃ b, b = sameO s1.data.toList h1.data.toList p1 n1 s2.data.toList h2.data.toList p2 n2 := ⟨_, rfl⟩
  obtain ⟨Y, hY⟩ : ∃ b, b = sameO s2.data.toList h2.data.toList p2 n2 s3.data.toList h3.data.toList p3 n3 := ⟨_, rfl⟩
  obtain ⟨Z, hZ⟩ : ∃ b, b = sameO s1.data.toList h1.data.toList p1 n1 s3.data.toList h3.data.toList p3 n3 := ⟨_, rfl⟩
  have HS12 : Hid (∀ w : World, Calls Tryz.prog 27 #[.agg #[.string s1, .string h1, .int .i64 p1, .int .i64 n1], .agg #[.string s2, .string h2, .int .i64 p2, .int .i64 n2]] w fun e w' => e = .returned (.bool X) ∧ Below w.heap.size w w') := fun w => by rw [hX]; exact OrgA.same_any _ _ _ _ _ _ _ _ w
  have HS23 : Hid (∀ w : World, Calls Tryz.prog 27 #[.agg #[.string s2, .string h2, .int .i64 p2, .int .i64 n2], .agg #[.string s3, .string h3, .int .i64 p3, .int .i64 n3]] w fun e w' => e = .returned (.bool Y) ∧ Below w.heap.size w w') := fun w => by rw [hY]; exact OrgA.same_any _ _ _ _ _ _ _ _ w
  have HS13 : Hid (∀ w : World, Calls Tryz.prog 27 #[.agg #[.string s1, .string h1, .int .i64 p1, .int .i64 n1], .agg #[.string s3, .string h3, .int .i64 p3, .int .i64 n3]] w fun e w' => e = .returned (.bool Z) ∧ Below w.heap.size w w') := fun w => by rw [hZ]; exact OrgA.same_any _ _ _ _ _ _ _ _ w
  have HR12 : Hid (∀ w : World, Calls Tryz.prog 28 #[.agg #[.string s1, .string h1, .int .i64 p1, .int .i64 n1], .agg #[.string s2, .string h2, .int .i64 p2, .int .i64 n2]] w fun e w' => e = .returned (.bool X) ∧ Below w.heap.size w w') := fun w => by rw [hX]; exact OrgA.refSame_any _ _ _ _ _ _ _ _ w
  have HS21 : Hid (∀ w : World, Calls Tryz.prog 27 #[.agg #[.string s2, .string h2, .int .i64 p2, .int .i64 n2], .agg #[.string s1, .string h1, .int .i64 p1, .int .i64 n1]] w fun e w' => e = .returned (.bool X) ∧ Below w.heap.size w w') := fun w => by rw [hX, sameO_symm]; exact OrgA.same_any _ _ _ _ _ _ _ _ w
  have HS11 : Hid (∀ w : World, Calls Tryz.prog 27 #[.agg #[.string s1, .string h1, .int .i64 p1, .int .i64 n1], .agg #[.string s1, .string h1, .int .i64 p1, .int .i64 n1]] w fun e w' => e = .returned (.bool true) ∧ Below w.heap.size w w') := fun w => by
    have h := OrgA.same_any s1 h1 p1 n1 s1 h1 p1 n1 w
    rw [sameO_refl] at h
    exact h
  have HTR : Hid (X = true → Y = true → Z = true) := fun a b => by rw [hX] at a; rw [hY] at b; rw [hZ]; exact sameO_trans _ _ _ _ _ _ _ _ _ _ _ _ a b
  clear hX hY hZ hT hL hM hU _zs1 _zh1 _bp1 _bn1 _zs2 _zh2 _bp2 _bn2 _zs3 _zh3 _bp3 _bn3
  go_enter Tryz.func11, Tryz.ntmps11
  go_upto_region 1 with (fail)
  generalize hwa : World.alloc (World.alloc (World.alloc w _) _) _ = v1
  have h1_ : OB v1 w.heap.size s1 h1 p1 n1 ∧ OB v1 (w.heap.size + 1) s2 h2 p2 n2 ∧ OB v1 (w.heap.size + 1 + 1) s3 h3 p3 n3 ∧ Below w.heap.size w v1 := by
    subst hwa
    exact laid3 w _ _ _ _ _ _
  clear hwa
  have X1 := hid h1_.1
  have X2 := hid h1_.2.1
  have X3 := hid h1_.2.2.1
  have hb := h1_.2.2.2
  clear h1_
  have HB1 := hid hb
  have E_1 := hid (HE.out.below hb)
  clear hb
  go_wp2_with fail
  refine (HAW.out _ E_1.out).mono ?_
  rintro e w2 ⟨rfl, hb⟩
  have HB2 := hid (bel HB1.out hb)
  have E_2 := hid (E_1.out.below hb)
  have X1_2 := hid (X1.out.below hb)
  have X2_2 := hid (X2.out.below hb)
  have X3_2 := hid (X3.out.below hb)
  clear hb
  go_upto_region 3 with (fail)
  refine wp_region_rel (by kernel_rfl) [is (.agg #[.string s1, .string h1, .int .i64 p1, .int .i64 n1]), is (.agg #[.string s2, .string h2, .int .i64 p2, .int .i64 n2]), is (.bool X), is (.agg #[.string s2, .string h2, .int .i64 p2, .int .i64 n2]), is (.agg #[.string s3, .string h3, .int .i64 p3, .int .i64 n3]), is (.bool Y), is (.agg #[.string s1, .string h1, .int .i64 p1, .int .i64 n1]), is (.agg #[.string s3, .string h3, .int .i64 p3, .int .i64 n3]), is (.bool Z), is (.bool X), is (.bool Y), is (.bool Z)] [[], [], [0, 1], [], [], [3, 4], [], [], [6, 7], [2], [5], [8]] (by kernel_rfl) ?_ ?_
  · refine ⟨?_, ?_, ?_, ?_, ?_, ?_, ?_, ?_, ?_, ?_, ?_, ?_, trivial⟩
    · intro t wq hbq hh K hK
      clear hh
      simp only [filled, upd, Have, is, any, row, pick, Act.put, List.setIfInBounds_toArray, List.set_cons_zero, List.set_cons_succ, Nat.reduceAdd, Nat.reduceEqDiff, reduceIte] at hK ⊢
      obtain ⟨o0, o1, o2, o3⟩ := (X1_2.out.below hbq).facts
      go_simp
      exact hK _ _ (Below.refl _ _) rfl
    · intro t wq hbq hh K hK
      clear hh
      simp only [filled, upd, Have, is, any, row, pick, Act.put, List.setIfInBounds_toArray, List.set_cons_zero, List.set_cons_succ, Nat.reduceAdd, Nat.reduceEqDiff, reduceIte] at hK ⊢
      obtain ⟨o0, o1, o2, o3⟩ := (X2_2.out.below hbq).facts
      go_simp
      exact hK _ _ (Below.refl _ _) rfl
    · intro t wq hbq hh K hK
      have e0 := hh.1
      simp only [pick] at e0
      replace e0 : t 0 = (.agg #[.string s1, .string h1, .int .i64 p1, .int .i64 n1]) := e0
      have e1 := hh.2.1
      simp only [pick] at e1
      replace e1 : t 1 = (.agg #[.string s2, .string h2, .int .i64 p2, .int .i64 n2]) := e1
      clear hh
      simp only [filled, upd, Have, is, any, row, pick, Act.put, List.setIfInBounds_toArray, List.set_cons_zero, List.set_cons_succ, Nat.reduceAdd, Nat.reduceEqDiff, reduceIte] at hK ⊢
      simp only [e0, e1] at hK ⊢
      go_simp
      refine (HS12.out _).mono ?_
      rintro e w5 ⟨rfl, hb5⟩
      exact hK _ _ hb5 rfl
    · intro t wq hbq hh K hK
      clear hh
      simp only [filled, upd, Have, is, any, row, pick, Act.put, List.setIfInBounds_toArray, List.set_cons_zero, List.set_cons_succ, Nat.reduceAdd, Nat.reduceEqDiff, reduceIte] at hK ⊢
      obtain ⟨o0, o1, o2, o3⟩ := (X2_2.out.below hbq).facts
      go_simp
      exact hK _ _ (Below.refl _ _) rfl
    · intro t wq hbq hh K hK
      clear hh
      simp only [filled, upd, Have, is, any, row, pick, Act.put, List.setIfInBounds_toArray, List.set_cons_zero, List.set_cons_succ, Nat.reduceAdd, Nat.reduceEqDiff, reduceIte] at hK ⊢
      obtain ⟨o0, o1, o2, o3⟩ := (X3_2.out.below hbq).facts
      go_simp
      exact hK _ _ (Below.refl _ _) rfl
    · intro t wq hbq hh K hK
      have e3 := hh.1
      simp only [pick] at e3
      replace e3 : t 3 = (.agg #[.string s2, .string h2, .int .i64 p2, .int .i64 n2]) := e3
      have e4 := hh.2.1
      simp only [pick] at e4
      replace e4 : t 4 = (.agg #[.string s3, .string h3, .int .i64 p3, .int .i64 n3]) := e4
      clear hh
      simp only [filled, upd, Have, is, any, row, pick, Act.put, List.setIfInBounds_toArray, List.set_cons_zero, List.set_cons_succ, Nat.reduceAdd, Nat.reduceEqDiff, reduceIte] at hK ⊢
      simp only [e3, e4] at hK ⊢
      go_simp
      refine (HS23.out _).mono ?_
      rintro e w5 ⟨rfl, hb5⟩
      exact hK _ _ hb5 rfl
    · intro t wq hbq hh K hK
      clear hh
      simp only [filled, upd, Have, is, any, row, pick, Act.put, List.setIfInBounds_toArray, List.set_cons_zero, List.set_cons_succ, Nat.reduceAdd, Nat.reduceEqDiff, reduceIte] at hK ⊢
      obtain ⟨o0, o1, o2, o3⟩ := (X1_2.out.below hbq).facts
      go_simp
      exact hK _ _ (Below.refl _ _) rfl
    · intro t wq hbq hh K hK
      clear hh
      simp only [filled, upd, Have, is, any, row, pick, Act.put, List.setIfInBounds_toArray, List.set_cons_zero, List.set_cons_succ, Nat.reduceAdd, Nat.reduceEqDiff, reduceIte] at hK ⊢
      obtain ⟨o0, o1, o2, o3⟩ := (X3_2.out.below hbq).facts
      go_simp
      exact hK _ _ (Below.refl _ _) rfl
    · intro t wq hbq hh K hK
      have e6 := hh.1
      simp only [pick] at e6
      replace e6 : t 6 = (.agg #[.string s1, .string h1, .int .i64 p1, .int .i64 n1]) := e6
      have e7 := hh.2.1
      simp only [pick] at e7
      replace e7 : t 7 = (.agg #[.string s3, .string h3, .int .i64 p3, .int .i64 n3]) := e7
      clear hh
      simp only [filled, upd, Have, is, any, row, pick, Act.put, List.setIfInBounds_toArray, List.set_cons_zero, List.set_cons_succ, Nat.reduceAdd, Nat.reduceEqDiff, reduceIte] at hK ⊢
      simp only [e6, e7] at hK ⊢
      go_simp
      refine (HS13.out _).mono ?_
      rintro e w5 ⟨rfl, hb5⟩
      exact hK _ _ hb5 rfl
    · intro t wq hbq hh K hK
      have e2 := hh.1
      simp only [pick] at e2
      replace e2 : t 2 = (.bool X) := e2
      clear hh
      simp only [filled, upd, Have, is, any, row, pick, Act.put, List.setIfInBounds_toArray, List.set_cons_zero, List.set_cons_succ, Nat.reduceAdd, Nat.reduceEqDiff, reduceIte] at hK ⊢
      simp only [e2] at hK ⊢
      go_simp
      exact hK _ _ (Below.refl _ _) rfl
    · intro t wq hbq hh K hK
      have e5 := hh.1
      simp only [pick] at e5
      replace e5 : t 5 = (.bool Y) := e5
      clear hh
      simp only [filled, upd, Have, is, any, row, pick, Act.put, List.setIfInBounds_toArray, List.set_cons_zero, List.set_cons_succ, Nat.reduceAdd, Nat.reduceEqDiff, reduceIte] at hK ⊢
      simp only [e5] at hK ⊢
      go_simp
      exact hK _ _ (Below.refl _ _) rfl
    · intro t wq hbq hh K hK
      have e8 := hh.1
      simp only [pick] at e8
      replace e8 : t 8 = (.bool Z) := e8
      clear hh
      simp only [filled, upd, Have, is, any, row, pick, Act.put, List.setIfInBounds_toArray, List.set_cons_zero, List.set_cons_succ, Nat.reduceAdd, Nat.reduceEqDiff, reduceIte] at hK ⊢
      simp only [e8] at hK ⊢
      go_simp
      exact hK _ _ (Below.refl _ _) rfl
  · intro t wq hbq hh
    have f9 := have_get hh 9 (by decide)
    simp only [pick] at f9
    replace f9 : t 9 = (.bool X) := f9
    have f10 := have_get hh 10 (by decide)
    simp only [pick] at f10
    replace f10 : t 10 = (.bool Y) := f10
    have f11 := have_get hh 11 (by decide)
    simp only [pick] at f11
    replace f11 : t 11 = (.bool Z) := f11
    clear hh
    simp only [filled, upd, Have, is, any, row, pick, Act.put, List.setIfInBounds_toArray, List.set_cons_zero, List.set_cons_succ, Nat.reduceAdd, Nat.reduceEqDiff, reduceIte]
    simp only [f9, f10, f11]
    have HB3 := hid (bel HB2.out hbq)
    have E_3 := hid (E_2.out.below hbq)
    have X1_3 := hid (X1_2.out.below hbq)
    have X2_3 := hid (X2_2.out.below hbq)
    have X3_3 := hid (X3_2.out.below hbq)
    clear hbq
    cases X with
    | false =>
      obtain ⟨o0, o1, o2, o3⟩ := X1_3.out.facts
      obtain ⟨r0, r1, r2, r3⟩ := X2_3.out.facts
      go_wp2_with fail
      clear o0 o1 o2 o3 r0 r1 r2 r3
      refine (HR12.out _).mono ?_
      rintro e w4 ⟨rfl, hb⟩
      have HB4 := hid (bel HB3.out hb)
      have E_4 := hid (E_3.out.below hb)
      have X1_4 := hid (X1_3.out.below hb)
      have X2_4 := hid (X2_3.out.below hb)
      have X3_4 := hid (X3_3.out.below hb)
      clear hb
      obtain ⟨o0, o1, o2, o3⟩ := X1_4.out.facts
      obtain ⟨r0, r1, r2, r3⟩ := X2_4.out.facts
      go_wp2_with fail
      clear o0 o1 o2 o3 r0 r1 r2 r3
      refine (HS21.out _).mono ?_
      rintro e w5 ⟨rfl, hb⟩
      have HB5 := hid (bel HB4.out hb)
      have E_5 := hid (E_4.out.below hb)
      have X1_5 := hid (X1_4.out.below hb)
      have X2_5 := hid (X2_4.out.below hb)
      have X3_5 := hid (X3_4.out.below hb)
      clear hb
      obtain ⟨o0, o1, o2, o3⟩ := X1_5.out.facts
      go_wp2_with fail
      clear o0 o1 o2 o3
      refine (HS11.out _).mono ?_
      rintro e w6 ⟨rfl, hb⟩
      have HB6 := hid (bel HB5.out hb)
      have E_6 := hid (E_5.out.below hb)
      have X1_6 := hid (X1_5.out.below hb)
      have X2_6 := hid (X2_5.out.below hb)
      have X3_6 := hid (X3_5.out.below hb)
      clear hb
      go_wp2
      go_ret
      exact ⟨rfl, HB6.out⟩
    | true =>
      cases Y with
      | false =>
        obtain ⟨o0, o1, o2, o3⟩ := X1_3.out.facts
        obtain ⟨r0, r1, r2, r3⟩ := X2_3.out.facts
        go_wp2_with fail
        clear o0 o1 o2 o3 r0 r1 r2 r3
        refine (HR12.out _).mono ?_
        rintro e w4 ⟨rfl, hb⟩
        have HB4 := hid (bel HB3.out hb)
        have E_4 := hid (E_3.out.below hb)
        have X1_4 := hid (X1_3.out.below hb)
        have X2_4 := hid (X2_3.out.below hb)
        have X3_4 := hid (X3_3.out.below hb)
        clear hb
        obtain ⟨o0, o1, o2, o3⟩ := X1_4.out.facts
        obtain ⟨r0, r1, r2, r3⟩ := X2_4.out.facts
        go_wp2_with fail
        clear o0 o1 o2 o3 r0 r1 r2 r3
        refine (HS21.out _).mono ?_
        rintro e w5 ⟨rfl, hb⟩
        have HB5 := hid (bel HB4.out hb)
        have E_5 := hid (E_4.out.below hb)
        have X1_5 := hid (X1_4.out.below hb)
        have X2_5 := hid (X2_4.out.below hb)
        have X3_5 := hid (X3_4.out.below hb)
        clear hb
        obtain ⟨o0, o1, o2, o3⟩ := X1_5.out.facts
        go_wp2_with fail
        clear o0 o1 o2 o3
        refine (HS11.out _).mono ?_
        rintro e w6 ⟨rfl, hb⟩
        have HB6 := hid (bel HB5.out hb)
        have E_6 := hid (E_5.out.below hb)
        have X1_6 := hid (X1_5.out.below hb)
        have X2_6 := hid (X2_5.out.below hb)
        have X3_6 := hid (X3_5.out.below hb)
        clear hb
        go_wp2
        go_ret
        exact ⟨rfl, HB6.out⟩
      | true =>
        obtain rfl : Z = true := HTR.out rfl rfl
        obtain ⟨o0, o1, o2, o3⟩ := X1_3.out.facts
        obtain ⟨r0, r1, r2, r3⟩ := X2_3.out.facts
        go_wp2_with fail
        clear o0 o1 o2 o3 r0 r1 r2 r3
        refine (HR12.out _).mono ?_
        rintro e w4 ⟨rfl, hb⟩
        have HB4 := hid (bel HB3.out hb)
        have E_4 := hid (E_3.out.below hb)
        have X1_4 := hid (X1_3.out.below hb)
        have X2_4 := hid (X2_3.out.below hb)
        have X3_4 := hid (X3_3.out.below hb)
        clear hb
        obtain ⟨o0, o1, o2, o3⟩ := X1_4.out.facts
        obtain ⟨r0, r1, r2, r3⟩ := X2_4.out.facts
        go_wp2_with fail
        clear o0 o1 o2 o3 r0 r1 r2 r3
        refine (HS21.out _).mono ?_
        rintro e w5 ⟨rfl, hb⟩
        have HB5 := hid (bel HB4.out hb)
        have E_5 := hid (E_4.out.below hb)
        have X1_5 := hid (X1_4.out.below hb)
        have X2_5 := hid (X2_4.out.below hb)
        have X3_5 := hid (X3_4.out.below hb)
        clear hb
        obtain ⟨o0, o1, o2, o3⟩ := X1_5.out.facts
        go_wp2_with fail
        clear o0 o1 o2 o3
        refine (HS11.out _).mono ?_
        rintro e w6 ⟨rfl, hb⟩
        have HB6 := hid (bel HB5.out hb)
        have E_6 := hid (E_5.out.below hb)
        have X1_6 := hid (X1_5.out.below hb)
        have X2_6 := hid (X2_5.out.below hb)
        have X3_6 := hid (X3_5.out.below hb)
        clear hb
        go_wp2
        go_ret
        exact ⟨rfl, HB6.out⟩
end Go.Proofs.YtaooiggckcfanaaGreatDoor.Laws
