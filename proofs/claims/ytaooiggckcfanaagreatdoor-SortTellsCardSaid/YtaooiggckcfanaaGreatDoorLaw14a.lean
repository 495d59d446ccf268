/- The law SortTells, walked. -/
import Derived.Test.YtaooiggckcfanaaGreatDoorMT
import Derived.Test.YtaooiggckcfanaaGreatDoorMQ
namespace Go.Proofs.YtaooiggckcfanaaGreatDoor.Laws
open Go.RowKit Go.Proofs.YtaooiggckcfanaaGreatDoor.Base Go.Proofs.YtaooiggckcfanaaGreatDoor.Base2 Go.Proofs.YtaooiggckcfanaaGreatDoor.Regs Go.Proofs.YtaooiggckcfanaaGreatDoor.UtfL Go.Proofs.YtaooiggckcfanaaGreatDoor.UrlP Go.Proofs.YtaooiggckcfanaaGreatDoor.UrlA Go.Proofs.YtaooiggckcfanaaGreatDoor.SixG Go.Proofs.YtaooiggckcfanaaGreatDoor.Spl Go.Proofs.YtaooiggckcfanaaGreatDoor.PrsP Go.Proofs.YtaooiggckcfanaaGreatDoor.Ubx Go.Proofs.YtaooiggckcfanaaGreatDoor.PrsC Go.Proofs.YtaooiggckcfanaaGreatDoor.PrsD Go.Proofs.YtaooiggckcfanaaGreatDoor.PrsG Go.Proofs.YtaooiggckcfanaaGreatDoor.PrsR Go.Proofs.YtaooiggckcfanaaGreatDoor.SrtA Go.Proofs.YtaooiggckcfanaaGreatDoor.SrtW Go.Proofs.YtaooiggckcfanaaGreatDoor.SrtR

structure Env4 (w : World) : Prop where
  pow : Tab.Pow w
  lad : Lad w
  max : Max w
  utab : Utab w
theorem Env4.below {w w' : World} (h : Env4 w) (hb : Below w.heap.size w w') : Env4 w' := ⟨Tab.Pow.below h.pow hb, h.lad.below hb, h.max.below hb, h.utab.below hb⟩
structure Rs (w : World) (A : Option Addr) (n : Nat) (l : List ByteArray) : Prop where
  rds : Rds w A n (l.map Value.string)
theorem Rs.below {w w' : World} {A : Option Addr} {n : Nat} {l : List ByteArray} (h : Rs w A n l) (hb : Below w.heap.size w w') : Rs w' A n l := ⟨h.rds.below hb⟩
set_option linter.unusedSimpArgs false in
set_option maxRecDepth 100000 in
set_option maxHeartbeats 8000000 in
theorem SortTells_any (s0 s1 s2 s3 : ByteArray) (b4 : Bool) (z5 : Int) (b6 : Bool) (s7 : ByteArray) (A : Option Addr) (n cap : Nat) (l : List ByteArray) (b9 b10 : Bool) (s11 s12 : ByteArray) (k : Int) (w : World) (hs0 : s0.size ≤ 140737488351232) (hs1 : s1.size ≤ 140737488351232) (hs2 : s2.size ≤ 140737488351232) (hs3 : s3.size ≤ 140737488351232) (hz : -9223372036854775808 ≤ z5 ∧ z5 ≤ 9223372036854775807) (hs7 : s7.size ≤ 140737488351232) (hR : Rds w A n (l.map Value.string)) (hnc : n ≤ cap) (hcm : cap ≤ maxLen) (hel : ∀ s ∈ l, s.size ≤ 140737488351232) (hs11 : s11.size ≤ 140737488351232) (hs12 : s12.size ≤ 140737488351232) (_hk : -9223372036854775808 ≤ k ∧ k ≤ 9223372036854775807) (hT : Tab.Pow w) (hL : Lad w) (hM : Max w) (hU : Utab w) :
    Calls Tryz.prog 12 #[.agg #[.string s0, .string s1, .string s2, .string s3, .bool b4, .int .i64 z5, .bool b6, .string s7, .slice A n cap, .bool b9, .bool b10, .string s11, .string s12], .int .i64 k] w fun e w' => e = .returned (.bool true) ∧ Below w.heap.size w w' := by
  have HE := hid (⟨hT, hL, hM, hU⟩ : Env4 w)
  have HAW : Hid (∀ w : World, Env4 w → Calls Tryz.prog 29 #[] w fun e w' => e = .returned (.bool true) ∧ Below w.heap.size w w') := fun w E => awake_any w E.pow E.lad E.max E.utab
  obtain ⟨u, hu⟩ : ∃ u : U, u = ⟨s0.data.toList, s1.data.toList, s2.data.toList, s3.data.toList, b4, z5, b6, s7.data.toList, l, b9, b10, s11.data.toList, s12.data.toList⟩ := ⟨_, rfl⟩
  have hval : Value.agg #[.string s0, .string s1, .string s2, .string s3, .bool b4, .int .i64 z5, .bool b6, .string s7, .slice A n cap, .bool b9, .bool b10, .string s11, .string s12] = .agg #[.string (strOf u.sch), .string (strOf u.usr), .string (strOf u.pwd), .string (strOf u.hst), .bool u.hh, .int .i64 u.port, .bool u.opq, .string (strOf u.txt), .slice A n cap, .bool u.hq, .bool u.hf, .string (strOf u.qry), .string (strOf u.frg)] := by subst hu; simp only [strOf_toList]
  obtain ⟨FB, hFB⟩ : ∃ b, b = decide (fewN s0 s1 s2 s3 s7 s11 s12 l ≤ 1000 ∧ n ≤ 50) := ⟨_, rfl⟩
  have HFW : Hid (∀ w : World, Rs w A n l → Calls Tryz.prog 30 #[.agg #[.string (strOf u.sch), .string (strOf u.usr), .string (strOf u.pwd), .string (strOf u.hst), .bool u.hh, .int .i64 u.port, .bool u.opq, .string (strOf u.txt), .slice A n cap, .bool u.hq, .bool u.hf, .string (strOf u.qry), .string (strOf u.frg)]] w fun e w' => e = .returned (.bool FB) ∧ Below w.heap.size w w') := fun w h => by
    rw [← hval, hFB]
    exact UrlD.few_any s0 s1 s2 s3 b4 z5 b6 s7 A n cap l b9 b10 s11 s12 w h.rds hnc hcm hs0 hs1 hs2 hs3 hs7 hs11 hs12 hel
  have HR := hid (⟨hR⟩ : Rs w A n l)
  obtain ⟨Z, hZ⟩ : ∃ Z, Z = sortOf u := ⟨_, rfl⟩
  obtain ⟨M, hMn⟩ : ∃ M, M = nameOf k := ⟨_, rfl⟩
  have HOF : Hid (∀ w : World, Calls Tryz.prog 31 #[.agg #[.string (strOf u.sch), .string (strOf u.usr), .string (strOf u.pwd), .string (strOf u.hst), .bool u.hh, .int .i64 u.port, .bool u.opq, .string (strOf u.txt), .slice A n cap, .bool u.hq, .bool u.hf, .string (strOf u.qry), .string (strOf u.frg)]] w fun e w' => e = .returned (.int .i64 Z) ∧ Below w.heap.size w w') := fun w => by rw [hZ]; exact of_any u A n cap w
  have HRS : Hid (∀ w : World, Calls Tryz.prog 32 #[.agg #[.string (strOf u.sch), .string (strOf u.usr), .string (strOf u.pwd), .string (strOf u.hst), .bool u.hh, .int .i64 u.port, .bool u.opq, .string (strOf u.txt), .slice A n cap, .bool u.hq, .bool u.hf, .string (strOf u.qry), .string (strOf u.frg)]] w fun e w' => e = .returned (.int .i64 Z) ∧ Below w.heap.size w w') := fun w => by rw [hZ]; exact refSort_any u A n cap w
  have HNA : Hid (∀ w : World, Calls Tryz.prog 33 #[.int .i64 k] w fun e w' => e = .returned (.string (strOf M)) ∧ w' = w) := fun w => by rw [hMn]; exact name_any k w
  have HRN : Hid (∀ w : World, Calls Tryz.prog 34 #[.int .i64 k] w fun e w' => e = .returned (.string (strOf M)) ∧ w' = w) := fun w => by rw [hMn]; exact refName_any k w
  rw [hval]
  clear hval hu hFB hZ hMn hT hL hM hU hR hs0 hs1 hs2 hs3 hs7 hs11 hs12 hel hz _hk hnc hcm
  go_enter Tryz.func12, Tryz.ntmps12
  go_upto_region 1 with (fail)
  generalize hwa : World.alloc _ _ = v1
  have hxa : UB v1 (w.heap.size) u (.slice A n cap) := by rw [← hwa]; exact heap_alloc_new _ _
  have hb : Below w.heap.size w v1 := by rw [← hwa]; exact (Below.refl _ _).alloc (Nat.le_refl _) _
  have X := hid hxa
  clear hwa hxa
  have HB1 := hid hb
  have E_1 := hid (HE.out.below hb)
  have R_1 := hid (HR.out.below hb)
  clear hb
  go_wp2_with fail
  refine (HAW.out _ E_1.out).mono ?_
  rintro e w2 ⟨rfl, hb⟩
  have HB2 := hid (bel HB1.out hb)
  have E_2 := hid (E_1.out.below hb)
  have R_2 := hid (R_1.out.below hb)
  have X_2 := hid (X.out.below hb)
  clear hb
  obtain ⟨d0, d1, d2, d3, d4, d5, d6, d7, d8, d9, d10, d11, d12⟩ := X_2.out.facts
  go_wp2_with fail
  clear d0 d1 d2 d3 d4 d5 d6 d7 d8 d9 d10 d11 d12
  refine (HFW.out _ R_2.out).mono ?_
  rintro e w3 ⟨rfl, hb⟩
  have HB3 := hid (bel HB2.out hb)
  have E_3 := hid (E_2.out.below hb)
  have R_3 := hid (R_2.out.below hb)
  have X_3 := hid (X_2.out.below hb)
  clear hb
  cases FB with
  | false =>
    go_wp2_with fail
    refine (HAW.out _ E_3.out).mono ?_
    rintro e w4 ⟨rfl, hb⟩
    have HB4 := hid (bel HB3.out hb)
    have E_4 := hid (E_3.out.below hb)
    have R_4 := hid (R_3.out.below hb)
    have X_4 := hid (X_3.out.below hb)
    clear hb
    go_wp2
    go_ret
    exact ⟨rfl, HB4.out⟩
  | true =>
    have HXW := X_3
    go_upto_region 3 with (fail)
    refine wp_region_rel (by kernel_rfl) [is (.agg #[.string (strOf u.sch), .string (strOf u.usr), .string (strOf u.pwd), .string (strOf u.hst), .bool u.hh, .int .i64 u.port, .bool u.opq, .string (strOf u.txt), .slice A n cap, .bool u.hq, .bool u.hf, .string (strOf u.qry), .string (strOf u.frg)]), is (.int .i64 Z), is (.agg #[.string (strOf u.sch), .string (strOf u.usr), .string (strOf u.pwd), .string (strOf u.hst), .bool u.hh, .int .i64 u.port, .bool u.opq, .string (strOf u.txt), .slice A n cap, .bool u.hq, .bool u.hf, .string (strOf u.qry), .string (strOf u.frg)]), is (.int .i64 Z), is (.bool true), is (.bool true), is (.int .i64 k), is (.string (strOf M)), is (.int .i64 k), is (.string (strOf M)), is (.bool true), is (.bool true), is (.bool true)] [[], [0], [], [2], [1, 3], [4], [5], [5, 6], [5], [5, 8], [5, 7, 9], [5, 10], [11]] (by kernel_rfl) ?_ ?_
    · refine ⟨?_, ?_, ?_, ?_, ?_, ?_, ?_, ?_, ?_, ?_, ?_, ?_, ?_, trivial⟩
      · intro t wq hbq hh K hK
        clear hh
        simp only [filled, upd, Have, is, any, row, pick, Act.put, List.setIfInBounds_toArray, List.set_cons_zero, List.set_cons_succ, Nat.reduceAdd, Nat.reduceEqDiff, reduceIte] at hK ⊢
        obtain ⟨d0, d1, d2, d3, d4, d5, d6, d7, d8, d9, d10, d11, d12⟩ := (HXW.out.below hbq).facts
        go_simp
        exact hK _ _ (Below.refl _ _) rfl
      · intro t wq hbq hh K hK
        have e0 := hh.1
        simp only [pick] at e0
        replace e0 : t 0 = (.agg #[.string (strOf u.sch), .string (strOf u.usr), .string (strOf u.pwd), .string (strOf u.hst), .bool u.hh, .int .i64 u.port, .bool u.opq, .string (strOf u.txt), .slice A n cap, .bool u.hq, .bool u.hf, .string (strOf u.qry), .string (strOf u.frg)]) := e0
        clear hh
        simp only [filled, upd, Have, is, any, row, pick, Act.put, List.setIfInBounds_toArray, List.set_cons_zero, List.set_cons_succ, Nat.reduceAdd, Nat.reduceEqDiff, reduceIte] at hK ⊢
        simp only [e0] at hK ⊢
        go_simp
        refine (HOF.out _).mono ?_
        rintro e w5 ⟨rfl, hb5⟩
        exact hK _ _ hb5 rfl
      · intro t wq hbq hh K hK
        clear hh
        simp only [filled, upd, Have, is, any, row, pick, Act.put, List.setIfInBounds_toArray, List.set_cons_zero, List.set_cons_succ, Nat.reduceAdd, Nat.reduceEqDiff, reduceIte] at hK ⊢
        obtain ⟨d0, d1, d2, d3, d4, d5, d6, d7, d8, d9, d10, d11, d12⟩ := (HXW.out.below hbq).facts
        go_simp
        exact hK _ _ (Below.refl _ _) rfl
      · intro t wq hbq hh K hK
        have e2 := hh.1
        simp only [pick] at e2
        replace e2 : t 2 = (.agg #[.string (strOf u.sch), .string (strOf u.usr), .string (strOf u.pwd), .string (strOf u.hst), .bool u.hh, .int .i64 u.port, .bool u.opq, .string (strOf u.txt), .slice A n cap, .bool u.hq, .bool u.hf, .string (strOf u.qry), .string (strOf u.frg)]) := e2
        clear hh
        simp only [filled, upd, Have, is, any, row, pick, Act.put, List.setIfInBounds_toArray, List.set_cons_zero, List.set_cons_succ, Nat.reduceAdd, Nat.reduceEqDiff, reduceIte] at hK ⊢
        simp only [e2] at hK ⊢
        go_simp
        refine (HRS.out _).mono ?_
        rintro e w5 ⟨rfl, hb5⟩
        exact hK _ _ hb5 rfl
      · intro t wq hbq hh K hK
        have e1 := hh.1
        simp only [pick] at e1
        replace e1 : t 1 = (.int .i64 Z) := e1
        have e3 := hh.2.1
        simp only [pick] at e3
        replace e3 : t 3 = (.int .i64 Z) := e3
        clear hh
        simp only [filled, upd, Have, is, any, row, pick, Act.put, List.setIfInBounds_toArray, List.set_cons_zero, List.set_cons_succ, Nat.reduceAdd, Nat.reduceEqDiff, reduceIte] at hK ⊢
        simp only [e1, e3] at hK ⊢
        go_simp
        exact hK _ _ (Below.refl _ _) (by first | rfl | simp)
      · intro t wq hbq hh K hK
        have e4 := hh.1
        simp only [pick] at e4
        replace e4 : t 4 = (.bool true) := e4
        clear hh
        simp only [filled, upd, Have, is, any, row, pick, Act.put, List.setIfInBounds_toArray, List.set_cons_zero, List.set_cons_succ, Nat.reduceAdd, Nat.reduceEqDiff, reduceIte] at hK ⊢
        simp only [e4] at hK ⊢
        go_simp
        exact hK _ _ (Below.refl _ _) rfl
      · intro t wq hbq hh K hK
        have e5 := hh.1
        simp only [pick] at e5
        replace e5 : t 5 = (.bool true) := e5
        clear hh
        simp only [filled, upd, Have, is, any, row, pick, Act.put, List.setIfInBounds_toArray, List.set_cons_zero, List.set_cons_succ, Nat.reduceAdd, Nat.reduceEqDiff, reduceIte] at hK ⊢
        simp only [e5] at hK ⊢
        go_simp
        exact hK _ _ (Below.refl _ _) rfl
      · intro t wq hbq hh K hK
        have e5 := hh.1
        simp only [pick] at e5
        replace e5 : t 5 = (.bool true) := e5
        have e6 := hh.2.1
        simp only [pick] at e6
        replace e6 : t 6 = (.int .i64 k) := e6
        clear hh
        simp only [filled, upd, Have, is, any, row, pick, Act.put, List.setIfInBounds_toArray, List.set_cons_zero, List.set_cons_succ, Nat.reduceAdd, Nat.reduceEqDiff, reduceIte] at hK ⊢
        simp only [e5, e6] at hK ⊢
        go_simp
        refine (HNA.out _).mono ?_
        rintro e w5 ⟨rfl, hw5⟩
        subst hw5
        exact hK _ _ (Below.refl _ _) rfl
      · intro t wq hbq hh K hK
        have e5 := hh.1
        simp only [pick] at e5
        replace e5 : t 5 = (.bool true) := e5
        clear hh
        simp only [filled, upd, Have, is, any, row, pick, Act.put, List.setIfInBounds_toArray, List.set_cons_zero, List.set_cons_succ, Nat.reduceAdd, Nat.reduceEqDiff, reduceIte] at hK ⊢
        simp only [e5] at hK ⊢
        go_simp
        exact hK _ _ (Below.refl _ _) rfl
      · intro t wq hbq hh K hK
        have e5 := hh.1
        simp only [pick] at e5
        replace e5 : t 5 = (.bool true) := e5
        have e8 := hh.2.1
        simp only [pick] at e8
        replace e8 : t 8 = (.int .i64 k) := e8
        clear hh
        simp only [filled, upd, Have, is, any, row, pick, Act.put, List.setIfInBounds_toArray, List.set_cons_zero, List.set_cons_succ, Nat.reduceAdd, Nat.reduceEqDiff, reduceIte] at hK ⊢
        simp only [e5, e8] at hK ⊢
        go_simp
        refine (HRN.out _).mono ?_
        rintro e w5 ⟨rfl, hw5⟩
        subst hw5
        exact hK _ _ (Below.refl _ _) rfl
      · intro t wq hbq hh K hK
        have e5 := hh.1
        simp only [pick] at e5
        replace e5 : t 5 = (.bool true) := e5
        have e7 := hh.2.1
        simp only [pick] at e7
        replace e7 : t 7 = (.string (strOf M)) := e7
        have e9 := hh.2.2.1
        simp only [pick] at e9
        replace e9 : t 9 = (.string (strOf M)) := e9
        clear hh
        simp only [filled, upd, Have, is, any, row, pick, Act.put, List.setIfInBounds_toArray, List.set_cons_zero, List.set_cons_succ, Nat.reduceAdd, Nat.reduceEqDiff, reduceIte] at hK ⊢
        simp only [e5, e7, e9] at hK ⊢
        go_simp
        exact hK _ _ (Below.refl _ _) (by first | rfl | simp)
      · intro t wq hbq hh K hK
        have e5 := hh.1
        simp only [pick] at e5
        replace e5 : t 5 = (.bool true) := e5
        have e10 := hh.2.1
        simp only [pick] at e10
        replace e10 : t 10 = (.bool true) := e10
        clear hh
        simp only [filled, upd, Have, is, any, row, pick, Act.put, List.setIfInBounds_toArray, List.set_cons_zero, List.set_cons_succ, Nat.reduceAdd, Nat.reduceEqDiff, reduceIte] at hK ⊢
        simp only [e5, e10] at hK ⊢
        go_simp
        exact hK _ _ (Below.refl _ _) rfl
      · intro t wq hbq hh K hK
        have e11 := hh.1
        simp only [pick] at e11
        replace e11 : t 11 = (.bool true) := e11
        clear hh
        simp only [filled, upd, Have, is, any, row, pick, Act.put, List.setIfInBounds_toArray, List.set_cons_zero, List.set_cons_succ, Nat.reduceAdd, Nat.reduceEqDiff, reduceIte] at hK ⊢
        simp only [e11] at hK ⊢
        go_simp
        exact hK _ _ (Below.refl _ _) rfl
    · intro t wq hbq hh
      have f12 := have_get hh 12 (by decide)
      simp only [pick] at f12
      replace f12 : t 12 = (.bool true) := f12
      clear hh
      simp only [filled, upd, Have, is, any, row, pick, Act.put, List.setIfInBounds_toArray, List.set_cons_zero, List.set_cons_succ, Nat.reduceAdd, Nat.reduceEqDiff, reduceIte]
      simp only [f12]
      go_wp2
      go_ret
      exact ⟨rfl, bel HB3.out hbq⟩
end Go.Proofs.YtaooiggckcfanaaGreatDoor.Laws
