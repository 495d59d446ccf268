/- The walk of the law UrlWrites: it returns true, whatever it is called with. -/
import Derived.Test.YtofjngfeclmneaaDoorUrlW
import Derived.Test.YtofjngfeclmneaaDoorUrlG
import Derived.Test.YtofjngfeclmneaaDoorUrlH
namespace Go.Proofs.YtofjngfeclmneaaDoor.Laws
open Go.RowKit Go.Proofs.YtofjngfeclmneaaDoor.Base Go.Proofs.YtofjngfeclmneaaDoor.Base2 Go.Proofs.YtofjngfeclmneaaDoor.UrlP Go.Proofs.YtofjngfeclmneaaDoor.UrlA Go.Proofs.YtofjngfeclmneaaDoor.UrlC Go.Proofs.YtofjngfeclmneaaDoor.UrlD Go.Proofs.YtofjngfeclmneaaDoor.Regs

set_option linter.unusedSimpArgs false in
set_option linter.unusedVariables false in
set_option maxRecDepth 100000 in
set_option maxHeartbeats 8000000 in
theorem UrlWrites_any (s0 : ByteArray) (s1 : ByteArray) (s2 : ByteArray) (s3 : ByteArray) (b4 : Bool) (z5 : Int) (b6 : Bool) (s7 : ByteArray) (A : Option Addr) (n cap : Nat) (l : List ByteArray) (b9 : Bool) (b10 : Bool) (s11 : ByteArray) (s12 : ByteArray) (w : World) (hs0 : s0.size ≤ 140737488351232) (hs1 : s1.size ≤ 140737488351232) (hs2 : s2.size ≤ 140737488351232) (hs3 : s3.size ≤ 140737488351232) (hz : -9223372036854775808 ≤ z5 ∧ z5 ≤ 9223372036854775807) (hs7 : s7.size ≤ 140737488351232) (hR : Rds w A n (l.map Value.string)) (hnc : n ≤ cap) (hcm : cap ≤ maxLen) (hel : ∀ s ∈ l, s.size ≤ 140737488351232) (hs11 : s11.size ≤ 140737488351232) (hs12 : s12.size ≤ 140737488351232) (hT : Tab.Pow w) :
    Calls Tryd.prog 3 #[.agg #[.string s0, .string s1, .string s2, .string s3, .bool b4, .int .i64 z5, .bool b6, .string s7, .slice A n cap, .bool b9, .bool b10, .string s11, .string s12]] w fun e w' => e = .returned (.bool true) ∧ Below w.heap.size w w' := by
  have HT := hid hT
  clear hT
  obtain ⟨FB, hFB⟩ : ∃ b, b = decide (fewN s0 s1 s2 s3 s7 s11 s12 l ≤ 1000 ∧ n ≤ 50) := ⟨_, rfl⟩
  have HFB := hid hFB
  have hn : l.length = n := by rw [← hR.1, List.length_map]
  have HN := hid hn
  have HR := hid hR
  have HEL := hid hel
  clear hFB hR hel hn
  obtain ⟨PA, hPA⟩ : ∃ X, X = printL s0 s1 s2 s3 b4 z5 b6 s7 l b9 b10 s11 s12 := ⟨_, rfl⟩
  obtain ⟨BA, hBA⟩ : ∃ X, X = bareL s0 s1 s2 s3 b4 z5 b6 s7 l b9 s11 := ⟨_, rfl⟩
  obtain ⟨QA, hQA⟩ : ∃ X, X = pathL b6 s7 l := ⟨_, rfl⟩
  have HRA : Hid (UrlH.refL true s0 s1 s2 s3 b4 z5 b6 s7 A n cap l b9 b10 s11 s12 = PA) := by show _ = _; rw [hPA]; unfold UrlH.refL printL; rw [Bool.and_true]
  have HRB : Hid (UrlH.refL false s0 s1 s2 s3 b4 z5 b6 s7 A n cap l b9 b10 s11 s12 = BA) := by show _ = _; rw [hBA]; unfold UrlH.refL; rw [Bool.and_false, if_neg (by decide), List.append_nil]
  have HPA := hid hPA
  have HBA := hid hBA
  have HQA := hid hQA
  clear hPA hBA hQA
  go_enter Tryd.func3, Tryd.ntmps3
  go_upto_region 1 with (fail)
  generalize hw1 : w.alloc _ = w1
  have hb1 : Below w.heap.size w w1 := by rw [← hw1]; exact (Below.refl _ _).alloc (Nat.le_refl _) _
  have HX1 : Hid (Box w1 w.heap.size #[.string s0, .string s1, .string s2, .string s3, .bool b4, .int .i64 z5, .bool b6, .string s7, .slice A n cap, .bool b9, .bool b10, .string s11, .string s12]) := by show _ = _; rw [← hw1]; exact heap_alloc_new w _
  have hlt1 : w.heap.size < w1.heap.size := by rw [← hw1]; simp
  clear hw1
  go_wp2_with fail
  refine (UrlW.awake_any _ (HT.out.below hb1)).mono ?_
  rintro e w2 ⟨rfl, hb2⟩
  have HX2 := hid (HX1.out.below hb2 hlt1)
  have hlt2 : w.heap.size < w2.heap.size := Nat.lt_of_lt_of_le hlt1 hb2.size
  have hbb2 := bel hb1 hb2
  obtain ⟨c0, c1, c2, c3, c4, c5, c6, c7, c8, c9, c10, c11, c12⟩ := cells13 HX2.out
  go_wp2_with fail
  refine (few_any s0 s1 s2 s3 b4 z5 b6 s7 A n cap l b9 b10 s11 s12 _ (HR.out.below hbb2) hnc hcm hs0 hs1 hs2 hs3 hs7 hs11 hs12 HEL.out).mono ?_
  rintro e w3 ⟨rfl, hb3⟩
  rw [← HFB.out]
  clear c0 c1 c2 c3 c4 c5 c6 c7 c8 c9 c10 c11 c12
  have HXw := hid (HX2.out.below hb3 hlt2)
  have hltw : w.heap.size < w3.heap.size := Nat.lt_of_lt_of_le hlt2 hb3.size
  have hbw := bel hbb2 hb3
  cases FB with
  | true =>
    have hF : fewN s0 s1 s2 s3 s7 s11 s12 l ≤ 1000 ∧ n ≤ 50 := of_decide_eq_true HFB.out.symm
    obtain ⟨hF1, hF2⟩ := hF
    unfold fewN at hF1
    have ks0 : s0.size ≤ 1073741824 := by omega
    have ks1 : s1.size ≤ 1073741824 := by omega
    have ks2 : s2.size ≤ 1073741824 := by omega
    have ks3 : s3.size ≤ 1073741824 := by omega
    have ks7 : s7.size ≤ 1073741824 := by omega
    have ks11 : s11.size ≤ 1073741824 := by omega
    have ks12 : s12.size ≤ 1073741824 := by omega
    have hl : (pth l).length ≤ 1073741824 := by rw [length_pth, HN.out]; omega
    have HLL := hid hl
    clear hF1 hF2 hl
    go_wp2_with fail
    refine wp_region_rel (by kernel_rfl) [is (.agg #[.string s0, .string s1, .string s2, .string s3, .bool b4, .int .i64 z5, .bool b6, .string s7, .slice A n cap, .bool b9, .bool b10, .string s11, .string s12]), is (.string (strOf PA)), is (.agg #[.string s0, .string s1, .string s2, .string s3, .bool b4, .int .i64 z5, .bool b6, .string s7, .slice A n cap, .bool b9, .bool b10, .string s11, .string s12]), is (.string (strOf PA)), is (.bool true), is (.bool true), is (.agg #[.string s0, .string s1, .string s2, .string s3, .bool b4, .int .i64 z5, .bool b6, .string s7, .slice A n cap, .bool b9, .bool b10, .string s11, .string s12]), is (.string (strOf BA)), is (.agg #[.string s0, .string s1, .string s2, .string s3, .bool b4, .int .i64 z5, .bool b6, .string s7, .slice A n cap, .bool b9, .bool b10, .string s11, .string s12]), is (.string (strOf BA)), is (.bool true), is (.bool true), is (.bool true), is (.agg #[.string s0, .string s1, .string s2, .string s3, .bool b4, .int .i64 z5, .bool b6, .string s7, .slice A n cap, .bool b9, .bool b10, .string s11, .string s12]), is (.string (strOf QA)), is (.agg #[.string s0, .string s1, .string s2, .string s3, .bool b4, .int .i64 z5, .bool b6, .string s7, .slice A n cap, .bool b9, .bool b10, .string s11, .string s12]), is (.string (strOf QA)), is (.bool true), is (.bool true), is (.bool true)] [[], [0], [], [2], [1, 3], [4], [5], [5, 6], [5], [5, 8], [5, 7, 9], [5, 10], [11], [12], [12, 13], [12], [12, 15], [12, 14, 16], [12, 17], [18]] (by kernel_rfl) ?_ ?_
    · refine ⟨?_, ?_, ?_, ?_, ?_, ?_, ?_, ?_, ?_, ?_, ?_, ?_, ?_, ?_, ?_, ?_, ?_, ?_, ?_, ?_, trivial⟩
      · intro t wq hbq hh K hK
        clear hh
        simp only [filled, upd, Have, is, any, row, pick, Act.put, List.setIfInBounds_toArray, List.set_cons_zero, List.set_cons_succ, Nat.reduceAdd, Nat.reduceEqDiff, reduceIte] at hK ⊢
        have hx := (hbq.block _ hltw).trans HXw.out
        obtain ⟨c0, c1, c2, c3, c4, c5, c6, c7, c8, c9, c10, c11, c12⟩ := cells13 hx
        clear hx
        go_simp
        exact hK _ _ (Below.refl _ _) rfl
      · intro t wq hbq hh K hK
        have e0 := hh.1
        simp only [pick] at e0
        replace e0 : t 0 = (.agg #[.string s0, .string s1, .string s2, .string s3, .bool b4, .int .i64 z5, .bool b6, .string s7, .slice A n cap, .bool b9, .bool b10, .string s11, .string s12]) := e0
        clear hh
        simp only [filled, upd, Have, is, any, row, pick, Act.put, List.setIfInBounds_toArray, List.set_cons_zero, List.set_cons_succ, Nat.reduceAdd, Nat.reduceEqDiff, reduceIte] at hK ⊢
        simp only [e0] at hK ⊢
        go_simp
        refine (print_any s0 s1 s2 s3 b4 z5 b6 s7 A n cap l b9 b10 s11 s12 _ (HR.out.below (hbw.trans (hbq.mono hbw.size))) hnc hcm ks0 ks1 ks2 ks3 ks7 ks11 ks12 hz.1 hz.2 HLL.out (HT.out.below (hbw.trans (hbq.mono hbw.size)))).mono ?_
        rintro e w5 ⟨rfl, hb5⟩
        rw [← HPA.out]
        exact hK _ _ hb5 rfl
      · intro t wq hbq hh K hK
        clear hh
        simp only [filled, upd, Have, is, any, row, pick, Act.put, List.setIfInBounds_toArray, List.set_cons_zero, List.set_cons_succ, Nat.reduceAdd, Nat.reduceEqDiff, reduceIte] at hK ⊢
        have hx := (hbq.block _ hltw).trans HXw.out
        obtain ⟨c0, c1, c2, c3, c4, c5, c6, c7, c8, c9, c10, c11, c12⟩ := cells13 hx
        clear hx
        go_simp
        exact hK _ _ (Below.refl _ _) rfl
      · intro t wq hbq hh K hK
        have e2 := hh.1
        simp only [pick] at e2
        replace e2 : t 2 = (.agg #[.string s0, .string s1, .string s2, .string s3, .bool b4, .int .i64 z5, .bool b6, .string s7, .slice A n cap, .bool b9, .bool b10, .string s11, .string s12]) := e2
        clear hh
        simp only [filled, upd, Have, is, any, row, pick, Act.put, List.setIfInBounds_toArray, List.set_cons_zero, List.set_cons_succ, Nat.reduceAdd, Nat.reduceEqDiff, reduceIte] at hK ⊢
        simp only [e2] at hK ⊢
        go_simp
        refine (UrlH.refPrint_any true s0 s1 s2 s3 b4 z5 b6 s7 A n cap l b9 b10 s11 s12 _ (HR.out.below (hbw.trans (hbq.mono hbw.size))) hnc hcm ks0 ks1 ks2 ks3 ks7 ks11 ks12 hz.1 hz.2 HLL.out).mono ?_
        rintro e w5 ⟨rfl, hb5⟩
        rw [HRA.out]
        exact hK _ _ hb5 rfl
      · intro t wq hbq hh K hK
        have e1 := hh.1
        simp only [pick] at e1
        replace e1 : t 1 = (.string (strOf PA)) := e1
        have e3 := hh.2.1
        simp only [pick] at e3
        replace e3 : t 3 = (.string (strOf PA)) := e3
        clear hh
        simp only [filled, upd, Have, is, any, row, pick, Act.put, List.setIfInBounds_toArray, List.set_cons_zero, List.set_cons_succ, Nat.reduceAdd, Nat.reduceEqDiff, reduceIte] at hK ⊢
        simp only [e1, e3] at hK ⊢
        go_simp
        exact hK _ _ (Below.refl _ _) (by simp [is, pick])
      · intro t wq hbq hh K hK
        have e4 := hh.1
        simp only [pick] at e4
        replace e4 : t 4 = (.bool true) := e4
        clear hh
        simp only [filled, upd, Have, is, any, row, pick, Act.put, List.setIfInBounds_toArray, List.set_cons_zero, List.set_cons_succ, Nat.reduceAdd, Nat.reduceEqDiff, reduceIte] at hK ⊢
        simp only [e4] at hK ⊢
        go_simp
        exact hK _ _ (Below.refl _ _) rfl
      · intro t wq hbq hh K hK
        have e5 := hh.1
        simp only [pick] at e5
        replace e5 : t 5 = (.bool true) := e5
        clear hh
        simp only [filled, upd, Have, is, any, row, pick, Act.put, List.setIfInBounds_toArray, List.set_cons_zero, List.set_cons_succ, Nat.reduceAdd, Nat.reduceEqDiff, reduceIte] at hK ⊢
        simp only [e5] at hK ⊢
        have hx := (hbq.block _ hltw).trans HXw.out
        obtain ⟨c0, c1, c2, c3, c4, c5, c6, c7, c8, c9, c10, c11, c12⟩ := cells13 hx
        clear hx
        go_simp
        exact hK _ _ (Below.refl _ _) rfl
      · intro t wq hbq hh K hK
        have e5 := hh.1
        simp only [pick] at e5
        replace e5 : t 5 = (.bool true) := e5
        have e6 := hh.2.1
        simp only [pick] at e6
        replace e6 : t 6 = (.agg #[.string s0, .string s1, .string s2, .string s3, .bool b4, .int .i64 z5, .bool b6, .string s7, .slice A n cap, .bool b9, .bool b10, .string s11, .string s12]) := e6
        clear hh
        simp only [filled, upd, Have, is, any, row, pick, Act.put, List.setIfInBounds_toArray, List.set_cons_zero, List.set_cons_succ, Nat.reduceAdd, Nat.reduceEqDiff, reduceIte] at hK ⊢
        simp only [e5, e6] at hK ⊢
        go_simp
        refine (bare_any s0 s1 s2 s3 b4 z5 b6 s7 A n cap l b9 b10 s11 s12 _ (HR.out.below (hbw.trans (hbq.mono hbw.size))) hnc hcm ks0 ks1 ks2 ks3 ks7 ks11 ks12 hz.1 hz.2 HLL.out (HT.out.below (hbw.trans (hbq.mono hbw.size)))).mono ?_
        rintro e w5 ⟨rfl, hb5⟩
        rw [← HBA.out]
        exact hK _ _ hb5 rfl
      · intro t wq hbq hh K hK
        have e5 := hh.1
        simp only [pick] at e5
        replace e5 : t 5 = (.bool true) := e5
        clear hh
        simp only [filled, upd, Have, is, any, row, pick, Act.put, List.setIfInBounds_toArray, List.set_cons_zero, List.set_cons_succ, Nat.reduceAdd, Nat.reduceEqDiff, reduceIte] at hK ⊢
        simp only [e5] at hK ⊢
        have hx := (hbq.block _ hltw).trans HXw.out
        obtain ⟨c0, c1, c2, c3, c4, c5, c6, c7, c8, c9, c10, c11, c12⟩ := cells13 hx
        clear hx
        go_simp
        exact hK _ _ (Below.refl _ _) rfl
      · intro t wq hbq hh K hK
        have e5 := hh.1
        simp only [pick] at e5
        replace e5 : t 5 = (.bool true) := e5
        have e8 := hh.2.1
        simp only [pick] at e8
        replace e8 : t 8 = (.agg #[.string s0, .string s1, .string s2, .string s3, .bool b4, .int .i64 z5, .bool b6, .string s7, .slice A n cap, .bool b9, .bool b10, .string s11, .string s12]) := e8
        clear hh
        simp only [filled, upd, Have, is, any, row, pick, Act.put, List.setIfInBounds_toArray, List.set_cons_zero, List.set_cons_succ, Nat.reduceAdd, Nat.reduceEqDiff, reduceIte] at hK ⊢
        simp only [e5, e8] at hK ⊢
        go_simp
        refine (UrlH.refPrint_any false s0 s1 s2 s3 b4 z5 b6 s7 A n cap l b9 b10 s11 s12 _ (HR.out.below (hbw.trans (hbq.mono hbw.size))) hnc hcm ks0 ks1 ks2 ks3 ks7 ks11 ks12 hz.1 hz.2 HLL.out).mono ?_
        rintro e w5 ⟨rfl, hb5⟩
        rw [HRB.out]
        exact hK _ _ hb5 rfl
      · intro t wq hbq hh K hK
        have e5 := hh.1
        simp only [pick] at e5
        replace e5 : t 5 = (.bool true) := e5
        have e7 := hh.2.1
        simp only [pick] at e7
        replace e7 : t 7 = (.string (strOf BA)) := e7
        have e9 := hh.2.2.1
        simp only [pick] at e9
        replace e9 : t 9 = (.string (strOf BA)) := e9
        clear hh
        simp only [filled, upd, Have, is, any, row, pick, Act.put, List.setIfInBounds_toArray, List.set_cons_zero, List.set_cons_succ, Nat.reduceAdd, Nat.reduceEqDiff, reduceIte] at hK ⊢
        simp only [e5, e7, e9] at hK ⊢
        go_simp
        exact hK _ _ (Below.refl _ _) (by simp [is, pick])
      · intro t wq hbq hh K hK
        have e5 := hh.1
        simp only [pick] at e5
        replace e5 : t 5 = (.bool true) := e5
        have e10 := hh.2.1
        simp only [pick] at e10
        replace e10 : t 10 = (.bool true) := e10
        clear hh
        simp only [filled, upd, Have, is, any, row, pick, Act.put, List.setIfInBounds_toArray, List.set_cons_zero, List.set_cons_succ, Nat.reduceAdd, Nat.reduceEqDiff, reduceIte] at hK ⊢
        simp only [e5, e10] at hK ⊢
        go_simp
        exact hK _ _ (Below.refl _ _) rfl
      · intro t wq hbq hh K hK
        have e11 := hh.1
        simp only [pick] at e11
        replace e11 : t 11 = (.bool true) := e11
        clear hh
        simp only [filled, upd, Have, is, any, row, pick, Act.put, List.setIfInBounds_toArray, List.set_cons_zero, List.set_cons_succ, Nat.reduceAdd, Nat.reduceEqDiff, reduceIte] at hK ⊢
        simp only [e11] at hK ⊢
        go_simp
        exact hK _ _ (Below.refl _ _) rfl
      · intro t wq hbq hh K hK
        have e12 := hh.1
        simp only [pick] at e12
        replace e12 : t 12 = (.bool true) := e12
        clear hh
        simp only [filled, upd, Have, is, any, row, pick, Act.put, List.setIfInBounds_toArray, List.set_cons_zero, List.set_cons_succ, Nat.reduceAdd, Nat.reduceEqDiff, reduceIte] at hK ⊢
        simp only [e12] at hK ⊢
        have hx := (hbq.block _ hltw).trans HXw.out
        obtain ⟨c0, c1, c2, c3, c4, c5, c6, c7, c8, c9, c10, c11, c12⟩ := cells13 hx
        clear hx
        go_simp
        exact hK _ _ (Below.refl _ _) rfl
      · intro t wq hbq hh K hK
        have e12 := hh.1
        simp only [pick] at e12
        replace e12 : t 12 = (.bool true) := e12
        have e13 := hh.2.1
        simp only [pick] at e13
        replace e13 : t 13 = (.agg #[.string s0, .string s1, .string s2, .string s3, .bool b4, .int .i64 z5, .bool b6, .string s7, .slice A n cap, .bool b9, .bool b10, .string s11, .string s12]) := e13
        clear hh
        simp only [filled, upd, Have, is, any, row, pick, Act.put, List.setIfInBounds_toArray, List.set_cons_zero, List.set_cons_succ, Nat.reduceAdd, Nat.reduceEqDiff, reduceIte] at hK ⊢
        simp only [e12, e13] at hK ⊢
        go_simp
        refine (UrlB.path_any s0 s1 s2 s3 b4 z5 b6 s7 A n cap l b9 b10 s11 s12 _ (HR.out.below (hbw.trans (hbq.mono hbw.size))) hnc hcm ks7 HLL.out).mono ?_
        rintro e w5 ⟨rfl, hb5⟩
        rw [← HQA.out]
        exact hK _ _ hb5 rfl
      · intro t wq hbq hh K hK
        have e12 := hh.1
        simp only [pick] at e12
        replace e12 : t 12 = (.bool true) := e12
        clear hh
        simp only [filled, upd, Have, is, any, row, pick, Act.put, List.setIfInBounds_toArray, List.set_cons_zero, List.set_cons_succ, Nat.reduceAdd, Nat.reduceEqDiff, reduceIte] at hK ⊢
        simp only [e12] at hK ⊢
        have hx := (hbq.block _ hltw).trans HXw.out
        obtain ⟨c0, c1, c2, c3, c4, c5, c6, c7, c8, c9, c10, c11, c12⟩ := cells13 hx
        clear hx
        go_simp
        exact hK _ _ (Below.refl _ _) rfl
      · intro t wq hbq hh K hK
        have e12 := hh.1
        simp only [pick] at e12
        replace e12 : t 12 = (.bool true) := e12
        have e15 := hh.2.1
        simp only [pick] at e15
        replace e15 : t 15 = (.agg #[.string s0, .string s1, .string s2, .string s3, .bool b4, .int .i64 z5, .bool b6, .string s7, .slice A n cap, .bool b9, .bool b10, .string s11, .string s12]) := e15
        clear hh
        simp only [filled, upd, Have, is, any, row, pick, Act.put, List.setIfInBounds_toArray, List.set_cons_zero, List.set_cons_succ, Nat.reduceAdd, Nat.reduceEqDiff, reduceIte] at hK ⊢
        simp only [e12, e15] at hK ⊢
        go_simp
        refine (refPath_any s0 s1 s2 s3 b4 z5 b6 s7 A n cap l b9 b10 s11 s12 _ (HR.out.below (hbw.trans (hbq.mono hbw.size))) hnc hcm ks7 HLL.out).mono ?_
        rintro e w5 ⟨rfl, hb5⟩
        rw [← HQA.out]
        exact hK _ _ hb5 rfl
      · intro t wq hbq hh K hK
        have e12 := hh.1
        simp only [pick] at e12
        replace e12 : t 12 = (.bool true) := e12
        have e14 := hh.2.1
        simp only [pick] at e14
        replace e14 : t 14 = (.string (strOf QA)) := e14
        have e16 := hh.2.2.1
        simp only [pick] at e16
        replace e16 : t 16 = (.string (strOf QA)) := e16
        clear hh
        simp only [filled, upd, Have, is, any, row, pick, Act.put, List.setIfInBounds_toArray, List.set_cons_zero, List.set_cons_succ, Nat.reduceAdd, Nat.reduceEqDiff, reduceIte] at hK ⊢
        simp only [e12, e14, e16] at hK ⊢
        go_simp
        exact hK _ _ (Below.refl _ _) (by simp [is, pick])
      · intro t wq hbq hh K hK
        have e12 := hh.1
        simp only [pick] at e12
        replace e12 : t 12 = (.bool true) := e12
        have e17 := hh.2.1
        simp only [pick] at e17
        replace e17 : t 17 = (.bool true) := e17
        clear hh
        simp only [filled, upd, Have, is, any, row, pick, Act.put, List.setIfInBounds_toArray, List.set_cons_zero, List.set_cons_succ, Nat.reduceAdd, Nat.reduceEqDiff, reduceIte] at hK ⊢
        simp only [e12, e17] at hK ⊢
        go_simp
        exact hK _ _ (Below.refl _ _) rfl
      · intro t wq hbq hh K hK
        have e18 := hh.1
        simp only [pick] at e18
        replace e18 : t 18 = (.bool true) := e18
        clear hh
        simp only [filled, upd, Have, is, any, row, pick, Act.put, List.setIfInBounds_toArray, List.set_cons_zero, List.set_cons_succ, Nat.reduceAdd, Nat.reduceEqDiff, reduceIte] at hK ⊢
        simp only [e18] at hK ⊢
        go_simp
        exact hK _ _ (Below.refl _ _) rfl
    · intro t wq hbq hh
      have f19 := have_get hh 19 (by decide)
      simp only [pick] at f19
      replace f19 : t 19 = (.bool true) := f19
      clear hh
      simp only [filled, upd, Have, is, any, row, pick, Act.put, List.setIfInBounds_toArray, List.set_cons_zero, List.set_cons_succ, Nat.reduceAdd, Nat.reduceEqDiff, reduceIte]
      simp only [f19]
      go_wp2
      go_ret
      exact ⟨rfl, hbw.trans (hbq.mono hbw.size)⟩
  | false =>
    go_wp2_with fail
    refine (UrlW.awake_any _ (HT.out.below hbw)).mono ?_
    rintro e w4 ⟨rfl, hb4⟩
    go_wp2
    go_ret
    exact ⟨rfl, bel hbw hb4⟩
end Go.Proofs.YtofjngfeclmneaaDoor.Laws
