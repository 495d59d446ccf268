/- The walk of the law UrlFragments: it returns true, whatever it is called with. -/
import Derived.Test.YtofjngfeclmneaaDoorUrlW
import Derived.Test.YtofjngfeclmneaaDoorUrlG
import Derived.Test.YtofjngfeclmneaaDoorUrlH
namespace Go.Proofs.YtofjngfeclmneaaDoor.Laws
open Go.RowKit Go.Proofs.YtofjngfeclmneaaDoor.Base Go.Proofs.YtofjngfeclmneaaDoor.Base2 Go.Proofs.YtofjngfeclmneaaDoor.UrlP Go.Proofs.YtofjngfeclmneaaDoor.UrlA Go.Proofs.YtofjngfeclmneaaDoor.UrlC Go.Proofs.YtofjngfeclmneaaDoor.UrlD Go.Proofs.YtofjngfeclmneaaDoor.Regs

set_option linter.unusedSimpArgs false in
set_option linter.unusedVariables false in
set_option maxRecDepth 100000 in
set_option maxHeartbeats 8000000 in
theorem UrlFragments_any (s0 : ByteArray) (s1 : ByteArray) (s2 : ByteArray) (s3 : ByteArray) (b4 : Bool) (z5 : Int) (b6 : Bool) (s7 : ByteArray) (A : Option Addr) (n cap : Nat) (l : List ByteArray) (b9 : Bool) (b10 : Bool) (s11 : ByteArray) (s12 : ByteArray) (fr : ByteArray) (w : World) (hs0 : s0.size ≤ 140737488351232) (hs1 : s1.size ≤ 140737488351232) (hs2 : s2.size ≤ 140737488351232) (hs3 : s3.size ≤ 140737488351232) (hz : -9223372036854775808 ≤ z5 ∧ z5 ≤ 9223372036854775807) (hs7 : s7.size ≤ 140737488351232) (hR : Rds w A n (l.map Value.string)) (hnc : n ≤ cap) (hcm : cap ≤ maxLen) (hel : ∀ s ∈ l, s.size ≤ 140737488351232) (hs11 : s11.size ≤ 140737488351232) (hs12 : s12.size ≤ 140737488351232) (hfr : fr.size ≤ 140737488351232) (hT : Tab.Pow w) :
    Calls Tryd.prog 6 #[.agg #[.string s0, .string s1, .string s2, .string s3, .bool b4, .int .i64 z5, .bool b6, .string s7, .slice A n cap, .bool b9, .bool b10, .string s11, .string s12], .string fr] w fun e w' => e = .returned (.bool true) ∧ Below w.heap.size w w' := by
  have HT := hid hT
  clear hT
  obtain ⟨FB, hFB⟩ : ∃ b, b = decide (fewN s0 s1 s2 s3 s7 s11 s12 l ≤ 1000 ∧ n ≤ 50) := ⟨_, rfl⟩
  have HFB := hid hFB
  have hn : l.length = n := by rw [← hR.1, List.length_map]
  have HN := hid hn
  have HR := hid hR
  have HEL := hid hel
  clear hFB hR hel hn
  obtain ⟨BA, hBA⟩ : ∃ X, X = bareL s0 s1 s2 s3 b4 z5 b6 s7 l b9 s11 := ⟨_, rfl⟩
  obtain ⟨BM, hBM⟩ : ∃ X, X = BA ++ [35] := ⟨_, rfl⟩
  obtain ⟨PV, hPV⟩ : ∃ X, X = BM ++ fr.data.toList := ⟨_, rfl⟩
  obtain ⟨D, hD⟩ : ∃ X, X = decide (same1 s0 s1 s2 s3 b4 z5 b6 s7 l b9 b10 s11 s12 = same1 s0 s1 s2 s3 b4 z5 b6 s7 l b9 false s11 s12) := ⟨_, rfl⟩
  have HD := hid hD
  have HBD : Hid ((b10 == D) = false) := by
    show _ = _
    rw [hD]
    cases b10 <;> simp [same1, txt]
  have HPV : Hid (printL s0 s1 s2 s3 b4 z5 b6 s7 l b9 true s11 fr = PV) := by show _ = _; rw [hPV, hBM, hBA]; unfold printL; rw [if_pos rfl]; simp
  have HPW : Hid (printL s0 s1 s2 s3 b4 z5 b6 s7 l b9 false s11 s12 = BA) := by show _ = _; rw [hBA]; unfold printL; rw [if_neg (by decide), List.append_nil]
  have HBA := hid hBA
  have HBM := hid hBM
  have HPVV := hid hPV
  clear hBA hBM hPV hD
  go_enter Tryd.func6, Tryd.ntmps6
  go_upto_region 1 with (fail)
  generalize hw1 : w.alloc _ = w1
  have hb1 : Below w.heap.size w w1 := by rw [← hw1]; exact (Below.refl _ _).alloc (Nat.le_refl _) _
  have HX1 : Hid (Box w1 w.heap.size #[.string s0, .string s1, .string s2, .string s3, .bool b4, .int .i64 z5, .bool b6, .string s7, .slice A n cap, .bool b9, .bool b10, .string s11, .string s12]) := by show _ = _; rw [← hw1]; exact heap_alloc_new w _
  have hlt1 : w.heap.size < w1.heap.size := by rw [← hw1]; simp
  clear hw1
  go_wp2_with fail
  refine (UrlW.awake_any _ (HT.out.below hb1)).mono ?_
  rintro e w2 ⟨rfl, hb2⟩
  have HX2 := hid (HX1.out.below hb2 hlt1)
  have hlt2 : w.heap.size < w2.heap.size := Nat.lt_of_lt_of_le hlt1 hb2.size
  have hbb2 := bel hb1 hb2
  obtain ⟨c0, c1, c2, c3, c4, c5, c6, c7, c8, c9, c10, c11, c12⟩ := cells13 HX2.out
  go_wp2_with fail
  refine (few_any s0 s1 s2 s3 b4 z5 b6 s7 A n cap l b9 b10 s11 s12 _ (HR.out.below hbb2) hnc hcm hs0 hs1 hs2 hs3 hs7 hs11 hs12 HEL.out).mono ?_
  rintro e w3 ⟨rfl, hb3⟩
  rw [← HFB.out]
  clear c0 c1 c2 c3 c4 c5 c6 c7 c8 c9 c10 c11 c12
  have HX3 := hid (HX2.out.below hb3 hlt2)
  have hlt3 : w.heap.size < w3.heap.size := Nat.lt_of_lt_of_le hlt2 hb3.size
  have hbw3 := bel hbb2 hb3
  cases FB with
  | true =>
    by_cases h300 : fr.size ≤ 300
    · obtain ⟨c0, c1, c2, c3, c4, c5, c6, c7, c8, c9, c10, c11, c12⟩ := cells13 HX3.out
      go_upto_region 7 with (fail)
      clear c0 c1 c2 c3 c4 c5 c6 c7 c8 c9 c10 c11 c12
      generalize hw5 : (w3.alloc _).alloc _ = w5
      have HXu : Hid (Box w5 w.heap.size #[.string s0, .string s1, .string s2, .string s3, .bool b4, .int .i64 z5, .bool b6, .string s7, .slice A n cap, .bool b9, .bool b10, .string s11, .string s12]) := by show _ = _; rw [← hw5]; exact (Below.block (((Below.refl w3.heap.size _).alloc (Nat.le_refl _) _).alloc (by simp) _) w.heap.size hlt3).trans HX3.out
      have HXv : Hid (Box w5 w3.heap.size #[.string s0, .string s1, .string s2, .string s3, .bool b4, .int .i64 z5, .bool b6, .string s7, .slice A n cap, .bool b9, .bool true, .string s11, .string fr]) := by show _ = _; rw [← hw5]; exact (Below.block ((Below.refl (w3.heap.size + 1) _).alloc (by simp) _) w3.heap.size (by omega)).trans (heap_alloc_new w3 _)
      have HXx : Hid (Box w5 (w3.heap.size + 1) #[.string s0, .string s1, .string s2, .string s3, .bool b4, .int .i64 z5, .bool b6, .string s7, .slice A n cap, .bool b9, .bool false, .string s11, .string s12]) := by show _ = _; rw [← hw5]; have := heap_alloc_new (w3.alloc (.cells #[.string s0, .string s1, .string s2, .string s3, .bool b4, .int .i64 z5, .bool b6, .string s7, .slice A n cap, .bool b9, .bool true, .string s11, .string fr] 24)) (.cells #[.string s0, .string s1, .string s2, .string s3, .bool b4, .int .i64 z5, .bool b6, .string s7, .slice A n cap, .bool b9, .bool false, .string s11, .string s12] 24); simpa using this
      have hltx : w3.heap.size + 1 < w5.heap.size := by rw [← hw5]; simp
      have hltv : w3.heap.size < w5.heap.size := by omega
      have hltu : w.heap.size < w5.heap.size := by omega
      have hbw : Below w.heap.size w w5 := by rw [← hw5]; exact bel hbw3 (((Below.refl w3.heap.size _).alloc (Nat.le_refl _) _).alloc (by simp) _)
      clear hw5
      have hF : fewN s0 s1 s2 s3 s7 s11 s12 l ≤ 1000 ∧ n ≤ 50 := of_decide_eq_true HFB.out.symm
      obtain ⟨hF1, hF2⟩ := hF
      unfold fewN at hF1
      have ks0 : s0.size ≤ 1073741824 := by omega
      have ks1 : s1.size ≤ 1073741824 := by omega
      have ks2 : s2.size ≤ 1073741824 := by omega
      have ks3 : s3.size ≤ 1073741824 := by omega
      have ks7 : s7.size ≤ 1073741824 := by omega
      have ks11 : s11.size ≤ 1073741824 := by omega
      have ks12 : s12.size ≤ 1073741824 := by omega
      have hl : (pth l).length ≤ 1073741824 := by rw [length_pth, HN.out]; omega
      have HLL := hid hl
      clear hF1 hF2 hl
      have kfr : fr.size ≤ 1073741824 := by omega
      have lBA : BA.length ≤ 8589934592 := by rw [HBA.out]; exact bare_len s0 s1 s2 s3 b4 z5 b6 s7 A n cap l b9 b10 s11 s12 ks0 ks1 ks2 ks3 ks7 ks11 ks12 hz.1 hz.2 HLL.out
      have a1 : ∀ w : World, (Op.stringOp .add (strOf BA) ⟨#[35]⟩).run Tryd.prog w = .ok (.string (strOf BM)) w := fun w => by rw [HBM.out]; exact str_add' _ ⟨#[35]⟩ w (by rw [size_strOf]; show _ + 1 ≤ _; omega)
      have a2 : ∀ w : World, (Op.stringOp .add (strOf BM) fr).run Tryd.prog w = .ok (.string (strOf PV)) w := fun w => by rw [HPVV.out]; exact str_add' _ fr w (by rw [size_strOf, HBM.out, List.length_append]; show _ + 1 + _ ≤ _; omega)
      clear lBA
      refine wp_region_rel (by kernel_rfl) [is (.agg #[.string s0, .string s1, .string s2, .string s3, .bool b4, .int .i64 z5, .bool b6, .string s7, .slice A n cap, .bool b9, .bool true, .string s11, .string fr]), is (.string (strOf PV)), is (.agg #[.string s0, .string s1, .string s2, .string s3, .bool b4, .int .i64 z5, .bool b6, .string s7, .slice A n cap, .bool b9, .bool b10, .string s11, .string s12]), is (.string (strOf BA)), is (.string (strOf BM)), is (.string fr), is (.string (strOf PV)), is (.bool true), is (.bool true), is (.agg #[.string s0, .string s1, .string s2, .string s3, .bool b4, .int .i64 z5, .bool b6, .string s7, .slice A n cap, .bool b9, .bool true, .string s11, .string fr]), is (.string (strOf BA)), is (.agg #[.string s0, .string s1, .string s2, .string s3, .bool b4, .int .i64 z5, .bool b6, .string s7, .slice A n cap, .bool b9, .bool b10, .string s11, .string s12]), is (.string (strOf BA)), is (.bool true), is (.bool true), is (.bool true), is (.agg #[.string s0, .string s1, .string s2, .string s3, .bool b4, .int .i64 z5, .bool b6, .string s7, .slice A n cap, .bool b9, .bool false, .string s11, .string s12]), is (.string (strOf BA)), is (.agg #[.string s0, .string s1, .string s2, .string s3, .bool b4, .int .i64 z5, .bool b6, .string s7, .slice A n cap, .bool b9, .bool b10, .string s11, .string s12]), is (.string (strOf BA)), is (.bool true), is (.bool true), is (.bool true), is (.pointer (some ⟨w.heap.size, 10, none⟩)), is (.bool b10), is (.agg #[.string s0, .string s1, .string s2, .string s3, .bool b4, .int .i64 z5, .bool b6, .string s7, .slice A n cap, .bool b9, .bool b10, .string s11, .string s12]), is (.agg #[.string s0, .string s1, .string s2, .string s3, .bool b4, .int .i64 z5, .bool b6, .string s7, .slice A n cap, .bool b9, .bool false, .string s11, .string s12]), is (.bool D), is (.bool false), is (.bool true), is (.bool true), is (.bool true)] [[], [0], [], [2], [3], [], [4, 5], [1, 6], [7], [8], [8, 9], [8], [8, 11], [8, 10, 12], [8, 13], [14], [15], [15, 16], [15], [15, 18], [15, 17, 19], [15, 20], [21], [22], [22, 23], [22], [22], [22, 25, 26], [22, 24, 27], [22, 28], [22, 29], [30]] (by kernel_rfl) ?_ ?_
      · refine ⟨?_, ?_, ?_, ?_, ?_, ?_, ?_, ?_, ?_, ?_, ?_, ?_, ?_, ?_, ?_, ?_, ?_, ?_, ?_, ?_, ?_, ?_, ?_, ?_, ?_, ?_, ?_, ?_, ?_, ?_, ?_, ?_, trivial⟩
        · intro t wq hbq hh K hK
          clear hh
          simp only [filled, upd, Have, is, any, row, pick, Act.put, List.setIfInBounds_toArray, List.set_cons_zero, List.set_cons_succ, Nat.reduceAdd, Nat.reduceEqDiff, reduceIte] at hK ⊢
          have hx := (hbq.block _ hltv).trans HXv.out
          obtain ⟨c0, c1, c2, c3, c4, c5, c6, c7, c8, c9, c10, c11, c12⟩ := cells13 hx
          clear hx
          go_simp
          exact hK _ _ (Below.refl _ _) rfl
        · intro t wq hbq hh K hK
          have e0 := hh.1
          simp only [pick] at e0
          replace e0 : t 0 = (.agg #[.string s0, .string s1, .string s2, .string s3, .bool b4, .int .i64 z5, .bool b6, .string s7, .slice A n cap, .bool b9, .bool true, .string s11, .string fr]) := e0
          clear hh
          simp only [filled, upd, Have, is, any, row, pick, Act.put, List.setIfInBounds_toArray, List.set_cons_zero, List.set_cons_succ, Nat.reduceAdd, Nat.reduceEqDiff, reduceIte] at hK ⊢
          simp only [e0] at hK ⊢
          go_simp
          refine (print_any s0 s1 s2 s3 b4 z5 b6 s7 A n cap l b9 true s11 fr _ (HR.out.below (hbw.trans (hbq.mono hbw.size))) hnc hcm ks0 ks1 ks2 ks3 ks7 ks11 kfr hz.1 hz.2 HLL.out (HT.out.below (hbw.trans (hbq.mono hbw.size)))).mono ?_
          rintro e w5 ⟨rfl, hb5⟩
          rw [HPV.out]
          exact hK _ _ hb5 rfl
        · intro t wq hbq hh K hK
          clear hh
          simp only [filled, upd, Have, is, any, row, pick, Act.put, List.setIfInBounds_toArray, List.set_cons_zero, List.set_cons_succ, Nat.reduceAdd, Nat.reduceEqDiff, reduceIte] at hK ⊢
          have hx := (hbq.block _ hltu).trans HXu.out
          obtain ⟨c0, c1, c2, c3, c4, c5, c6, c7, c8, c9, c10, c11, c12⟩ := cells13 hx
          clear hx
          go_simp
          exact hK _ _ (Below.refl _ _) rfl
        · intro t wq hbq hh K hK
          have e2 := hh.1
          simp only [pick] at e2
          replace e2 : t 2 = (.agg #[.string s0, .string s1, .string s2, .string s3, .bool b4, .int .i64 z5, .bool b6, .string s7, .slice A n cap, .bool b9, .bool b10, .string s11, .string s12]) := e2
          clear hh
          simp only [filled, upd, Have, is, any, row, pick, Act.put, List.setIfInBounds_toArray, List.set_cons_zero, List.set_cons_succ, Nat.reduceAdd, Nat.reduceEqDiff, reduceIte] at hK ⊢
          simp only [e2] at hK ⊢
          go_simp
          refine (bare_any s0 s1 s2 s3 b4 z5 b6 s7 A n cap l b9 b10 s11 s12 _ (HR.out.below (hbw.trans (hbq.mono hbw.size))) hnc hcm ks0 ks1 ks2 ks3 ks7 ks11 ks12 hz.1 hz.2 HLL.out (HT.out.below (hbw.trans (hbq.mono hbw.size)))).mono ?_
          rintro e w5 ⟨rfl, hb5⟩
          rw [← HBA.out]
          exact hK _ _ hb5 rfl
        · intro t wq hbq hh K hK
          have e3 := hh.1
          simp only [pick] at e3
          replace e3 : t 3 = (.string (strOf BA)) := e3
          clear hh
          simp only [filled, upd, Have, is, any, row, pick, Act.put, List.setIfInBounds_toArray, List.set_cons_zero, List.set_cons_succ, Nat.reduceAdd, Nat.reduceEqDiff, reduceIte] at hK ⊢
          simp only [e3] at hK ⊢
          have hadd := a1 wq
          go_simp
          exact hK _ _ (Below.refl _ _) rfl
        · intro t wq hbq hh K hK
          clear hh
          simp only [filled, upd, Have, is, any, row, pick, Act.put, List.setIfInBounds_toArray, List.set_cons_zero, List.set_cons_succ, Nat.reduceAdd, Nat.reduceEqDiff, reduceIte] at hK ⊢
          go_simp
          exact hK _ _ (Below.refl _ _) rfl
        · intro t wq hbq hh K hK
          have e4 := hh.1
          simp only [pick] at e4
          replace e4 : t 4 = (.string (strOf BM)) := e4
          have e5 := hh.2.1
          simp only [pick] at e5
          replace e5 : t 5 = (.string fr) := e5
          clear hh
          simp only [filled, upd, Have, is, any, row, pick, Act.put, List.setIfInBounds_toArray, List.set_cons_zero, List.set_cons_succ, Nat.reduceAdd, Nat.reduceEqDiff, reduceIte] at hK ⊢
          simp only [e4, e5] at hK ⊢
          have hadd := a2 wq
          go_simp
          exact hK _ _ (Below.refl _ _) rfl
        · intro t wq hbq hh K hK
          have e1 := hh.1
          simp only [pick] at e1
          replace e1 : t 1 = (.string (strOf PV)) := e1
          have e6 := hh.2.1
          simp only [pick] at e6
          replace e6 : t 6 = (.string (strOf PV)) := e6
          clear hh
          simp only [filled, upd, Have, is, any, row, pick, Act.put, List.setIfInBounds_toArray, List.set_cons_zero, List.set_cons_succ, Nat.reduceAdd, Nat.reduceEqDiff, reduceIte] at hK ⊢
          simp only [e1, e6] at hK ⊢
          go_simp
          exact hK _ _ (Below.refl _ _) (by simp [is, pick])
        · intro t wq hbq hh K hK
          have e7 := hh.1
          simp only [pick] at e7
          replace e7 : t 7 = (.bool true) := e7
          clear hh
          simp only [filled, upd, Have, is, any, row, pick, Act.put, List.setIfInBounds_toArray, List.set_cons_zero, List.set_cons_succ, Nat.reduceAdd, Nat.reduceEqDiff, reduceIte] at hK ⊢
          simp only [e7] at hK ⊢
          go_simp
          exact hK _ _ (Below.refl _ _) rfl
        · intro t wq hbq hh K hK
          have e8 := hh.1
          simp only [pick] at e8
          replace e8 : t 8 = (.bool true) := e8
          clear hh
          simp only [filled, upd, Have, is, any, row, pick, Act.put, List.setIfInBounds_toArray, List.set_cons_zero, List.set_cons_succ, Nat.reduceAdd, Nat.reduceEqDiff, reduceIte] at hK ⊢
          simp only [e8] at hK ⊢
          have hx := (hbq.block _ hltv).trans HXv.out
          obtain ⟨c0, c1, c2, c3, c4, c5, c6, c7, c8, c9, c10, c11, c12⟩ := cells13 hx
          clear hx
          go_simp
          exact hK _ _ (Below.refl _ _) rfl
        · intro t wq hbq hh K hK
          have e8 := hh.1
          simp only [pick] at e8
          replace e8 : t 8 = (.bool true) := e8
          have e9 := hh.2.1
          simp only [pick] at e9
          replace e9 : t 9 = (.agg #[.string s0, .string s1, .string s2, .string s3, .bool b4, .int .i64 z5, .bool b6, .string s7, .slice A n cap, .bool b9, .bool true, .string s11, .string fr]) := e9
          clear hh
          simp only [filled, upd, Have, is, any, row, pick, Act.put, List.setIfInBounds_toArray, List.set_cons_zero, List.set_cons_succ, Nat.reduceAdd, Nat.reduceEqDiff, reduceIte] at hK ⊢
          simp only [e8, e9] at hK ⊢
          go_simp
          refine (bare_any s0 s1 s2 s3 b4 z5 b6 s7 A n cap l b9 true s11 fr _ (HR.out.below (hbw.trans (hbq.mono hbw.size))) hnc hcm ks0 ks1 ks2 ks3 ks7 ks11 kfr hz.1 hz.2 HLL.out (HT.out.below (hbw.trans (hbq.mono hbw.size)))).mono ?_
          rintro e w5 ⟨rfl, hb5⟩
          rw [← HBA.out]
          exact hK _ _ hb5 rfl
        · intro t wq hbq hh K hK
          have e8 := hh.1
          simp only [pick] at e8
          replace e8 : t 8 = (.bool true) := e8
          clear hh
          simp only [filled, upd, Have, is, any, row, pick, Act.put, List.setIfInBounds_toArray, List.set_cons_zero, List.set_cons_succ, Nat.reduceAdd, Nat.reduceEqDiff, reduceIte] at hK ⊢
          simp only [e8] at hK ⊢
          have hx := (hbq.block _ hltu).trans HXu.out
          obtain ⟨c0, c1, c2, c3, c4, c5, c6, c7, c8, c9, c10, c11, c12⟩ := cells13 hx
          clear hx
          go_simp
          exact hK _ _ (Below.refl _ _) rfl
        · intro t wq hbq hh K hK
          have e8 := hh.1
          simp only [pick] at e8
          replace e8 : t 8 = (.bool true) := e8
          have e11 := hh.2.1
          simp only [pick] at e11
          replace e11 : t 11 = (.agg #[.string s0, .string s1, .string s2, .string s3, .bool b4, .int .i64 z5, .bool b6, .string s7, .slice A n cap, .bool b9, .bool b10, .string s11, .string s12]) := e11
          clear hh
          simp only [filled, upd, Have, is, any, row, pick, Act.put, List.setIfInBounds_toArray, List.set_cons_zero, List.set_cons_succ, Nat.reduceAdd, Nat.reduceEqDiff, reduceIte] at hK ⊢
          simp only [e8, e11] at hK ⊢
          go_simp
          refine (bare_any s0 s1 s2 s3 b4 z5 b6 s7 A n cap l b9 b10 s11 s12 _ (HR.out.below (hbw.trans (hbq.mono hbw.size))) hnc hcm ks0 ks1 ks2 ks3 ks7 ks11 ks12 hz.1 hz.2 HLL.out (HT.out.below (hbw.trans (hbq.mono hbw.size)))).mono ?_
          rintro e w5 ⟨rfl, hb5⟩
          rw [← HBA.out]
          exact hK _ _ hb5 rfl
        · intro t wq hbq hh K hK
          have e8 := hh.1
          simp only [pick] at e8
          replace e8 : t 8 = (.bool true) := e8
          have e10 := hh.2.1
          simp only [pick] at e10
          replace e10 : t 10 = (.string (strOf BA)) := e10
          have e12 := hh.2.2.1
          simp only [pick] at e12
          replace e12 : t 12 = (.string (strOf BA)) := e12
          clear hh
          simp only [filled, upd, Have, is, any, row, pick, Act.put, List.setIfInBounds_toArray, List.set_cons_zero, List.set_cons_succ, Nat.reduceAdd, Nat.reduceEqDiff, reduceIte] at hK ⊢
          simp only [e8, e10, e12] at hK ⊢
          go_simp
          exact hK _ _ (Below.refl _ _) (by simp [is, pick])
        · intro t wq hbq hh K hK
          have e8 := hh.1
          simp only [pick] at e8
          replace e8 : t 8 = (.bool true) := e8
          have e13 := hh.2.1
          simp only [pick] at e13
          replace e13 : t 13 = (.bool true) := e13
          clear hh
          simp only [filled, upd, Have, is, any, row, pick, Act.put, List.setIfInBounds_toArray, List.set_cons_zero, List.set_cons_succ, Nat.reduceAdd, Nat.reduceEqDiff, reduceIte] at hK ⊢
          simp only [e8, e13] at hK ⊢
          go_simp
          exact hK _ _ (Below.refl _ _) rfl
        · intro t wq hbq hh K hK
          have e14 := hh.1
          simp only [pick] at e14
          replace e14 : t 14 = (.bool true) := e14
          clear hh
          simp only [filled, upd, Have, is, any, row, pick, Act.put, List.setIfInBounds_toArray, List.set_cons_zero, List.set_cons_succ, Nat.reduceAdd, Nat.reduceEqDiff, reduceIte] at hK ⊢
          simp only [e14] at hK ⊢
          go_simp
          exact hK _ _ (Below.refl _ _) rfl
        · intro t wq hbq hh K hK
          have e15 := hh.1
          simp only [pick] at e15
          replace e15 : t 15 = (.bool true) := e15
          clear hh
          simp only [filled, upd, Have, is, any, row, pick, Act.put, List.setIfInBounds_toArray, List.set_cons_zero, List.set_cons_succ, Nat.reduceAdd, Nat.reduceEqDiff, reduceIte] at hK ⊢
          simp only [e15] at hK ⊢
          have hx := (hbq.block _ hltx).trans HXx.out
          obtain ⟨c0, c1, c2, c3, c4, c5, c6, c7, c8, c9, c10, c11, c12⟩ := cells13 hx
          clear hx
          go_simp
          exact hK _ _ (Below.refl _ _) rfl
        · intro t wq hbq hh K hK
          have e15 := hh.1
          simp only [pick] at e15
          replace e15 : t 15 = (.bool true) := e15
          have e16 := hh.2.1
          simp only [pick] at e16
          replace e16 : t 16 = (.agg #[.string s0, .string s1, .string s2, .string s3, .bool b4, .int .i64 z5, .bool b6, .string s7, .slice A n cap, .bool b9, .bool false, .string s11, .string s12]) := e16
          clear hh
          simp only [filled, upd, Have, is, any, row, pick, Act.put, List.setIfInBounds_toArray, List.set_cons_zero, List.set_cons_succ, Nat.reduceAdd, Nat.reduceEqDiff, reduceIte] at hK ⊢
          simp only [e15, e16] at hK ⊢
          go_simp
          refine (print_any s0 s1 s2 s3 b4 z5 b6 s7 A n cap l b9 false s11 s12 _ (HR.out.below (hbw.trans (hbq.mono hbw.size))) hnc hcm ks0 ks1 ks2 ks3 ks7 ks11 ks12 hz.1 hz.2 HLL.out (HT.out.below (hbw.trans (hbq.mono hbw.size)))).mono ?_
          rintro e w5 ⟨rfl, hb5⟩
          rw [HPW.out]
          exact hK _ _ hb5 rfl
        · intro t wq hbq hh K hK
          have e15 := hh.1
          simp only [pick] at e15
          replace e15 : t 15 = (.bool true) := e15
          clear hh
          simp only [filled, upd, Have, is, any, row, pick, Act.put, List.setIfInBounds_toArray, List.set_cons_zero, List.set_cons_succ, Nat.reduceAdd, Nat.reduceEqDiff, reduceIte] at hK ⊢
          simp only [e15] at hK ⊢
          have hx := (hbq.block _ hltu).trans HXu.out
          obtain ⟨c0, c1, c2, c3, c4, c5, c6, c7, c8, c9, c10, c11, c12⟩ := cells13 hx
          clear hx
          go_simp
          exact hK _ _ (Below.refl _ _) rfl
        · intro t wq hbq hh K hK
          have e15 := hh.1
          simp only [pick] at e15
          replace e15 : t 15 = (.bool true) := e15
          have e18 := hh.2.1
          simp only [pick] at e18
          replace e18 : t 18 = (.agg #[.string s0, .string s1, .string s2, .string s3, .bool b4, .int .i64 z5, .bool b6, .string s7, .slice A n cap, .bool b9, .bool b10, .string s11, .string s12]) := e18
          clear hh
          simp only [filled, upd, Have, is, any, row, pick, Act.put, List.setIfInBounds_toArray, List.set_cons_zero, List.set_cons_succ, Nat.reduceAdd, Nat.reduceEqDiff, reduceIte] at hK ⊢
          simp only [e15, e18] at hK ⊢
          go_simp
          refine (bare_any s0 s1 s2 s3 b4 z5 b6 s7 A n cap l b9 b10 s11 s12 _ (HR.out.below (hbw.trans (hbq.mono hbw.size))) hnc hcm ks0 ks1 ks2 ks3 ks7 ks11 ks12 hz.1 hz.2 HLL.out (HT.out.below (hbw.trans (hbq.mono hbw.size)))).mono ?_
          rintro e w5 ⟨rfl, hb5⟩
          rw [← HBA.out]
          exact hK _ _ hb5 rfl
        · intro t wq hbq hh K hK
          have e15 := hh.1
          simp only [pick] at e15
          replace e15 : t 15 = (.bool true) := e15
          have e17 := hh.2.1
          simp only [pick] at e17
          replace e17 : t 17 = (.string (strOf BA)) := e17
          have e19 := hh.2.2.1
          simp only [pick] at e19
          replace e19 : t 19 = (.string (strOf BA)) := e19
          clear hh
          simp only [filled, upd, Have, is, any, row, pick, Act.put, List.setIfInBounds_toArray, List.set_cons_zero, List.set_cons_succ, Nat.reduceAdd, Nat.reduceEqDiff, reduceIte] at hK ⊢
          simp only [e15, e17, e19] at hK ⊢
          go_simp
          exact hK _ _ (Below.refl _ _) (by simp [is, pick])
        · intro t wq hbq hh K hK
          have e15 := hh.1
          simp only [pick] at e15
          replace e15 : t 15 = (.bool true) := e15
          have e20 := hh.2.1
          simp only [pick] at e20
          replace e20 : t 20 = (.bool true) := e20
          clear hh
          simp only [filled, upd, Have, is, any, row, pick, Act.put, List.setIfInBounds_toArray, List.set_cons_zero, List.set_cons_succ, Nat.reduceAdd, Nat.reduceEqDiff, reduceIte] at hK ⊢
          simp only [e15, e20] at hK ⊢
          go_simp
          exact hK _ _ (Below.refl _ _) rfl
        · intro t wq hbq hh K hK
          have e21 := hh.1
          simp only [pick] at e21
          replace e21 : t 21 = (.bool true) := e21
          clear hh
          simp only [filled, upd, Have, is, any, row, pick, Act.put, List.setIfInBounds_toArray, List.set_cons_zero, List.set_cons_succ, Nat.reduceAdd, Nat.reduceEqDiff, reduceIte] at hK ⊢
          simp only [e21] at hK ⊢
          go_simp
          exact hK _ _ (Below.refl _ _) rfl
        · intro t wq hbq hh K hK
          have e22 := hh.1
          simp only [pick] at e22
          replace e22 : t 22 = (.bool true) := e22
          clear hh
          simp only [filled, upd, Have, is, any, row, pick, Act.put, List.setIfInBounds_toArray, List.set_cons_zero, List.set_cons_succ, Nat.reduceAdd, Nat.reduceEqDiff, reduceIte] at hK ⊢
          simp only [e22] at hK ⊢
          go_simp
          exact hK _ _ (Below.refl _ _) rfl
        · intro t wq hbq hh K hK
          have e22 := hh.1
          simp only [pick] at e22
          replace e22 : t 22 = (.bool true) := e22
          have e23 := hh.2.1
          simp only [pick] at e23
          replace e23 : t 23 = (.pointer (some ⟨w.heap.size, 10, none⟩)) := e23
          clear hh
          simp only [filled, upd, Have, is, any, row, pick, Act.put, List.setIfInBounds_toArray, List.set_cons_zero, List.set_cons_succ, Nat.reduceAdd, Nat.reduceEqDiff, reduceIte] at hK ⊢
          simp only [e22, e23] at hK ⊢
          have hx := (hbq.block _ hltu).trans HXu.out
          obtain ⟨c0, c1, c2, c3, c4, c5, c6, c7, c8, c9, c10, c11, c12⟩ := cells13 hx
          clear hx
          go_simp
          exact hK _ _ (Below.refl _ _) rfl
        · intro t wq hbq hh K hK
          have e22 := hh.1
          simp only [pick] at e22
          replace e22 : t 22 = (.bool true) := e22
          clear hh
          simp only [filled, upd, Have, is, any, row, pick, Act.put, List.setIfInBounds_toArray, List.set_cons_zero, List.set_cons_succ, Nat.reduceAdd, Nat.reduceEqDiff, reduceIte] at hK ⊢
          simp only [e22] at hK ⊢
          have hx := (hbq.block _ hltu).trans HXu.out
          obtain ⟨c0, c1, c2, c3, c4, c5, c6, c7, c8, c9, c10, c11, c12⟩ := cells13 hx
          clear hx
          go_simp
          exact hK _ _ (Below.refl _ _) rfl
        · intro t wq hbq hh K hK
          have e22 := hh.1
          simp only [pick] at e22
          replace e22 : t 22 = (.bool true) := e22
          clear hh
          simp only [filled, upd, Have, is, any, row, pick, Act.put, List.setIfInBounds_toArray, List.set_cons_zero, List.set_cons_succ, Nat.reduceAdd, Nat.reduceEqDiff, reduceIte] at hK ⊢
          simp only [e22] at hK ⊢
          have hx := (hbq.block _ hltx).trans HXx.out
          obtain ⟨c0, c1, c2, c3, c4, c5, c6, c7, c8, c9, c10, c11, c12⟩ := cells13 hx
          clear hx
          go_simp
          exact hK _ _ (Below.refl _ _) rfl
        · intro t wq hbq hh K hK
          have e22 := hh.1
          simp only [pick] at e22
          replace e22 : t 22 = (.bool true) := e22
          have e25 := hh.2.1
          simp only [pick] at e25
          replace e25 : t 25 = (.agg #[.string s0, .string s1, .string s2, .string s3, .bool b4, .int .i64 z5, .bool b6, .string s7, .slice A n cap, .bool b9, .bool b10, .string s11, .string s12]) := e25
          have e26 := hh.2.2.1
          simp only [pick] at e26
          replace e26 : t 26 = (.agg #[.string s0, .string s1, .string s2, .string s3, .bool b4, .int .i64 z5, .bool b6, .string s7, .slice A n cap, .bool b9, .bool false, .string s11, .string s12]) := e26
          clear hh
          simp only [filled, upd, Have, is, any, row, pick, Act.put, List.setIfInBounds_toArray, List.set_cons_zero, List.set_cons_succ, Nat.reduceAdd, Nat.reduceEqDiff, reduceIte] at hK ⊢
          simp only [e22, e25, e26] at hK ⊢
          go_simp
          refine (UrlF.same_any s0 s1 s2 s3 b4 z5 b6 s7 A n cap l b9 b10 s11 s12 s0 s1 s2 s3 b4 z5 b6 s7 A n cap l b9 false s11 s12 _ (HR.out.below (hbw.trans (hbq.mono hbw.size))) hnc hcm (HR.out.below (hbw.trans (hbq.mono hbw.size))) hnc hcm).mono ?_
          rintro e w5 ⟨rfl, hb5⟩
          rw [← HD.out]
          exact hK _ _ hb5 rfl
        · intro t wq hbq hh K hK
          have e22 := hh.1
          simp only [pick] at e22
          replace e22 : t 22 = (.bool true) := e22
          have e24 := hh.2.1
          simp only [pick] at e24
          replace e24 : t 24 = (.bool b10) := e24
          have e27 := hh.2.2.1
          simp only [pick] at e27
          replace e27 : t 27 = (.bool D) := e27
          clear hh
          simp only [filled, upd, Have, is, any, row, pick, Act.put, List.setIfInBounds_toArray, List.set_cons_zero, List.set_cons_succ, Nat.reduceAdd, Nat.reduceEqDiff, reduceIte] at hK ⊢
          simp only [e22, e24, e27] at hK ⊢
          go_simp
          exact hK _ _ (Below.refl _ _) (congrArg Value.bool HBD.out)
        · intro t wq hbq hh K hK
          have e22 := hh.1
          simp only [pick] at e22
          replace e22 : t 22 = (.bool true) := e22
          have e28 := hh.2.1
          simp only [pick] at e28
          replace e28 : t 28 = (.bool false) := e28
          clear hh
          simp only [filled, upd, Have, is, any, row, pick, Act.put, List.setIfInBounds_toArray, List.set_cons_zero, List.set_cons_succ, Nat.reduceAdd, Nat.reduceEqDiff, reduceIte] at hK ⊢
          simp only [e22, e28] at hK ⊢
          go_simp
          exact hK _ _ (Below.refl _ _) (by simp [is, pick])
        · intro t wq hbq hh K hK
          have e22 := hh.1
          simp only [pick] at e22
          replace e22 : t 22 = (.bool true) := e22
          have e29 := hh.2.1
          simp only [pick] at e29
          replace e29 : t 29 = (.bool true) := e29
          clear hh
          simp only [filled, upd, Have, is, any, row, pick, Act.put, List.setIfInBounds_toArray, List.set_cons_zero, List.set_cons_succ, Nat.reduceAdd, Nat.reduceEqDiff, reduceIte] at hK ⊢
          simp only [e22, e29] at hK ⊢
          go_simp
          exact hK _ _ (Below.refl _ _) rfl
        · intro t wq hbq hh K hK
          have e30 := hh.1
          simp only [pick] at e30
          replace e30 : t 30 = (.bool true) := e30
          clear hh
          simp only [filled, upd, Have, is, any, row, pick, Act.put, List.setIfInBounds_toArray, List.set_cons_zero, List.set_cons_succ, Nat.reduceAdd, Nat.reduceEqDiff, reduceIte] at hK ⊢
          simp only [e30] at hK ⊢
          go_simp
          exact hK _ _ (Below.refl _ _) rfl
      · intro t wq hbq hh
        have f31 := have_get hh 31 (by decide)
        simp only [pick] at f31
        replace f31 : t 31 = (.bool true) := f31
        clear hh
        simp only [filled, upd, Have, is, any, row, pick, Act.put, List.setIfInBounds_toArray, List.set_cons_zero, List.set_cons_succ, Nat.reduceAdd, Nat.reduceEqDiff, reduceIte]
        simp only [f31]
        go_wp2
        go_ret
        exact ⟨rfl, hbw.trans (hbq.mono hbw.size)⟩
    · have hbw := hbw3
      go_wp2_with fail
      refine (UrlW.awake_any _ (HT.out.below hbw)).mono ?_
      rintro e w4 ⟨rfl, hb4⟩
      go_wp2
      go_ret
      exact ⟨rfl, bel hbw hb4⟩
  | false =>
    have hbw := hbw3
    go_wp2_with fail
    refine (UrlW.awake_any _ (HT.out.below hbw)).mono ?_
    rintro e w4 ⟨rfl, hb4⟩
    go_wp2
    go_ret
    exact ⟨rfl, bel hbw hb4⟩
end Go.Proofs.YtofjngfeclmneaaDoor.Laws
