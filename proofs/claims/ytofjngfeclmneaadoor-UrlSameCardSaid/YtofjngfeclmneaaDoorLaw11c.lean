/- The walk of the law UrlSame: it returns true, whatever it is called with. -/
import Derived.Test.YtofjngfeclmneaaDoorUrlW
import Derived.Test.YtofjngfeclmneaaDoorUrlG
import Derived.Test.YtofjngfeclmneaaDoorUrlH
namespace Go.Proofs.YtofjngfeclmneaaDoor.Laws
open Go.RowKit Go.Proofs.YtofjngfeclmneaaDoor.Base Go.Proofs.YtofjngfeclmneaaDoor.Base2 Go.Proofs.YtofjngfeclmneaaDoor.UrlP Go.Proofs.YtofjngfeclmneaaDoor.UrlA Go.Proofs.YtofjngfeclmneaaDoor.UrlC Go.Proofs.YtofjngfeclmneaaDoor.UrlD Go.Proofs.YtofjngfeclmneaaDoor.Regs

set_option linter.unusedSimpArgs false in
set_option linter.unusedVariables false in
set_option maxRecDepth 100000 in
set_option maxHeartbeats 8000000 in
theorem UrlSame_any (as0 : ByteArray) (as1 : ByteArray) (as2 : ByteArray) (as3 : ByteArray) (ab4 : Bool) (az5 : Int) (ab6 : Bool) (as7 : ByteArray) (aA : Option Addr) (an acap : Nat) (al : List ByteArray) (ab9 : Bool) (ab10 : Bool) (as11 : ByteArray) (as12 : ByteArray) (bs0 : ByteArray) (bs1 : ByteArray) (bs2 : ByteArray) (bs3 : ByteArray) (bb4 : Bool) (bz5 : Int) (bb6 : Bool) (bs7 : ByteArray) (bA : Option Addr) (bn bcap : Nat) (bl : List ByteArray) (bb9 : Bool) (bb10 : Bool) (bs11 : ByteArray) (bs12 : ByteArray) (w : World) (ahs0 : as0.size ≤ 140737488351232) (ahs1 : as1.size ≤ 140737488351232) (ahs2 : as2.size ≤ 140737488351232) (ahs3 : as3.size ≤ 140737488351232) (ahz : -9223372036854775808 ≤ az5 ∧ az5 ≤ 9223372036854775807) (ahs7 : as7.size ≤ 140737488351232) (ahR : Rds w aA an (al.map Value.string)) (ahnc : an ≤ acap) (ahcm : acap ≤ maxLen) (ahel : ∀ s ∈ al, s.size ≤ 140737488351232) (ahs11 : as11.size ≤ 140737488351232) (ahs12 : as12.size ≤ 140737488351232) (bhs0 : bs0.size ≤ 140737488351232) (bhs1 : bs1.size ≤ 140737488351232) (bhs2 : bs2.size ≤ 140737488351232) (bhs3 : bs3.size ≤ 140737488351232) (bhz : -9223372036854775808 ≤ bz5 ∧ bz5 ≤ 9223372036854775807) (bhs7 : bs7.size ≤ 140737488351232) (bhR : Rds w bA bn (bl.map Value.string)) (bhnc : bn ≤ bcap) (bhcm : bcap ≤ maxLen) (bhel : ∀ s ∈ bl, s.size ≤ 140737488351232) (bhs11 : bs11.size ≤ 140737488351232) (bhs12 : bs12.size ≤ 140737488351232) (hT : Tab.Pow w) :
    Calls Tryd.prog 5 #[.agg #[.string as0, .string as1, .string as2, .string as3, .bool ab4, .int .i64 az5, .bool ab6, .string as7, .slice aA an acap, .bool ab9, .bool ab10, .string as11, .string as12], .agg #[.string bs0, .string bs1, .string bs2, .string bs3, .bool bb4, .int .i64 bz5, .bool bb6, .string bs7, .slice bA bn bcap, .bool bb9, .bool bb10, .string bs11, .string bs12]] w fun e w' => e = .returned (.bool true) ∧ Below w.heap.size w w' := by
  have HT := hid hT
  clear hT
  obtain ⟨aFB, ahFB⟩ : ∃ b, b = decide (fewN as0 as1 as2 as3 as7 as11 as12 al ≤ 1000 ∧ an ≤ 50) := ⟨_, rfl⟩
  have aHFB := hid ahFB
  have ahn : al.length = an := by rw [← ahR.1, List.length_map]
  have aHN := hid ahn
  have aHR := hid ahR
  have aHEL := hid ahel
  clear ahFB ahR ahel ahn
  obtain ⟨bFB, bhFB⟩ : ∃ b, b = decide (fewN bs0 bs1 bs2 bs3 bs7 bs11 bs12 bl ≤ 1000 ∧ bn ≤ 50) := ⟨_, rfl⟩
  have bHFB := hid bhFB
  have bhn : bl.length = bn := by rw [← bhR.1, List.length_map]
  have bHN := hid bhn
  have bHR := hid bhR
  have bHEL := hid bhel
  clear bhFB bhR bhel bhn
  obtain ⟨D, hD⟩ : ∃ X, X = decide (same1 as0 as1 as2 as3 ab4 az5 ab6 as7 al ab9 ab10 as11 as12 = same1 bs0 bs1 bs2 bs3 bb4 bz5 bb6 bs7 bl bb9 bb10 bs11 bs12) := ⟨_, rfl⟩
  have HD := hid hD
  have HD2 : Hid (decide (same1 bs0 bs1 bs2 bs3 bb4 bz5 bb6 bs7 bl bb9 bb10 bs11 bs12 = same1 as0 as1 as2 as3 ab4 az5 ab6 as7 al ab9 ab10 as11 as12) = D) := by show _ = _; rw [hD]; exact decide_eq_decide.2 ⟨Eq.symm, Eq.symm⟩
  clear hD
  go_enter Tryd.func5, Tryd.ntmps5
  go_upto_region 1 with (fail)
  generalize hw1 : (w.alloc _).alloc _ = w1
  have hb1 : Below w.heap.size w w1 := by rw [← hw1]; exact ((Below.refl _ _).alloc (Nat.le_refl _) _).alloc (by simp) _
  have HX1 : Hid (Box w1 w.heap.size #[.string as0, .string as1, .string as2, .string as3, .bool ab4, .int .i64 az5, .bool ab6, .string as7, .slice aA an acap, .bool ab9, .bool ab10, .string as11, .string as12]) := by show _ = _; rw [← hw1]; exact (Below.block ((Below.refl (w.heap.size + 1) _).alloc (by simp) _) w.heap.size (by omega)).trans (heap_alloc_new w _)
  have HX2 : Hid (Box w1 (w.heap.size + 1) #[.string bs0, .string bs1, .string bs2, .string bs3, .bool bb4, .int .i64 bz5, .bool bb6, .string bs7, .slice bA bn bcap, .bool bb9, .bool bb10, .string bs11, .string bs12]) := by show _ = _; rw [← hw1]; have := heap_alloc_new (w.alloc (.cells #[.string as0, .string as1, .string as2, .string as3, .bool ab4, .int .i64 az5, .bool ab6, .string as7, .slice aA an acap, .bool ab9, .bool ab10, .string as11, .string as12] 24)) (.cells #[.string bs0, .string bs1, .string bs2, .string bs3, .bool bb4, .int .i64 bz5, .bool bb6, .string bs7, .slice bA bn bcap, .bool bb9, .bool bb10, .string bs11, .string bs12] 24); simpa using this
  have hlt1 : w.heap.size + 1 < w1.heap.size := by rw [← hw1]; simp
  clear hw1
  go_wp2_with fail
  refine (UrlW.awake_any _ (HT.out.below hb1)).mono ?_
  rintro e w2 ⟨rfl, hb2⟩
  have HXa2 := hid (HX1.out.below hb2 (by omega))
  have HXb2 := hid (HX2.out.below hb2 hlt1)
  have hlt2 : w.heap.size + 1 < w2.heap.size := Nat.lt_of_lt_of_le hlt1 hb2.size
  have hbb2 := bel hb1 hb2
  obtain ⟨c0, c1, c2, c3, c4, c5, c6, c7, c8, c9, c10, c11, c12⟩ := cells13 HXa2.out
  go_wp2_with fail
  refine (few_any as0 as1 as2 as3 ab4 az5 ab6 as7 aA an acap al ab9 ab10 as11 as12 _ (aHR.out.below hbb2) ahnc ahcm ahs0 ahs1 ahs2 ahs3 ahs7 ahs11 ahs12 aHEL.out).mono ?_
  rintro e w3 ⟨rfl, hb3⟩
  rw [← aHFB.out]
  clear c0 c1 c2 c3 c4 c5 c6 c7 c8 c9 c10 c11 c12
  have HXa3 := hid (HXa2.out.below hb3 (by omega))
  have HXb3 := hid (HXb2.out.below hb3 hlt2)
  have hlt3 : w.heap.size + 1 < w3.heap.size := Nat.lt_of_lt_of_le hlt2 hb3.size
  have hbb3 := bel hbb2 hb3
  cases aFB with
  | true =>
    obtain ⟨c0, c1, c2, c3, c4, c5, c6, c7, c8, c9, c10, c11, c12⟩ := cells13 HXb3.out
    go_wp2_with fail
    refine (few_any bs0 bs1 bs2 bs3 bb4 bz5 bb6 bs7 bA bn bcap bl bb9 bb10 bs11 bs12 _ (bHR.out.below hbb3) bhnc bhcm bhs0 bhs1 bhs2 bhs3 bhs7 bhs11 bhs12 bHEL.out).mono ?_
    rintro e w6 ⟨rfl, hb6⟩
    rw [← bHFB.out]
    clear c0 c1 c2 c3 c4 c5 c6 c7 c8 c9 c10 c11 c12
    have HXa := hid (HXa3.out.below hb6 (by omega))
    have HXb := hid (HXb3.out.below hb6 hlt3)
    have hltw : w.heap.size + 1 < w6.heap.size := Nat.lt_of_lt_of_le hlt3 hb6.size
    have hbw := bel hbb3 hb6
    cases bFB with
    | true =>
      go_wp2_with fail
      refine wp_region_rel (by kernel_rfl) [is (.agg #[.string as0, .string as1, .string as2, .string as3, .bool ab4, .int .i64 az5, .bool ab6, .string as7, .slice aA an acap, .bool ab9, .bool ab10, .string as11, .string as12]), is (.agg #[.string bs0, .string bs1, .string bs2, .string bs3, .bool bb4, .int .i64 bz5, .bool bb6, .string bs7, .slice bA bn bcap, .bool bb9, .bool bb10, .string bs11, .string bs12]), is (.bool D), is (.agg #[.string as0, .string as1, .string as2, .string as3, .bool ab4, .int .i64 az5, .bool ab6, .string as7, .slice aA an acap, .bool ab9, .bool ab10, .string as11, .string as12]), is (.agg #[.string bs0, .string bs1, .string bs2, .string bs3, .bool bb4, .int .i64 bz5, .bool bb6, .string bs7, .slice bA bn bcap, .bool bb9, .bool bb10, .string bs11, .string bs12]), is (.bool D), is (.bool true), is (.bool true), is (.agg #[.string as0, .string as1, .string as2, .string as3, .bool ab4, .int .i64 az5, .bool ab6, .string as7, .slice aA an acap, .bool ab9, .bool ab10, .string as11, .string as12]), is (.agg #[.string as0, .string as1, .string as2, .string as3, .bool ab4, .int .i64 az5, .bool ab6, .string as7, .slice aA an acap, .bool ab9, .bool ab10, .string as11, .string as12]), is (.bool true), is (.bool true), is (.bool true), is (.agg #[.string as0, .string as1, .string as2, .string as3, .bool ab4, .int .i64 az5, .bool ab6, .string as7, .slice aA an acap, .bool ab9, .bool ab10, .string as11, .string as12]), is (.agg #[.string bs0, .string bs1, .string bs2, .string bs3, .bool bb4, .int .i64 bz5, .bool bb6, .string bs7, .slice bA bn bcap, .bool bb9, .bool bb10, .string bs11, .string bs12]), is (.bool D), is (.agg #[.string bs0, .string bs1, .string bs2, .string bs3, .bool bb4, .int .i64 bz5, .bool bb6, .string bs7, .slice bA bn bcap, .bool bb9, .bool bb10, .string bs11, .string bs12]), is (.agg #[.string as0, .string as1, .string as2, .string as3, .bool ab4, .int .i64 az5, .bool ab6, .string as7, .slice aA an acap, .bool ab9, .bool ab10, .string as11, .string as12]), is (.bool D), is (.bool true), is (.bool true), is (.bool true)] [[], [], [0, 1], [], [], [3, 4], [2, 5], [6], [7], [7], [7, 8, 9], [7, 10], [11], [12], [12], [12, 13, 14], [12], [12], [12, 16, 17], [12, 15, 18], [12, 19], [20]] (by kernel_rfl) ?_ ?_
      · refine ⟨?_, ?_, ?_, ?_, ?_, ?_, ?_, ?_, ?_, ?_, ?_, ?_, ?_, ?_, ?_, ?_, ?_, ?_, ?_, ?_, ?_, ?_, trivial⟩
        · intro t wq hbq hh K hK
          clear hh
          simp only [filled, upd, Have, is, any, row, pick, Act.put, List.setIfInBounds_toArray, List.set_cons_zero, List.set_cons_succ, Nat.reduceAdd, Nat.reduceEqDiff, reduceIte] at hK ⊢
          have hx := (hbq.block _ (by omega)).trans HXa.out
          obtain ⟨c0, c1, c2, c3, c4, c5, c6, c7, c8, c9, c10, c11, c12⟩ := cells13 hx
          clear hx
          go_simp
          exact hK _ _ (Below.refl _ _) rfl
        · intro t wq hbq hh K hK
          clear hh
          simp only [filled, upd, Have, is, any, row, pick, Act.put, List.setIfInBounds_toArray, List.set_cons_zero, List.set_cons_succ, Nat.reduceAdd, Nat.reduceEqDiff, reduceIte] at hK ⊢
          have hx := (hbq.block _ hltw).trans HXb.out
          obtain ⟨c0, c1, c2, c3, c4, c5, c6, c7, c8, c9, c10, c11, c12⟩ := cells13 hx
          clear hx
          go_simp
          exact hK _ _ (Below.refl _ _) rfl
        · intro t wq hbq hh K hK
          have e0 := hh.1
          simp only [pick] at e0
          replace e0 : t 0 = (.agg #[.string as0, .string as1, .string as2, .string as3, .bool ab4, .int .i64 az5, .bool ab6, .string as7, .slice aA an acap, .bool ab9, .bool ab10, .string as11, .string as12]) := e0
          have e1 := hh.2.1
          simp only [pick] at e1
          replace e1 : t 1 = (.agg #[.string bs0, .string bs1, .string bs2, .string bs3, .bool bb4, .int .i64 bz5, .bool bb6, .string bs7, .slice bA bn bcap, .bool bb9, .bool bb10, .string bs11, .string bs12]) := e1
          clear hh
          simp only [filled, upd, Have, is, any, row, pick, Act.put, List.setIfInBounds_toArray, List.set_cons_zero, List.set_cons_succ, Nat.reduceAdd, Nat.reduceEqDiff, reduceIte] at hK ⊢
          simp only [e0, e1] at hK ⊢
          go_simp
          refine (UrlF.same_any as0 as1 as2 as3 ab4 az5 ab6 as7 aA an acap al ab9 ab10 as11 as12 bs0 bs1 bs2 bs3 bb4 bz5 bb6 bs7 bA bn bcap bl bb9 bb10 bs11 bs12 _ (aHR.out.below (hbw.trans (hbq.mono hbw.size))) ahnc ahcm (bHR.out.below (hbw.trans (hbq.mono hbw.size))) bhnc bhcm).mono ?_
          rintro e w5 ⟨rfl, hb5⟩
          rw [← HD.out]
          exact hK _ _ hb5 rfl
        · intro t wq hbq hh K hK
          clear hh
          simp only [filled, upd, Have, is, any, row, pick, Act.put, List.setIfInBounds_toArray, List.set_cons_zero, List.set_cons_succ, Nat.reduceAdd, Nat.reduceEqDiff, reduceIte] at hK ⊢
          have hx := (hbq.block _ (by omega)).trans HXa.out
          obtain ⟨c0, c1, c2, c3, c4, c5, c6, c7, c8, c9, c10, c11, c12⟩ := cells13 hx
          clear hx
          go_simp
          exact hK _ _ (Below.refl _ _) rfl
        · intro t wq hbq hh K hK
          clear hh
          simp only [filled, upd, Have, is, any, row, pick, Act.put, List.setIfInBounds_toArray, List.set_cons_zero, List.set_cons_succ, Nat.reduceAdd, Nat.reduceEqDiff, reduceIte] at hK ⊢
          have hx := (hbq.block _ hltw).trans HXb.out
          obtain ⟨c0, c1, c2, c3, c4, c5, c6, c7, c8, c9, c10, c11, c12⟩ := cells13 hx
          clear hx
          go_simp
          exact hK _ _ (Below.refl _ _) rfl
        · intro t wq hbq hh K hK
          have e3 := hh.1
          simp only [pick] at e3
          replace e3 : t 3 = (.agg #[.string as0, .string as1, .string as2, .string as3, .bool ab4, .int .i64 az5, .bool ab6, .string as7, .slice aA an acap, .bool ab9, .bool ab10, .string as11, .string as12]) := e3
          have e4 := hh.2.1
          simp only [pick] at e4
          replace e4 : t 4 = (.agg #[.string bs0, .string bs1, .string bs2, .string bs3, .bool bb4, .int .i64 bz5, .bool bb6, .string bs7, .slice bA bn bcap, .bool bb9, .bool bb10, .string bs11, .string bs12]) := e4
          clear hh
          simp only [filled, upd, Have, is, any, row, pick, Act.put, List.setIfInBounds_toArray, List.set_cons_zero, List.set_cons_succ, Nat.reduceAdd, Nat.reduceEqDiff, reduceIte] at hK ⊢
          simp only [e3, e4] at hK ⊢
          go_simp
          refine (UrlG.refSame_any as0 as1 as2 as3 ab4 az5 ab6 as7 aA an acap al ab9 ab10 as11 as12 bs0 bs1 bs2 bs3 bb4 bz5 bb6 bs7 bA bn bcap bl bb9 bb10 bs11 bs12 _ (aHR.out.below (hbw.trans (hbq.mono hbw.size))) ahnc ahcm (bHR.out.below (hbw.trans (hbq.mono hbw.size))) bhnc bhcm).mono ?_
          rintro e w5 ⟨rfl, hb5⟩
          rw [← HD.out]
          exact hK _ _ hb5 rfl
        · intro t wq hbq hh K hK
          have e2 := hh.1
          simp only [pick] at e2
          replace e2 : t 2 = (.bool D) := e2
          have e5 := hh.2.1
          simp only [pick] at e5
          replace e5 : t 5 = (.bool D) := e5
          clear hh
          simp only [filled, upd, Have, is, any, row, pick, Act.put, List.setIfInBounds_toArray, List.set_cons_zero, List.set_cons_succ, Nat.reduceAdd, Nat.reduceEqDiff, reduceIte] at hK ⊢
          simp only [e2, e5] at hK ⊢
          go_simp
          exact hK _ _ (Below.refl _ _) (by simp [is, pick])
        · intro t wq hbq hh K hK
          have e6 := hh.1
          simp only [pick] at e6
          replace e6 : t 6 = (.bool true) := e6
          clear hh
          simp only [filled, upd, Have, is, any, row, pick, Act.put, List.setIfInBounds_toArray, List.set_cons_zero, List.set_cons_succ, Nat.reduceAdd, Nat.reduceEqDiff, reduceIte] at hK ⊢
          simp only [e6] at hK ⊢
          go_simp
          exact hK _ _ (Below.refl _ _) rfl
        · intro t wq hbq hh K hK
          have e7 := hh.1
          simp only [pick] at e7
          replace e7 : t 7 = (.bool true) := e7
          clear hh
          simp only [filled, upd, Have, is, any, row, pick, Act.put, List.setIfInBounds_toArray, List.set_cons_zero, List.set_cons_succ, Nat.reduceAdd, Nat.reduceEqDiff, reduceIte] at hK ⊢
          simp only [e7] at hK ⊢
          have hx := (hbq.block _ (by omega)).trans HXa.out
          obtain ⟨c0, c1, c2, c3, c4, c5, c6, c7, c8, c9, c10, c11, c12⟩ := cells13 hx
          clear hx
          go_simp
          exact hK _ _ (Below.refl _ _) rfl
        · intro t wq hbq hh K hK
          have e7 := hh.1
          simp only [pick] at e7
          replace e7 : t 7 = (.bool true) := e7
          clear hh
          simp only [filled, upd, Have, is, any, row, pick, Act.put, List.setIfInBounds_toArray, List.set_cons_zero, List.set_cons_succ, Nat.reduceAdd, Nat.reduceEqDiff, reduceIte] at hK ⊢
          simp only [e7] at hK ⊢
          have hx := (hbq.block _ (by omega)).trans HXa.out
          obtain ⟨c0, c1, c2, c3, c4, c5, c6, c7, c8, c9, c10, c11, c12⟩ := cells13 hx
          clear hx
          go_simp
          exact hK _ _ (Below.refl _ _) rfl
        · intro t wq hbq hh K hK
          have e7 := hh.1
          simp only [pick] at e7
          replace e7 : t 7 = (.bool true) := e7
          have e8 := hh.2.1
          simp only [pick] at e8
          replace e8 : t 8 = (.agg #[.string as0, .string as1, .string as2, .string as3, .bool ab4, .int .i64 az5, .bool ab6, .string as7, .slice aA an acap, .bool ab9, .bool ab10, .string as11, .string as12]) := e8
          have e9 := hh.2.2.1
          simp only [pick] at e9
          replace e9 : t 9 = (.agg #[.string as0, .string as1, .string as2, .string as3, .bool ab4, .int .i64 az5, .bool ab6, .string as7, .slice aA an acap, .bool ab9, .bool ab10, .string as11, .string as12]) := e9
          clear hh
          simp only [filled, upd, Have, is, any, row, pick, Act.put, List.setIfInBounds_toArray, List.set_cons_zero, List.set_cons_succ, Nat.reduceAdd, Nat.reduceEqDiff, reduceIte] at hK ⊢
          simp only [e7, e8, e9] at hK ⊢
          go_simp
          refine (UrlF.same_any as0 as1 as2 as3 ab4 az5 ab6 as7 aA an acap al ab9 ab10 as11 as12 as0 as1 as2 as3 ab4 az5 ab6 as7 aA an acap al ab9 ab10 as11 as12 _ (aHR.out.below (hbw.trans (hbq.mono hbw.size))) ahnc ahcm (aHR.out.below (hbw.trans (hbq.mono hbw.size))) ahnc ahcm).mono ?_
          rintro e w5 ⟨rfl, hb5⟩
          rw [decide_eq_true rfl]
          exact hK _ _ hb5 rfl
        · intro t wq hbq hh K hK
          have e7 := hh.1
          simp only [pick] at e7
          replace e7 : t 7 = (.bool true) := e7
          have e10 := hh.2.1
          simp only [pick] at e10
          replace e10 : t 10 = (.bool true) := e10
          clear hh
          simp only [filled, upd, Have, is, any, row, pick, Act.put, List.setIfInBounds_toArray, List.set_cons_zero, List.set_cons_succ, Nat.reduceAdd, Nat.reduceEqDiff, reduceIte] at hK ⊢
          simp only [e7, e10] at hK ⊢
          go_simp
          exact hK _ _ (Below.refl _ _) rfl
        · intro t wq hbq hh K hK
          have e11 := hh.1
          simp only [pick] at e11
          replace e11 : t 11 = (.bool true) := e11
          clear hh
          simp only [filled, upd, Have, is, any, row, pick, Act.put, List.setIfInBounds_toArray, List.set_cons_zero, List.set_cons_succ, Nat.reduceAdd, Nat.reduceEqDiff, reduceIte] at hK ⊢
          simp only [e11] at hK ⊢
          go_simp
          exact hK _ _ (Below.refl _ _) rfl
        · intro t wq hbq hh K hK
          have e12 := hh.1
          simp only [pick] at e12
          replace e12 : t 12 = (.bool true) := e12
          clear hh
          simp only [filled, upd, Have, is, any, row, pick, Act.put, List.setIfInBounds_toArray, List.set_cons_zero, List.set_cons_succ, Nat.reduceAdd, Nat.reduceEqDiff, reduceIte] at hK ⊢
          simp only [e12] at hK ⊢
          have hx := (hbq.block _ (by omega)).trans HXa.out
          obtain ⟨c0, c1, c2, c3, c4, c5, c6, c7, c8, c9, c10, c11, c12⟩ := cells13 hx
          clear hx
          go_simp
          exact hK _ _ (Below.refl _ _) rfl
        · intro t wq hbq hh K hK
          have e12 := hh.1
          simp only [pick] at e12
          replace e12 : t 12 = (.bool true) := e12
          clear hh
          simp only [filled, upd, Have, is, any, row, pick, Act.put, List.setIfInBounds_toArray, List.set_cons_zero, List.set_cons_succ, Nat.reduceAdd, Nat.reduceEqDiff, reduceIte] at hK ⊢
          simp only [e12] at hK ⊢
          have hx := (hbq.block _ hltw).trans HXb.out
          obtain ⟨c0, c1, c2, c3, c4, c5, c6, c7, c8, c9, c10, c11, c12⟩ := cells13 hx
          clear hx
          go_simp
          exact hK _ _ (Below.refl _ _) rfl
        · intro t wq hbq hh K hK
          have e12 := hh.1
          simp only [pick] at e12
          replace e12 : t 12 = (.bool true) := e12
          have e13 := hh.2.1
          simp only [pick] at e13
          replace e13 : t 13 = (.agg #[.string as0, .string as1, .string as2, .string as3, .bool ab4, .int .i64 az5, .bool ab6, .string as7, .slice aA an acap, .bool ab9, .bool ab10, .string as11, .string as12]) := e13
          have e14 := hh.2.2.1
          simp only [pick] at e14
          replace e14 : t 14 = (.agg #[.string bs0, .string bs1, .string bs2, .string bs3, .bool bb4, .int .i64 bz5, .bool bb6, .string bs7, .slice bA bn bcap, .bool bb9, .bool bb10, .string bs11, .string bs12]) := e14
          clear hh
          simp only [filled, upd, Have, is, any, row, pick, Act.put, List.setIfInBounds_toArray, List.set_cons_zero, List.set_cons_succ, Nat.reduceAdd, Nat.reduceEqDiff, reduceIte] at hK ⊢
          simp only [e12, e13, e14] at hK ⊢
          go_simp
          refine (UrlF.same_any as0 as1 as2 as3 ab4 az5 ab6 as7 aA an acap al ab9 ab10 as11 as12 bs0 bs1 bs2 bs3 bb4 bz5 bb6 bs7 bA bn bcap bl bb9 bb10 bs11 bs12 _ (aHR.out.below (hbw.trans (hbq.mono hbw.size))) ahnc ahcm (bHR.out.below (hbw.trans (hbq.mono hbw.size))) bhnc bhcm).mono ?_
          rintro e w5 ⟨rfl, hb5⟩
          rw [← HD.out]
          exact hK _ _ hb5 rfl
        · intro t wq hbq hh K hK
          have e12 := hh.1
          simp only [pick] at e12
          replace e12 : t 12 = (.bool true) := e12
          clear hh
          simp only [filled, upd, Have, is, any, row, pick, Act.put, List.setIfInBounds_toArray, List.set_cons_zero, List.set_cons_succ, Nat.reduceAdd, Nat.reduceEqDiff, reduceIte] at hK ⊢
          simp only [e12] at hK ⊢
          have hx := (hbq.block _ hltw).trans HXb.out
          obtain ⟨c0, c1, c2, c3, c4, c5, c6, c7, c8, c9, c10, c11, c12⟩ := cells13 hx
          clear hx
          go_simp
          exact hK _ _ (Below.refl _ _) rfl
        · intro t wq hbq hh K hK
          have e12 := hh.1
          simp only [pick] at e12
          replace e12 : t 12 = (.bool true) := e12
          clear hh
          simp only [filled, upd, Have, is, any, row, pick, Act.put, List.setIfInBounds_toArray, List.set_cons_zero, List.set_cons_succ, Nat.reduceAdd, Nat.reduceEqDiff, reduceIte] at hK ⊢
          simp only [e12] at hK ⊢
          have hx := (hbq.block _ (by omega)).trans HXa.out
          obtain ⟨c0, c1, c2, c3, c4, c5, c6, c7, c8, c9, c10, c11, c12⟩ := cells13 hx
          clear hx
          go_simp
          exact hK _ _ (Below.refl _ _) rfl
        · intro t wq hbq hh K hK
          have e12 := hh.1
          simp only [pick] at e12
          replace e12 : t 12 = (.bool true) := e12
          have e16 := hh.2.1
          simp only [pick] at e16
          replace e16 : t 16 = (.agg #[.string bs0, .string bs1, .string bs2, .string bs3, .bool bb4, .int .i64 bz5, .bool bb6, .string bs7, .slice bA bn bcap, .bool bb9, .bool bb10, .string bs11, .string bs12]) := e16
          have e17 := hh.2.2.1
          simp only [pick] at e17
          replace e17 : t 17 = (.agg #[.string as0, .string as1, .string as2, .string as3, .bool ab4, .int .i64 az5, .bool ab6, .string as7, .slice aA an acap, .bool ab9, .bool ab10, .string as11, .string as12]) := e17
          clear hh
          simp only [filled, upd, Have, is, any, row, pick, Act.put, List.setIfInBounds_toArray, List.set_cons_zero, List.set_cons_succ, Nat.reduceAdd, Nat.reduceEqDiff, reduceIte] at hK ⊢
          simp only [e12, e16, e17] at hK ⊢
          go_simp
          refine (UrlF.same_any bs0 bs1 bs2 bs3 bb4 bz5 bb6 bs7 bA bn bcap bl bb9 bb10 bs11 bs12 as0 as1 as2 as3 ab4 az5 ab6 as7 aA an acap al ab9 ab10 as11 as12 _ (bHR.out.below (hbw.trans (hbq.mono hbw.size))) bhnc bhcm (aHR.out.below (hbw.trans (hbq.mono hbw.size))) ahnc ahcm).mono ?_
          rintro e w5 ⟨rfl, hb5⟩
          rw [HD2.out]
          exact hK _ _ hb5 rfl
        · intro t wq hbq hh K hK
          have e12 := hh.1
          simp only [pick] at e12
          replace e12 : t 12 = (.bool true) := e12
          have e15 := hh.2.1
          simp only [pick] at e15
          replace e15 : t 15 = (.bool D) := e15
          have e18 := hh.2.2.1
          simp only [pick] at e18
          replace e18 : t 18 = (.bool D) := e18
          clear hh
          simp only [filled, upd, Have, is, any, row, pick, Act.put, List.setIfInBounds_toArray, List.set_cons_zero, List.set_cons_succ, Nat.reduceAdd, Nat.reduceEqDiff, reduceIte] at hK ⊢
          simp only [e12, e15, e18] at hK ⊢
          go_simp
          exact hK _ _ (Below.refl _ _) (by simp [is, pick])
        · intro t wq hbq hh K hK
          have e12 := hh.1
          simp only [pick] at e12
          replace e12 : t 12 = (.bool true) := e12
          have e19 := hh.2.1
          simp only [pick] at e19
          replace e19 : t 19 = (.bool true) := e19
          clear hh
          simp only [filled, upd, Have, is, any, row, pick, Act.put, List.setIfInBounds_toArray, List.set_cons_zero, List.set_cons_succ, Nat.reduceAdd, Nat.reduceEqDiff, reduceIte] at hK ⊢
          simp only [e12, e19] at hK ⊢
          go_simp
          exact hK _ _ (Below.refl _ _) rfl
        · intro t wq hbq hh K hK
          have e20 := hh.1
          simp only [pick] at e20
          replace e20 : t 20 = (.bool true) := e20
          clear hh
          simp only [filled, upd, Have, is, any, row, pick, Act.put, List.setIfInBounds_toArray, List.set_cons_zero, List.set_cons_succ, Nat.reduceAdd, Nat.reduceEqDiff, reduceIte] at hK ⊢
          simp only [e20] at hK ⊢
          go_simp
          exact hK _ _ (Below.refl _ _) rfl
      · intro t wq hbq hh
        have f21 := have_get hh 21 (by decide)
        simp only [pick] at f21
        replace f21 : t 21 = (.bool true) := f21
        clear hh
        simp only [filled, upd, Have, is, any, row, pick, Act.put, List.setIfInBounds_toArray, List.set_cons_zero, List.set_cons_succ, Nat.reduceAdd, Nat.reduceEqDiff, reduceIte]
        simp only [f21]
        go_wp2
        go_ret
        exact ⟨rfl, hbw.trans (hbq.mono hbw.size)⟩
    | false =>
      go_wp2_with fail
      refine (UrlW.awake_any _ (HT.out.below hbw)).mono ?_
      rintro e w4 ⟨rfl, hb4⟩
      go_wp2
      go_ret
      exact ⟨rfl, bel hbw hb4⟩
  | false =>
    have hbw := hbb3
    go_wp2_with fail
    refine (UrlW.awake_any _ (HT.out.below hbw)).mono ?_
    rintro e w4 ⟨rfl, hb4⟩
    go_wp2
    go_ret
    exact ⟨rfl, bel hbw hb4⟩
end Go.Proofs.YtofjngfeclmneaaDoor.Laws
