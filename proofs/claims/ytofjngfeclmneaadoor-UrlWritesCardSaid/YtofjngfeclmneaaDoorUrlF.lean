/- URLs: url.Same, and the document's. -/
import Derived.Test.YtofjngfeclmneaaDoorUrlE
import Derived.Test.YtofjngfeclmneaaDoorRegl
import Derived.Deep.DeepCutAuto
namespace Go.Proofs.YtofjngfeclmneaaDoor.UrlF
open Go.RowKit Go.Proofs.YtofjngfeclmneaaDoor.Base Go.Proofs.YtofjngfeclmneaaDoor.Base2 Go.Proofs.YtofjngfeclmneaaDoor.UrlP Go.Proofs.YtofjngfeclmneaaDoor.UrlA Go.Proofs.YtofjngfeclmneaaDoor.UrlE Go.Proofs.YtofjngfeclmneaaDoor.Regs

/-- What must be alike. -/
theorem same_iff (as0 : ByteArray) (as1 : ByteArray) (as2 : ByteArray) (as3 : ByteArray) (ab4 : Bool) (az5 : Int) (ab6 : Bool) (as7 : ByteArray) (aA : Option Addr) (an acap : Nat) (al : List ByteArray) (ab9 : Bool) (ab10 : Bool) (as11 : ByteArray) (as12 : ByteArray) (bs0 : ByteArray) (bs1 : ByteArray) (bs2 : ByteArray) (bs3 : ByteArray) (bb4 : Bool) (bz5 : Int) (bb6 : Bool) (bs7 : ByteArray) (bA : Option Addr) (bn bcap : Nat) (bl : List ByteArray) (bb9 : Bool) (bb10 : Bool) (bs11 : ByteArray) (bs12 : ByteArray) : same1 as0 as1 as2 as3 ab4 az5 ab6 as7 al ab9 ab10 as11 as12 = same1 bs0 bs1 bs2 bs3 bb4 bz5 bb6 bs7 bl bb9 bb10 bs11 bs12 ↔ (as0.data.toList = bs0.data.toList ∧ as1.data.toList = bs1.data.toList ∧ as2.data.toList = bs2.data.toList ∧ az5 = bz5 ∧ txt ab4 as3 = txt bb4 bs3 ∧ spB ab6 bb6 as7 bs7 al bl = true ∧ txt ab9 as11 = txt bb9 bs11 ∧ txt ab10 as12 = txt bb10 bs12) := by
  unfold same1
  simp only [Prod.mk.injEq, List.cons.injEq, Option.some.injEq, and_true]
  cases ab6 <;> cases bb6 <;> simp [spB, txt] <;> constructor <;> (intro h; simp [h])
def Bx (w : World) (b : Nat) (c : Array Value) : Prop := w.heap[b]? = some (.cells c 24 (0, 0))
theorem Bx.cell {w : World} {b : Nat} {c : Array Value} (h : Bx w b c) (i : Nat) : w.cell? ⟨b, i, none⟩ = c[i]? := cell_of_row w b i _ _ _ h
theorem cells13 {w : World} {b : Nat} {v0 v1 v2 v3 v4 v5 v6 v7 v8 v9 v10 v11 v12 : Value} (h : Bx w b #[v0, v1, v2, v3, v4, v5, v6, v7, v8, v9, v10, v11, v12]) :
    w.cell? ⟨b, 0, none⟩ = some v0 ∧ w.cell? ⟨b, 1, none⟩ = some v1 ∧ w.cell? ⟨b, 2, none⟩ = some v2 ∧ w.cell? ⟨b, 3, none⟩ = some v3 ∧ w.cell? ⟨b, 4, none⟩ = some v4 ∧ w.cell? ⟨b, 5, none⟩ = some v5 ∧ w.cell? ⟨b, 6, none⟩ = some v6 ∧ w.cell? ⟨b, 7, none⟩ = some v7 ∧ w.cell? ⟨b, 8, none⟩ = some v8 ∧ w.cell? ⟨b, 9, none⟩ = some v9 ∧ w.cell? ⟨b, 10, none⟩ = some v10 ∧ w.cell? ⟨b, 11, none⟩ = some v11 ∧ w.cell? ⟨b, 12, none⟩ = some v12 :=
  ⟨(h.cell 0).trans rfl, (h.cell 1).trans rfl, (h.cell 2).trans rfl, (h.cell 3).trans rfl, (h.cell 4).trans rfl, (h.cell 5).trans rfl, (h.cell 6).trans rfl, (h.cell 7).trans rfl, (h.cell 8).trans rfl, (h.cell 9).trans rfl, (h.cell 10).trans rfl, (h.cell 11).trans rfl, (h.cell 12).trans rfl⟩
set_option linter.unusedSimpArgs false in
set_option maxRecDepth 100000 in
set_option maxHeartbeats 16000000 in
theorem same_any (as0 : ByteArray) (as1 : ByteArray) (as2 : ByteArray) (as3 : ByteArray) (ab4 : Bool) (az5 : Int) (ab6 : Bool) (as7 : ByteArray) (aA : Option Addr) (an acap : Nat) (al : List ByteArray) (ab9 : Bool) (ab10 : Bool) (as11 : ByteArray) (as12 : ByteArray) (bs0 : ByteArray) (bs1 : ByteArray) (bs2 : ByteArray) (bs3 : ByteArray) (bb4 : Bool) (bz5 : Int) (bb6 : Bool) (bs7 : ByteArray) (bA : Option Addr) (bn bcap : Nat) (bl : List ByteArray) (bb9 : Bool) (bb10 : Bool) (bs11 : ByteArray) (bs12 : ByteArray) (w : World) (ahR : Rds w aA an (al.map Value.string)) (ahnc : an ≤ acap) (ahcm : acap ≤ maxLen) (bhR : Rds w bA bn (bl.map Value.string)) (bhnc : bn ≤ bcap) (bhcm : bcap ≤ maxLen) :
    Calls Tryd.prog 17 #[.agg #[.string as0, .string as1, .string as2, .string as3, .bool ab4, .int .i64 az5, .bool ab6, .string as7, .slice aA an acap, .bool ab9, .bool ab10, .string as11, .string as12], .agg #[.string bs0, .string bs1, .string bs2, .string bs3, .bool bb4, .int .i64 bz5, .bool bb6, .string bs7, .slice bA bn bcap, .bool bb9, .bool bb10, .string bs11, .string bs12]] w fun e w' => e = .returned (.bool (decide (same1 as0 as1 as2 as3 ab4 az5 ab6 as7 al ab9 ab10 as11 as12 = same1 bs0 bs1 bs2 bs3 bb4 bz5 bb6 bs7 bl bb9 bb10 bs11 bs12))) ∧ Below w.heap.size w w' := by
  have HI := hid (same_iff as0 as1 as2 as3 ab4 az5 ab6 as7 aA an acap al ab9 ab10 as11 as12 bs0 bs1 bs2 bs3 bb4 bz5 bb6 bs7 bA bn bcap bl bb9 bb10 bs11 bs12)
  obtain ⟨E, hE⟩ : ∃ E, E = decide (same1 as0 as1 as2 as3 ab4 az5 ab6 as7 al ab9 ab10 as11 as12 = same1 bs0 bs1 bs2 bs3 bb4 bz5 bb6 bs7 bl bb9 bb10 bs11 bs12) := ⟨_, rfl⟩
  rw [← hE]
  have HR := hid ahR
  have HR2 := hid bhR
  clear ahR bhR
  obtain ⟨o0, ho0⟩ : ∃ o, o = (as0.toList == bs0.toList) := ⟨_, rfl⟩
  obtain ⟨o1, ho1⟩ : ∃ o, o = (as1.toList == bs1.toList) := ⟨_, rfl⟩
  obtain ⟨o2, ho2⟩ : ∃ o, o = (as2.toList == bs2.toList) := ⟨_, rfl⟩
  obtain ⟨o3, ho3⟩ : ∃ o, o = (az5 == bz5) := ⟨_, rfl⟩
  obtain ⟨o4, ho4⟩ : ∃ o, o = decide (txt ab4 as3 = txt bb4 bs3) := ⟨_, rfl⟩
  obtain ⟨o5, ho5⟩ : ∃ o, o = spB ab6 bb6 as7 bs7 al bl := ⟨_, rfl⟩
  obtain ⟨o6, ho6⟩ : ∃ o, o = decide (txt ab9 as11 = txt bb9 bs11) := ⟨_, rfl⟩
  obtain ⟨o7, ho7⟩ : ∃ o, o = decide (txt ab10 as12 = txt bb10 bs12) := ⟨_, rfl⟩
  obtain ⟨c1, hc1⟩ : ∃ c, c = (o0 && o1) := ⟨_, rfl⟩
  obtain ⟨c2, hc2⟩ : ∃ c, c = (c1 && o2) := ⟨_, rfl⟩
  obtain ⟨c3, hc3⟩ : ∃ c, c = (c2 && o3) := ⟨_, rfl⟩
  obtain ⟨c4, hc4⟩ : ∃ c, c = (c3 && o4) := ⟨_, rfl⟩
  obtain ⟨c5, hc5⟩ : ∃ c, c = (c4 && o5) := ⟨_, rfl⟩
  obtain ⟨c6, hc6⟩ : ∃ c, c = (c5 && o6) := ⟨_, rfl⟩
  obtain ⟨c7, hc7⟩ : ∃ c, c = (c6 && o7) := ⟨_, rfl⟩
  have HE : Hid (E = c7) := by
    show E = c7
    rw [hE, hc7, hc6, hc5, hc4, hc3, hc2, hc1, Bool.eq_iff_iff, decide_eq_true_iff, HI.out]
    simp only [Bool.and_eq_true, and_assoc]
    rw [ho0, ho1, ho2, ho3, ho4, ho5, ho6, ho7, beq_str, beq_str, beq_str]
    simp
  have HQ0 := hid ho0.symm
  have HQ1 := hid ho1.symm
  have HQ2 := hid ho2.symm
  have HQ3 := hid ho3.symm
  have H4 := hid ho4
  have H5 := hid ho5
  have H6 := hid ho6
  have H7 := hid ho7
  have HC1 := hid hc1
  have HC2 := hid hc2
  have HC3 := hid hc3
  have HC4 := hid hc4
  have HC5 := hid hc5
  have HC6 := hid hc6
  have HC7 := hid hc7
  clear ho0 ho1 ho2 ho3 ho4 ho5 ho6 ho7 hc1 hc2 hc3 hc4 hc5 hc6 hc7 hE HI
  have HBL : Hid (Below w.heap.size w ((w.alloc (.cells #[.string as0, .string as1, .string as2, .string as3, .bool ab4, .int .i64 az5, .bool ab6, .string as7, .slice aA an acap, .bool ab9, .bool ab10, .string as11, .string as12] 24)).alloc (.cells #[.string bs0, .string bs1, .string bs2, .string bs3, .bool bb4, .int .i64 bz5, .bool bb6, .string bs7, .slice bA bn bcap, .bool bb9, .bool bb10, .string bs11, .string bs12] 24))) := (((Below.refl _ _).alloc (Nat.le_refl _) _).alloc (by simp) _)
  go_enter Tryd.func17, Tryd.ntmps17
  go_upto_region 1 with (fail)
  generalize hw0 : (w.alloc _).alloc _ = w0
  have HB0 : Hid (Below w.heap.size w w0) := by rw [← hw0]; exact HBL.out
  have HX1 : Hid (Bx w0 w.heap.size #[.string as0, .string as1, .string as2, .string as3, .bool ab4, .int .i64 az5, .bool ab6, .string as7, .slice aA an acap, .bool ab9, .bool ab10, .string as11, .string as12]) := by show _ = _; rw [← hw0]; exact (Below.block ((Below.refl (w.heap.size + 1) _).alloc (by simp) _) w.heap.size (by omega)).trans (heap_alloc_new w _)
  have HX2 : Hid (Bx w0 (w.heap.size + 1) #[.string bs0, .string bs1, .string bs2, .string bs3, .bool bb4, .int .i64 bz5, .bool bb6, .string bs7, .slice bA bn bcap, .bool bb9, .bool bb10, .string bs11, .string bs12]) := by show _ = _; rw [← hw0]; have := heap_alloc_new (w.alloc (.cells #[.string as0, .string as1, .string as2, .string as3, .bool ab4, .int .i64 az5, .bool ab6, .string as7, .slice aA an acap, .bool ab9, .bool ab10, .string as11, .string as12] 24)) (.cells #[.string bs0, .string bs1, .string bs2, .string bs3, .bool bb4, .int .i64 bz5, .bool bb6, .string bs7, .slice bA bn bcap, .bool bb9, .bool bb10, .string bs11, .string bs12] 24); simpa using this
  have hlt0 : w.heap.size + 1 < w0.heap.size := by rw [← hw0]; simp
  clear hw0 HBL
  simp only [List.append_eq, List.cons_append, List.nil_append]
  refine wp_region_seq [is (.pointer (some ⟨w.heap.size, 0, none⟩)), is (.string as0), is (.pointer (some ⟨w.heap.size + 1, 0, none⟩)), is (.string bs0), is (.bool o0), is (.bool o0), whn (o0) (is (.pointer (some ⟨w.heap.size, 1, none⟩))), whn (o0) (is (.string as1)), whn (o0) (is (.pointer (some ⟨w.heap.size + 1, 1, none⟩))), whn (o0) (is (.string bs1)), whn (o0) (is (.bool o1)), is (.bool c1), is (.bool c1), whn (c1) (is (.pointer (some ⟨w.heap.size, 2, none⟩))), whn (c1) (is (.string as2)), whn (c1) (is (.pointer (some ⟨w.heap.size + 1, 2, none⟩))), whn (c1) (is (.string bs2)), whn (c1) (is (.bool o2)), is (.bool c2), is (.bool c2), whn (c2) (is (.pointer (some ⟨w.heap.size, 5, none⟩))), whn (c2) (is (.int .i64 az5)), whn (c2) (is (.pointer (some ⟨w.heap.size + 1, 5, none⟩))), whn (c2) (is (.int .i64 bz5)), whn (c2) (is (.bool o3)), is (.bool c3), is (.bool c3), whn (c3) (is (.pointer (some ⟨w.heap.size, 4, none⟩))), whn (c3) (is (.bool ab4)), whn (c3) (is (.pointer (some ⟨w.heap.size + 1, 4, none⟩))), whn (c3) (is (.bool bb4)), whn (c3) (is (.pointer (some ⟨w.heap.size, 3, none⟩))), whn (c3) (is (.string as3)), whn (c3) (is (.pointer (some ⟨w.heap.size + 1, 3, none⟩))), whn (c3) (is (.string bs3)), whn (c3) (is (.bool o4)), is (.bool c4), is (.bool c4), whn (c4) (is (.agg #[.string as0, .string as1, .string as2, .string as3, .bool ab4, .int .i64 az5, .bool ab6, .string as7, .slice aA an acap, .bool ab9, .bool ab10, .string as11, .string as12])), whn (c4) (is (.agg #[.string bs0, .string bs1, .string bs2, .string bs3, .bool bb4, .int .i64 bz5, .bool bb6, .string bs7, .slice bA bn bcap, .bool bb9, .bool bb10, .string bs11, .string bs12])), whn (c4) (is (.bool o5)), is (.bool c5), is (.bool c5), whn (c5) (is (.pointer (some ⟨w.heap.size, 9, none⟩))), whn (c5) (is (.bool ab9)), whn (c5) (is (.pointer (some ⟨w.heap.size + 1, 9, none⟩))), whn (c5) (is (.bool bb9)), whn (c5) (is (.pointer (some ⟨w.heap.size, 11, none⟩))), whn (c5) (is (.string as11)), whn (c5) (is (.pointer (some ⟨w.heap.size + 1, 11, none⟩))), whn (c5) (is (.string bs11)), whn (c5) (is (.bool o6)), is (.bool c6), is (.bool c6), whn (c6) (is (.pointer (some ⟨w.heap.size, 10, none⟩))), whn (c6) (is (.bool ab10)), whn (c6) (is (.pointer (some ⟨w.heap.size + 1, 10, none⟩))), whn (c6) (is (.bool bb10)), whn (c6) (is (.pointer (some ⟨w.heap.size, 12, none⟩))), whn (c6) (is (.string as12)), whn (c6) (is (.pointer (some ⟨w.heap.size + 1, 12, none⟩))), whn (c6) (is (.string bs12)), whn (c6) (is (.bool o7)), is (.bool c7), is (.bool c7)] [[], [0], [], [2], [1, 3], [4], [5], [5, 6], [5], [5, 8], [5, 7, 9], [5, 10], [11], [12], [12, 13], [12], [12, 15], [12, 14, 16], [12, 17], [18], [19], [19, 20], [19], [19, 22], [19, 21, 23], [19, 24], [25], [26], [26, 27], [26], [26, 29], [26], [26, 31], [26], [26, 33], [26, 28, 30, 32, 34], [26, 35], [36], [37], [37], [37, 38, 39], [37, 40], [41], [42], [42, 43], [42], [42, 45], [42], [42, 47], [42], [42, 49], [42, 44, 46, 48, 50], [42, 51], [52], [53], [53, 54], [53], [53, 56], [53], [53, 58], [53], [53, 60], [53, 55, 57, 59, 61], [53, 62], [63]] (by kernel_rfl) ?_ ?_
  · refine ⟨?_, ?_, ?_, ?_, ?_, ?_, ?_, ?_, ?_, ?_, ?_, ?_, ?_, ?_, ?_, ?_, ?_, ?_, ?_, ?_, ?_, ?_, ?_, ?_, ?_, ?_, ?_, ?_, ?_, ?_, ?_, ?_, ?_, ?_, ?_, ?_, ?_, ?_, ?_, ?_, ?_, ?_, ?_, ?_, ?_, ?_, ?_, ?_, ?_, ?_, ?_, ?_, ?_, ?_, ?_, ?_, ?_, ?_, ?_, ?_, ?_, ?_, ?_, ?_, ?_, trivial⟩
    · intro t wq hbq hh K hK
      clear hh
      simp only [filled, filledN, upd, Have, is, any, row, pick, Act.put, List.setIfInBounds_toArray, List.set_cons_zero, List.set_cons_succ, Nat.reduceAdd, Nat.reduceEqDiff, reduceIte, whn] at hK ⊢
      go_simp
      exact hK _ _ (Below.refl _ _) rfl
    · intro t wq hbq hh K hK
      have e0 := hh.1
      simp only [pick] at e0
      replace e0 : t 0 = (.pointer (some ⟨w.heap.size, 0, none⟩)) := e0
      clear hh
      simp only [filled, filledN, upd, Have, is, any, row, pick, Act.put, List.setIfInBounds_toArray, List.set_cons_zero, List.set_cons_succ, Nat.reduceAdd, Nat.reduceEqDiff, reduceIte, whn] at hK ⊢
      simp only [e0] at hK ⊢
      have hc := (Bx.cell ((hbq.block _ (by omega)).trans HX1.out) 0).trans (show _ = some (.string as0) from rfl)
      go_simp
      exact hK _ _ (Below.refl _ _) rfl
    · intro t wq hbq hh K hK
      clear hh
      simp only [filled, filledN, upd, Have, is, any, row, pick, Act.put, List.setIfInBounds_toArray, List.set_cons_zero, List.set_cons_succ, Nat.reduceAdd, Nat.reduceEqDiff, reduceIte, whn] at hK ⊢
      go_simp
      exact hK _ _ (Below.refl _ _) rfl
    · intro t wq hbq hh K hK
      have e2 := hh.1
      simp only [pick] at e2
      replace e2 : t 2 = (.pointer (some ⟨w.heap.size + 1, 0, none⟩)) := e2
      clear hh
      simp only [filled, filledN, upd, Have, is, any, row, pick, Act.put, List.setIfInBounds_toArray, List.set_cons_zero, List.set_cons_succ, Nat.reduceAdd, Nat.reduceEqDiff, reduceIte, whn] at hK ⊢
      simp only [e2] at hK ⊢
      have hc := (Bx.cell ((hbq.block _ hlt0).trans HX2.out) 0).trans (show _ = some (.string bs0) from rfl)
      go_simp
      exact hK _ _ (Below.refl _ _) rfl
    · intro t wq hbq hh K hK
      have e1 := hh.1
      simp only [pick] at e1
      replace e1 : t 1 = (.string as0) := e1
      have e3 := hh.2.1
      simp only [pick] at e3
      replace e3 : t 3 = (.string bs0) := e3
      clear hh
      simp only [filled, filledN, upd, Have, is, any, row, pick, Act.put, List.setIfInBounds_toArray, List.set_cons_zero, List.set_cons_succ, Nat.reduceAdd, Nat.reduceEqDiff, reduceIte, whn] at hK ⊢
      simp only [e1, e3] at hK ⊢
      go_simp
      exact hK _ _ (Below.refl _ _) (congrArg Value.bool HQ0.out)
    · intro t wq hbq hh K hK
      have e4 := hh.1
      simp only [pick] at e4
      replace e4 : t 4 = (.bool o0) := e4
      clear hh
      simp only [filled, filledN, upd, Have, is, any, row, pick, Act.put, List.setIfInBounds_toArray, List.set_cons_zero, List.set_cons_succ, Nat.reduceAdd, Nat.reduceEqDiff, reduceIte, whn] at hK ⊢
      simp only [e4] at hK ⊢
      go_simp
      exact hK _ _ (Below.refl _ _) rfl
    · intro t wq hbq hh K hK
      have e5 := hh.1
      simp only [pick] at e5
      replace e5 : t 5 = (.bool o0) := e5
      clear hh
      simp only [filled, filledN, upd, Have, is, any, row, pick, Act.put, List.setIfInBounds_toArray, List.set_cons_zero, List.set_cons_succ, Nat.reduceAdd, Nat.reduceEqDiff, reduceIte, whn] at hK ⊢
      cases o0 with
      | true =>
        simp only [e5] at hK ⊢
        go_simp
        exact hK _ _ (Below.refl _ _) ⟨fun _ => rfl, fun h => by cases h⟩
      | false =>
        simp only [e5] at hK ⊢
        go_simp
        exact hK _ _ (Below.refl _ _) ⟨(fun h => by cases h), fun _ => rfl⟩
    · intro t wq hbq hh K hK
      have e5 := hh.1
      simp only [pick] at e5
      replace e5 : t 5 = (.bool o0) := e5
      have e6 := hh.2.1
      simp only [pick] at e6
      replace e6 : ((o0) = true → t 6 = (.pointer (some ⟨w.heap.size, 1, none⟩))) ∧ ((o0) = false → t 6 = undef) := e6
      clear hh
      simp only [filled, filledN, upd, Have, is, any, row, pick, Act.put, List.setIfInBounds_toArray, List.set_cons_zero, List.set_cons_succ, Nat.reduceAdd, Nat.reduceEqDiff, reduceIte, whn] at hK ⊢
      cases o0 with
      | true =>
        replace e6 := e6.1 rfl
        simp only [e5, e6] at hK ⊢
        have hc := (Bx.cell ((hbq.block _ (by omega)).trans HX1.out) 1).trans (show _ = some (.string as1) from rfl)
        go_simp
        exact hK _ _ (Below.refl _ _) ⟨fun _ => rfl, fun h => by cases h⟩
      | false =>
        replace e6 := e6.2 rfl
        simp only [e5, e6] at hK ⊢
        go_simp
        exact hK _ _ (Below.refl _ _) ⟨(fun h => by cases h), fun _ => rfl⟩
    · intro t wq hbq hh K hK
      have e5 := hh.1
      simp only [pick] at e5
      replace e5 : t 5 = (.bool o0) := e5
      clear hh
      simp only [filled, filledN, upd, Have, is, any, row, pick, Act.put, List.setIfInBounds_toArray, List.set_cons_zero, List.set_cons_succ, Nat.reduceAdd, Nat.reduceEqDiff, reduceIte, whn] at hK ⊢
      cases o0 with
      | true =>
        simp only [e5] at hK ⊢
        go_simp
        exact hK _ _ (Below.refl _ _) ⟨fun _ => rfl, fun h => by cases h⟩
      | false =>
        simp only [e5] at hK ⊢
        go_simp
        exact hK _ _ (Below.refl _ _) ⟨(fun h => by cases h), fun _ => rfl⟩
    · intro t wq hbq hh K hK
      have e5 := hh.1
      simp only [pick] at e5
      replace e5 : t 5 = (.bool o0) := e5
      have e8 := hh.2.1
      simp only [pick] at e8
      replace e8 : ((o0) = true → t 8 = (.pointer (some ⟨w.heap.size + 1, 1, none⟩))) ∧ ((o0) = false → t 8 = undef) := e8
      clear hh
      simp only [filled, filledN, upd, Have, is, any, row, pick, Act.put, List.setIfInBounds_toArray, List.set_cons_zero, List.set_cons_succ, Nat.reduceAdd, Nat.reduceEqDiff, reduceIte, whn] at hK ⊢
      cases o0 with
      | true =>
        replace e8 := e8.1 rfl
        simp only [e5, e8] at hK ⊢
        have hc := (Bx.cell ((hbq.block _ hlt0).trans HX2.out) 1).trans (show _ = some (.string bs1) from rfl)
        go_simp
        exact hK _ _ (Below.refl _ _) ⟨fun _ => rfl, fun h => by cases h⟩
      | false =>
        replace e8 := e8.2 rfl
        simp only [e5, e8] at hK ⊢
        go_simp
        exact hK _ _ (Below.refl _ _) ⟨(fun h => by cases h), fun _ => rfl⟩
    · intro t wq hbq hh K hK
      have e5 := hh.1
      simp only [pick] at e5
      replace e5 : t 5 = (.bool o0) := e5
      have e7 := hh.2.1
      simp only [pick] at e7
      replace e7 : ((o0) = true → t 7 = (.string as1)) ∧ ((o0) = false → t 7 = undef) := e7
      have e9 := hh.2.2.1
      simp only [pick] at e9
      replace e9 : ((o0) = true → t 9 = (.string bs1)) ∧ ((o0) = false → t 9 = undef) := e9
      clear hh
      simp only [filled, filledN, upd, Have, is, any, row, pick, Act.put, List.setIfInBounds_toArray, List.set_cons_zero, List.set_cons_succ, Nat.reduceAdd, Nat.reduceEqDiff, reduceIte, whn] at hK ⊢
      cases o0 with
      | true =>
        replace e7 := e7.1 rfl
        replace e9 := e9.1 rfl
        simp only [e5, e7, e9] at hK ⊢
        go_simp
        exact hK _ _ (Below.refl _ _) ⟨fun _ => congrArg Value.bool HQ1.out, fun h => by cases h⟩
      | false =>
        replace e7 := e7.2 rfl
        replace e9 := e9.2 rfl
        simp only [e5, e7, e9] at hK ⊢
        go_simp
        exact hK _ _ (Below.refl _ _) ⟨(fun h => by cases h), fun _ => rfl⟩
    · intro t wq hbq hh K hK
      have e5 := hh.1
      simp only [pick] at e5
      replace e5 : t 5 = (.bool o0) := e5
      have e10 := hh.2.1
      simp only [pick] at e10
      replace e10 : ((o0) = true → t 10 = (.bool o1)) ∧ ((o0) = false → t 10 = undef) := e10
      clear hh
      simp only [filled, filledN, upd, Have, is, any, row, pick, Act.put, List.setIfInBounds_toArray, List.set_cons_zero, List.set_cons_succ, Nat.reduceAdd, Nat.reduceEqDiff, reduceIte, whn] at hK ⊢
      cases o0 with
      | true =>
        replace e10 := e10.1 rfl
        simp only [e5, e10] at hK ⊢
        go_simp
        exact hK _ _ (Below.refl _ _) (by show _ = _; rw [HC1.out]; simp)
      | false =>
        replace e10 := e10.2 rfl
        simp only [e5, e10] at hK ⊢
        go_simp
        exact hK _ _ (Below.refl _ _) (by show _ = _; rw [HC1.out]; simp)
    · intro t wq hbq hh K hK
      have e11 := hh.1
      simp only [pick] at e11
      replace e11 : t 11 = (.bool c1) := e11
      clear hh
      simp only [filled, filledN, upd, Have, is, any, row, pick, Act.put, List.setIfInBounds_toArray, List.set_cons_zero, List.set_cons_succ, Nat.reduceAdd, Nat.reduceEqDiff, reduceIte, whn] at hK ⊢
      simp only [e11] at hK ⊢
      go_simp
      exact hK _ _ (Below.refl _ _) rfl
    · intro t wq hbq hh K hK
      have e12 := hh.1
      simp only [pick] at e12
      replace e12 : t 12 = (.bool c1) := e12
      clear hh
      simp only [filled, filledN, upd, Have, is, any, row, pick, Act.put, List.setIfInBounds_toArray, List.set_cons_zero, List.set_cons_succ, Nat.reduceAdd, Nat.reduceEqDiff, reduceIte, whn] at hK ⊢
      cases c1 with
      | true =>
        simp only [e12] at hK ⊢
        go_simp
        exact hK _ _ (Below.refl _ _) ⟨fun _ => rfl, fun h => by cases h⟩
      | false =>
        simp only [e12] at hK ⊢
        go_simp
        exact hK _ _ (Below.refl _ _) ⟨(fun h => by cases h), fun _ => rfl⟩
    · intro t wq hbq hh K hK
      have e12 := hh.1
      simp only [pick] at e12
      replace e12 : t 12 = (.bool c1) := e12
      have e13 := hh.2.1
      simp only [pick] at e13
      replace e13 : ((c1) = true → t 13 = (.pointer (some ⟨w.heap.size, 2, none⟩))) ∧ ((c1) = false → t 13 = undef) := e13
      clear hh
      simp only [filled, filledN, upd, Have, is, any, row, pick, Act.put, List.setIfInBounds_toArray, List.set_cons_zero, List.set_cons_succ, Nat.reduceAdd, Nat.reduceEqDiff, reduceIte, whn] at hK ⊢
      cases c1 with
      | true =>
        replace e13 := e13.1 rfl
        simp only [e12, e13] at hK ⊢
        have hc := (Bx.cell ((hbq.block _ (by omega)).trans HX1.out) 2).trans (show _ = some (.string as2) from rfl)
        go_simp
        exact hK _ _ (Below.refl _ _) ⟨fun _ => rfl, fun h => by cases h⟩
      | false =>
        replace e13 := e13.2 rfl
        simp only [e12, e13] at hK ⊢
        go_simp
        exact hK _ _ (Below.refl _ _) ⟨(fun h => by cases h), fun _ => rfl⟩
    · intro t wq hbq hh K hK
      have e12 := hh.1
      simp only [pick] at e12
      replace e12 : t 12 = (.bool c1) := e12
      clear hh
      simp only [filled, filledN, upd, Have, is, any, row, pick, Act.put, List.setIfInBounds_toArray, List.set_cons_zero, List.set_cons_succ, Nat.reduceAdd, Nat.reduceEqDiff, reduceIte, whn] at hK ⊢
      cases c1 with
      | true =>
        simp only [e12] at hK ⊢
        go_simp
        exact hK _ _ (Below.refl _ _) ⟨fun _ => rfl, fun h => by cases h⟩
      | false =>
        simp only [e12] at hK ⊢
        go_simp
        exact hK _ _ (Below.refl _ _) ⟨(fun h => by cases h), fun _ => rfl⟩
    · intro t wq hbq hh K hK
      have e12 := hh.1
      simp only [pick] at e12
      replace e12 : t 12 = (.bool c1) := e12
      have e15 := hh.2.1
      simp only [pick] at e15
      replace e15 : ((c1) = true → t 15 = (.pointer (some ⟨w.heap.size + 1, 2, none⟩))) ∧ ((c1) = false → t 15 = undef) := e15
      clear hh
      simp only [filled, filledN, upd, Have, is, any, row, pick, Act.put, List.setIfInBounds_toArray, List.set_cons_zero, List.set_cons_succ, Nat.reduceAdd, Nat.reduceEqDiff, reduceIte, whn] at hK ⊢
      cases c1 with
      | true =>
        replace e15 := e15.1 rfl
        simp only [e12, e15] at hK ⊢
        have hc := (Bx.cell ((hbq.block _ hlt0).trans HX2.out) 2).trans (show _ = some (.string bs2) from rfl)
        go_simp
        exact hK _ _ (Below.refl _ _) ⟨fun _ => rfl, fun h => by cases h⟩
      | false =>
        replace e15 := e15.2 rfl
        simp only [e12, e15] at hK ⊢
        go_simp
        exact hK _ _ (Below.refl _ _) ⟨(fun h => by cases h), fun _ => rfl⟩
    · intro t wq hbq hh K hK
      have e12 := hh.1
      simp only [pick] at e12
      replace e12 : t 12 = (.bool c1) := e12
      have e14 := hh.2.1
      simp only [pick] at e14
      replace e14 : ((c1) = true → t 14 = (.string as2)) ∧ ((c1) = false → t 14 = undef) := e14
      have e16 := hh.2.2.1
      simp only [pick] at e16
      replace e16 : ((c1) = true → t 16 = (.string bs2)) ∧ ((c1) = false → t 16 = undef) := e16
      clear hh
      simp only [filled, filledN, upd, Have, is, any, row, pick, Act.put, List.setIfInBounds_toArray, List.set_cons_zero, List.set_cons_succ, Nat.reduceAdd, Nat.reduceEqDiff, reduceIte, whn] at hK ⊢
      cases c1 with
      | true =>
        replace e14 := e14.1 rfl
        replace e16 := e16.1 rfl
        simp only [e12, e14, e16] at hK ⊢
        go_simp
        exact hK _ _ (Below.refl _ _) ⟨fun _ => congrArg Value.bool HQ2.out, fun h => by cases h⟩
      | false =>
        replace e14 := e14.2 rfl
        replace e16 := e16.2 rfl
        simp only [e12, e14, e16] at hK ⊢
        go_simp
        exact hK _ _ (Below.refl _ _) ⟨(fun h => by cases h), fun _ => rfl⟩
    · intro t wq hbq hh K hK
      have e12 := hh.1
      simp only [pick] at e12
      replace e12 : t 12 = (.bool c1) := e12
      have e17 := hh.2.1
      simp only [pick] at e17
      replace e17 : ((c1) = true → t 17 = (.bool o2)) ∧ ((c1) = false → t 17 = undef) := e17
      clear hh
      simp only [filled, filledN, upd, Have, is, any, row, pick, Act.put, List.setIfInBounds_toArray, List.set_cons_zero, List.set_cons_succ, Nat.reduceAdd, Nat.reduceEqDiff, reduceIte, whn] at hK ⊢
      cases c1 with
      | true =>
        replace e17 := e17.1 rfl
        simp only [e12, e17] at hK ⊢
        go_simp
        exact hK _ _ (Below.refl _ _) (by show _ = _; rw [HC2.out]; simp)
      | false =>
        replace e17 := e17.2 rfl
        simp only [e12, e17] at hK ⊢
        go_simp
        exact hK _ _ (Below.refl _ _) (by show _ = _; rw [HC2.out]; simp)
    · intro t wq hbq hh K hK
      have e18 := hh.1
      simp only [pick] at e18
      replace e18 : t 18 = (.bool c2) := e18
      clear hh
      simp only [filled, filledN, upd, Have, is, any, row, pick, Act.put, List.setIfInBounds_toArray, List.set_cons_zero, List.set_cons_succ, Nat.reduceAdd, Nat.reduceEqDiff, reduceIte, whn] at hK ⊢
      simp only [e18] at hK ⊢
      go_simp
      exact hK _ _ (Below.refl _ _) rfl
    · intro t wq hbq hh K hK
      have e19 := hh.1
      simp only [pick] at e19
      replace e19 : t 19 = (.bool c2) := e19
      clear hh
      simp only [filled, filledN, upd, Have, is, any, row, pick, Act.put, List.setIfInBounds_toArray, List.set_cons_zero, List.set_cons_succ, Nat.reduceAdd, Nat.reduceEqDiff, reduceIte, whn] at hK ⊢
      cases c2 with
      | true =>
        simp only [e19] at hK ⊢
        go_simp
        exact hK _ _ (Below.refl _ _) ⟨fun _ => rfl, fun h => by cases h⟩
      | false =>
        simp only [e19] at hK ⊢
        go_simp
        exact hK _ _ (Below.refl _ _) ⟨(fun h => by cases h), fun _ => rfl⟩
    · intro t wq hbq hh K hK
      have e19 := hh.1
      simp only [pick] at e19
      replace e19 : t 19 = (.bool c2) := e19
      have e20 := hh.2.1
      simp only [pick] at e20
      replace e20 : ((c2) = true → t 20 = (.pointer (some ⟨w.heap.size, 5, none⟩))) ∧ ((c2) = false → t 20 = undef) := e20
      clear hh
      simp only [filled, filledN, upd, Have, is, any, row, pick, Act.put, List.setIfInBounds_toArray, List.set_cons_zero, List.set_cons_succ, Nat.reduceAdd, Nat.reduceEqDiff, reduceIte, whn] at hK ⊢
      cases c2 with
      | true =>
        replace e20 := e20.1 rfl
        simp only [e19, e20] at hK ⊢
        have hc := (Bx.cell ((hbq.block _ (by omega)).trans HX1.out) 5).trans (show _ = some (.int .i64 az5) from rfl)
        go_simp
        exact hK _ _ (Below.refl _ _) ⟨fun _ => rfl, fun h => by cases h⟩
      | false =>
        replace e20 := e20.2 rfl
        simp only [e19, e20] at hK ⊢
        go_simp
        exact hK _ _ (Below.refl _ _) ⟨(fun h => by cases h), fun _ => rfl⟩
    · intro t wq hbq hh K hK
      have e19 := hh.1
      simp only [pick] at e19
      replace e19 : t 19 = (.bool c2) := e19
      clear hh
      simp only [filled, filledN, upd, Have, is, any, row, pick, Act.put, List.setIfInBounds_toArray, List.set_cons_zero, List.set_cons_succ, Nat.reduceAdd, Nat.reduceEqDiff, reduceIte, whn] at hK ⊢
      cases c2 with
      | true =>
        simp only [e19] at hK ⊢
        go_simp
        exact hK _ _ (Below.refl _ _) ⟨fun _ => rfl, fun h => by cases h⟩
      | false =>
        simp only [e19] at hK ⊢
        go_simp
        exact hK _ _ (Below.refl _ _) ⟨(fun h => by cases h), fun _ => rfl⟩
    · intro t wq hbq hh K hK
      have e19 := hh.1
      simp only [pick] at e19
      replace e19 : t 19 = (.bool c2) := e19
      have e22 := hh.2.1
      simp only [pick] at e22
      replace e22 : ((c2) = true → t 22 = (.pointer (some ⟨w.heap.size + 1, 5, none⟩))) ∧ ((c2) = false → t 22 = undef) := e22
      clear hh
      simp only [filled, filledN, upd, Have, is, any, row, pick, Act.put, List.setIfInBounds_toArray, List.set_cons_zero, List.set_cons_succ, Nat.reduceAdd, Nat.reduceEqDiff, reduceIte, whn] at hK ⊢
      cases c2 with
      | true =>
        replace e22 := e22.1 rfl
        simp only [e19, e22] at hK ⊢
        have hc := (Bx.cell ((hbq.block _ hlt0).trans HX2.out) 5).trans (show _ = some (.int .i64 bz5) from rfl)
        go_simp
        exact hK _ _ (Below.refl _ _) ⟨fun _ => rfl, fun h => by cases h⟩
      | false =>
        replace e22 := e22.2 rfl
        simp only [e19, e22] at hK ⊢
        go_simp
        exact hK _ _ (Below.refl _ _) ⟨(fun h => by cases h), fun _ => rfl⟩
    · intro t wq hbq hh K hK
      have e19 := hh.1
      simp only [pick] at e19
      replace e19 : t 19 = (.bool c2) := e19
      have e21 := hh.2.1
      simp only [pick] at e21
      replace e21 : ((c2) = true → t 21 = (.int .i64 az5)) ∧ ((c2) = false → t 21 = undef) := e21
      have e23 := hh.2.2.1
      simp only [pick] at e23
      replace e23 : ((c2) = true → t 23 = (.int .i64 bz5)) ∧ ((c2) = false → t 23 = undef) := e23
      clear hh
      simp only [filled, filledN, upd, Have, is, any, row, pick, Act.put, List.setIfInBounds_toArray, List.set_cons_zero, List.set_cons_succ, Nat.reduceAdd, Nat.reduceEqDiff, reduceIte, whn] at hK ⊢
      cases c2 with
      | true =>
        replace e21 := e21.1 rfl
        replace e23 := e23.1 rfl
        simp only [e19, e21, e23] at hK ⊢
        go_simp
        exact hK _ _ (Below.refl _ _) ⟨fun _ => congrArg Value.bool HQ3.out, fun h => by cases h⟩
      | false =>
        replace e21 := e21.2 rfl
        replace e23 := e23.2 rfl
        simp only [e19, e21, e23] at hK ⊢
        go_simp
        exact hK _ _ (Below.refl _ _) ⟨(fun h => by cases h), fun _ => rfl⟩
    · intro t wq hbq hh K hK
      have e19 := hh.1
      simp only [pick] at e19
      replace e19 : t 19 = (.bool c2) := e19
      have e24 := hh.2.1
      simp only [pick] at e24
      replace e24 : ((c2) = true → t 24 = (.bool o3)) ∧ ((c2) = false → t 24 = undef) := e24
      clear hh
      simp only [filled, filledN, upd, Have, is, any, row, pick, Act.put, List.setIfInBounds_toArray, List.set_cons_zero, List.set_cons_succ, Nat.reduceAdd, Nat.reduceEqDiff, reduceIte, whn] at hK ⊢
      cases c2 with
      | true =>
        replace e24 := e24.1 rfl
        simp only [e19, e24] at hK ⊢
        go_simp
        exact hK _ _ (Below.refl _ _) (by show _ = _; rw [HC3.out]; simp)
      | false =>
        replace e24 := e24.2 rfl
        simp only [e19, e24] at hK ⊢
        go_simp
        exact hK _ _ (Below.refl _ _) (by show _ = _; rw [HC3.out]; simp)
    · intro t wq hbq hh K hK
      have e25 := hh.1
      simp only [pick] at e25
      replace e25 : t 25 = (.bool c3) := e25
      clear hh
      simp only [filled, filledN, upd, Have, is, any, row, pick, Act.put, List.setIfInBounds_toArray, List.set_cons_zero, List.set_cons_succ, Nat.reduceAdd, Nat.reduceEqDiff, reduceIte, whn] at hK ⊢
      simp only [e25] at hK ⊢
      go_simp
      exact hK _ _ (Below.refl _ _) rfl
    · intro t wq hbq hh K hK
      have e26 := hh.1
      simp only [pick] at e26
      replace e26 : t 26 = (.bool c3) := e26
      clear hh
      simp only [filled, filledN, upd, Have, is, any, row, pick, Act.put, List.setIfInBounds_toArray, List.set_cons_zero, List.set_cons_succ, Nat.reduceAdd, Nat.reduceEqDiff, reduceIte, whn] at hK ⊢
      cases c3 with
      | true =>
        simp only [e26] at hK ⊢
        go_simp
        exact hK _ _ (Below.refl _ _) ⟨fun _ => rfl, fun h => by cases h⟩
      | false =>
        simp only [e26] at hK ⊢
        go_simp
        exact hK _ _ (Below.refl _ _) ⟨(fun h => by cases h), fun _ => rfl⟩
    · intro t wq hbq hh K hK
      have e26 := hh.1
      simp only [pick] at e26
      replace e26 : t 26 = (.bool c3) := e26
      have e27 := hh.2.1
      simp only [pick] at e27
      replace e27 : ((c3) = true → t 27 = (.pointer (some ⟨w.heap.size, 4, none⟩))) ∧ ((c3) = false → t 27 = undef) := e27
      clear hh
      simp only [filled, filledN, upd, Have, is, any, row, pick, Act.put, List.setIfInBounds_toArray, List.set_cons_zero, List.set_cons_succ, Nat.reduceAdd, Nat.reduceEqDiff, reduceIte, whn] at hK ⊢
      cases c3 with
      | true =>
        replace e27 := e27.1 rfl
        simp only [e26, e27] at hK ⊢
        have hc := (Bx.cell ((hbq.block _ (by omega)).trans HX1.out) 4).trans (show _ = some (.bool ab4) from rfl)
        go_simp
        exact hK _ _ (Below.refl _ _) ⟨fun _ => rfl, fun h => by cases h⟩
      | false =>
        replace e27 := e27.2 rfl
        simp only [e26, e27] at hK ⊢
        go_simp
        exact hK _ _ (Below.refl _ _) ⟨(fun h => by cases h), fun _ => rfl⟩
    · intro t wq hbq hh K hK
      have e26 := hh.1
      simp only [pick] at e26
      replace e26 : t 26 = (.bool c3) := e26
      clear hh
      simp only [filled, filledN, upd, Have, is, any, row, pick, Act.put, List.setIfInBounds_toArray, List.set_cons_zero, List.set_cons_succ, Nat.reduceAdd, Nat.reduceEqDiff, reduceIte, whn] at hK ⊢
      cases c3 with
      | true =>
        simp only [e26] at hK ⊢
        go_simp
        exact hK _ _ (Below.refl _ _) ⟨fun _ => rfl, fun h => by cases h⟩
      | false =>
        simp only [e26] at hK ⊢
        go_simp
        exact hK _ _ (Below.refl _ _) ⟨(fun h => by cases h), fun _ => rfl⟩
    · intro t wq hbq hh K hK
      have e26 := hh.1
      simp only [pick] at e26
      replace e26 : t 26 = (.bool c3) := e26
      have e29 := hh.2.1
      simp only [pick] at e29
      replace e29 : ((c3) = true → t 29 = (.pointer (some ⟨w.heap.size + 1, 4, none⟩))) ∧ ((c3) = false → t 29 = undef) := e29
      clear hh
      simp only [filled, filledN, upd, Have, is, any, row, pick, Act.put, List.setIfInBounds_toArray, List.set_cons_zero, List.set_cons_succ, Nat.reduceAdd, Nat.reduceEqDiff, reduceIte, whn] at hK ⊢
      cases c3 with
      | true =>
        replace e29 := e29.1 rfl
        simp only [e26, e29] at hK ⊢
        have hc := (Bx.cell ((hbq.block _ hlt0).trans HX2.out) 4).trans (show _ = some (.bool bb4) from rfl)
        go_simp
        exact hK _ _ (Below.refl _ _) ⟨fun _ => rfl, fun h => by cases h⟩
      | false =>
        replace e29 := e29.2 rfl
        simp only [e26, e29] at hK ⊢
        go_simp
        exact hK _ _ (Below.refl _ _) ⟨(fun h => by cases h), fun _ => rfl⟩
    · intro t wq hbq hh K hK
      have e26 := hh.1
      simp only [pick] at e26
      replace e26 : t 26 = (.bool c3) := e26
      clear hh
      simp only [filled, filledN, upd, Have, is, any, row, pick, Act.put, List.setIfInBounds_toArray, List.set_cons_zero, List.set_cons_succ, Nat.reduceAdd, Nat.reduceEqDiff, reduceIte, whn] at hK ⊢
      cases c3 with
      | true =>
        simp only [e26] at hK ⊢
        go_simp
        exact hK _ _ (Below.refl _ _) ⟨fun _ => rfl, fun h => by cases h⟩
      | false =>
        simp only [e26] at hK ⊢
        go_simp
        exact hK _ _ (Below.refl _ _) ⟨(fun h => by cases h), fun _ => rfl⟩
    · intro t wq hbq hh K hK
      have e26 := hh.1
      simp only [pick] at e26
      replace e26 : t 26 = (.bool c3) := e26
      have e31 := hh.2.1
      simp only [pick] at e31
      replace e31 : ((c3) = true → t 31 = (.pointer (some ⟨w.heap.size, 3, none⟩))) ∧ ((c3) = false → t 31 = undef) := e31
      clear hh
      simp only [filled, filledN, upd, Have, is, any, row, pick, Act.put, List.setIfInBounds_toArray, List.set_cons_zero, List.set_cons_succ, Nat.reduceAdd, Nat.reduceEqDiff, reduceIte, whn] at hK ⊢
      cases c3 with
      | true =>
        replace e31 := e31.1 rfl
        simp only [e26, e31] at hK ⊢
        have hc := (Bx.cell ((hbq.block _ (by omega)).trans HX1.out) 3).trans (show _ = some (.string as3) from rfl)
        go_simp
        exact hK _ _ (Below.refl _ _) ⟨fun _ => rfl, fun h => by cases h⟩
      | false =>
        replace e31 := e31.2 rfl
        simp only [e26, e31] at hK ⊢
        go_simp
        exact hK _ _ (Below.refl _ _) ⟨(fun h => by cases h), fun _ => rfl⟩
    · intro t wq hbq hh K hK
      have e26 := hh.1
      simp only [pick] at e26
      replace e26 : t 26 = (.bool c3) := e26
      clear hh
      simp only [filled, filledN, upd, Have, is, any, row, pick, Act.put, List.setIfInBounds_toArray, List.set_cons_zero, List.set_cons_succ, Nat.reduceAdd, Nat.reduceEqDiff, reduceIte, whn] at hK ⊢
      cases c3 with
      | true =>
        simp only [e26] at hK ⊢
        go_simp
        exact hK _ _ (Below.refl _ _) ⟨fun _ => rfl, fun h => by cases h⟩
      | false =>
        simp only [e26] at hK ⊢
        go_simp
        exact hK _ _ (Below.refl _ _) ⟨(fun h => by cases h), fun _ => rfl⟩
    · intro t wq hbq hh K hK
      have e26 := hh.1
      simp only [pick] at e26
      replace e26 : t 26 = (.bool c3) := e26
      have e33 := hh.2.1
      simp only [pick] at e33
      replace e33 : ((c3) = true → t 33 = (.pointer (some ⟨w.heap.size + 1, 3, none⟩))) ∧ ((c3) = false → t 33 = undef) := e33
      clear hh
      simp only [filled, filledN, upd, Have, is, any, row, pick, Act.put, List.setIfInBounds_toArray, List.set_cons_zero, List.set_cons_succ, Nat.reduceAdd, Nat.reduceEqDiff, reduceIte, whn] at hK ⊢
      cases c3 with
      | true =>
        replace e33 := e33.1 rfl
        simp only [e26, e33] at hK ⊢
        have hc := (Bx.cell ((hbq.block _ hlt0).trans HX2.out) 3).trans (show _ = some (.string bs3) from rfl)
        go_simp
        exact hK _ _ (Below.refl _ _) ⟨fun _ => rfl, fun h => by cases h⟩
      | false =>
        replace e33 := e33.2 rfl
        simp only [e26, e33] at hK ⊢
        go_simp
        exact hK _ _ (Below.refl _ _) ⟨(fun h => by cases h), fun _ => rfl⟩
    · intro t wq hbq hh K hK
      have e26 := hh.1
      simp only [pick] at e26
      replace e26 : t 26 = (.bool c3) := e26
      have e28 := hh.2.1
      simp only [pick] at e28
      replace e28 : ((c3) = true → t 28 = (.bool ab4)) ∧ ((c3) = false → t 28 = undef) := e28
      have e30 := hh.2.2.1
      simp only [pick] at e30
      replace e30 : ((c3) = true → t 30 = (.bool bb4)) ∧ ((c3) = false → t 30 = undef) := e30
      have e32 := hh.2.2.2.1
      simp only [pick] at e32
      replace e32 : ((c3) = true → t 32 = (.string as3)) ∧ ((c3) = false → t 32 = undef) := e32
      have e34 := hh.2.2.2.2.1
      simp only [pick] at e34
      replace e34 : ((c3) = true → t 34 = (.string bs3)) ∧ ((c3) = false → t 34 = undef) := e34
      clear hh
      simp only [filled, filledN, upd, Have, is, any, row, pick, Act.put, List.setIfInBounds_toArray, List.set_cons_zero, List.set_cons_succ, Nat.reduceAdd, Nat.reduceEqDiff, reduceIte, whn] at hK ⊢
      cases c3 with
      | true =>
        replace e28 := e28.1 rfl
        replace e30 := e30.1 rfl
        replace e32 := e32.1 rfl
        replace e34 := e34.1 rfl
        simp only [e26, e28, e30, e32, e34] at hK ⊢
        go_simp
        refine (sameText_any _ _ _ _ _).mono ?_
        rintro e w5 ⟨rfl, hw⟩
        subst hw
        rw [← H4.out]
        exact hK _ _ (Below.refl _ _) ⟨fun _ => rfl, fun h => by cases h⟩
      | false =>
        replace e28 := e28.2 rfl
        replace e30 := e30.2 rfl
        replace e32 := e32.2 rfl
        replace e34 := e34.2 rfl
        simp only [e26, e28, e30, e32, e34] at hK ⊢
        go_simp
        exact hK _ _ (Below.refl _ _) ⟨(fun h => by cases h), fun _ => rfl⟩
    · intro t wq hbq hh K hK
      have e26 := hh.1
      simp only [pick] at e26
      replace e26 : t 26 = (.bool c3) := e26
      have e35 := hh.2.1
      simp only [pick] at e35
      replace e35 : ((c3) = true → t 35 = (.bool o4)) ∧ ((c3) = false → t 35 = undef) := e35
      clear hh
      simp only [filled, filledN, upd, Have, is, any, row, pick, Act.put, List.setIfInBounds_toArray, List.set_cons_zero, List.set_cons_succ, Nat.reduceAdd, Nat.reduceEqDiff, reduceIte, whn] at hK ⊢
      cases c3 with
      | true =>
        replace e35 := e35.1 rfl
        simp only [e26, e35] at hK ⊢
        go_simp
        exact hK _ _ (Below.refl _ _) (by show _ = _; rw [HC4.out]; simp)
      | false =>
        replace e35 := e35.2 rfl
        simp only [e26, e35] at hK ⊢
        go_simp
        exact hK _ _ (Below.refl _ _) (by show _ = _; rw [HC4.out]; simp)
    · intro t wq hbq hh K hK
      have e36 := hh.1
      simp only [pick] at e36
      replace e36 : t 36 = (.bool c4) := e36
      clear hh
      simp only [filled, filledN, upd, Have, is, any, row, pick, Act.put, List.setIfInBounds_toArray, List.set_cons_zero, List.set_cons_succ, Nat.reduceAdd, Nat.reduceEqDiff, reduceIte, whn] at hK ⊢
      simp only [e36] at hK ⊢
      go_simp
      exact hK _ _ (Below.refl _ _) rfl
    · intro t wq hbq hh K hK
      have e37 := hh.1
      simp only [pick] at e37
      replace e37 : t 37 = (.bool c4) := e37
      clear hh
      simp only [filled, filledN, upd, Have, is, any, row, pick, Act.put, List.setIfInBounds_toArray, List.set_cons_zero, List.set_cons_succ, Nat.reduceAdd, Nat.reduceEqDiff, reduceIte, whn] at hK ⊢
      cases c4 with
      | true =>
        simp only [e37] at hK ⊢
        have hx := (hbq.block _ (by omega)).trans HX1.out
        obtain ⟨cc0, cc1, cc2, cc3, cc4, cc5, cc6, cc7, cc8, cc9, cc10, cc11, cc12⟩ := cells13 hx
        clear hx
        go_simp
        exact hK _ _ (Below.refl _ _) ⟨fun _ => rfl, fun h => by cases h⟩
      | false =>
        simp only [e37] at hK ⊢
        go_simp
        exact hK _ _ (Below.refl _ _) ⟨(fun h => by cases h), fun _ => rfl⟩
    · intro t wq hbq hh K hK
      have e37 := hh.1
      simp only [pick] at e37
      replace e37 : t 37 = (.bool c4) := e37
      clear hh
      simp only [filled, filledN, upd, Have, is, any, row, pick, Act.put, List.setIfInBounds_toArray, List.set_cons_zero, List.set_cons_succ, Nat.reduceAdd, Nat.reduceEqDiff, reduceIte, whn] at hK ⊢
      cases c4 with
      | true =>
        simp only [e37] at hK ⊢
        have hx := (hbq.block _ hlt0).trans HX2.out
        obtain ⟨cc0, cc1, cc2, cc3, cc4, cc5, cc6, cc7, cc8, cc9, cc10, cc11, cc12⟩ := cells13 hx
        clear hx
        go_simp
        exact hK _ _ (Below.refl _ _) ⟨fun _ => rfl, fun h => by cases h⟩
      | false =>
        simp only [e37] at hK ⊢
        go_simp
        exact hK _ _ (Below.refl _ _) ⟨(fun h => by cases h), fun _ => rfl⟩
    · intro t wq hbq hh K hK
      have e37 := hh.1
      simp only [pick] at e37
      replace e37 : t 37 = (.bool c4) := e37
      have e38 := hh.2.1
      simp only [pick] at e38
      replace e38 : ((c4) = true → t 38 = (.agg #[.string as0, .string as1, .string as2, .string as3, .bool ab4, .int .i64 az5, .bool ab6, .string as7, .slice aA an acap, .bool ab9, .bool ab10, .string as11, .string as12])) ∧ ((c4) = false → t 38 = undef) := e38
      have e39 := hh.2.2.1
      simp only [pick] at e39
      replace e39 : ((c4) = true → t 39 = (.agg #[.string bs0, .string bs1, .string bs2, .string bs3, .bool bb4, .int .i64 bz5, .bool bb6, .string bs7, .slice bA bn bcap, .bool bb9, .bool bb10, .string bs11, .string bs12])) ∧ ((c4) = false → t 39 = undef) := e39
      clear hh
      simp only [filled, filledN, upd, Have, is, any, row, pick, Act.put, List.setIfInBounds_toArray, List.set_cons_zero, List.set_cons_succ, Nat.reduceAdd, Nat.reduceEqDiff, reduceIte, whn] at hK ⊢
      cases c4 with
      | true =>
        replace e38 := e38.1 rfl
        replace e39 := e39.1 rfl
        simp only [e37, e38, e39] at hK ⊢
        go_simp
        refine (samePath_any as0 as1 as2 as3 ab4 az5 ab6 as7 aA an acap al ab9 ab10 as11 as12 bs0 bs1 bs2 bs3 bb4 bz5 bb6 bs7 bA bn bcap bl bb9 bb10 bs11 bs12 _ (HR.out.below (HB0.out.trans (hbq.mono HB0.out.size))) ahnc ahcm (HR2.out.below (HB0.out.trans (hbq.mono HB0.out.size))) bhnc bhcm).mono ?_
        rintro e w5 ⟨rfl, hb5⟩
        rw [← H5.out]
        exact hK _ _ hb5 ⟨fun _ => rfl, fun h => by cases h⟩
      | false =>
        replace e38 := e38.2 rfl
        replace e39 := e39.2 rfl
        simp only [e37, e38, e39] at hK ⊢
        go_simp
        exact hK _ _ (Below.refl _ _) ⟨(fun h => by cases h), fun _ => rfl⟩
    · intro t wq hbq hh K hK
      have e37 := hh.1
      simp only [pick] at e37
      replace e37 : t 37 = (.bool c4) := e37
      have e40 := hh.2.1
      simp only [pick] at e40
      replace e40 : ((c4) = true → t 40 = (.bool o5)) ∧ ((c4) = false → t 40 = undef) := e40
      clear hh
      simp only [filled, filledN, upd, Have, is, any, row, pick, Act.put, List.setIfInBounds_toArray, List.set_cons_zero, List.set_cons_succ, Nat.reduceAdd, Nat.reduceEqDiff, reduceIte, whn] at hK ⊢
      cases c4 with
      | true =>
        replace e40 := e40.1 rfl
        simp only [e37, e40] at hK ⊢
        go_simp
        exact hK _ _ (Below.refl _ _) (by show _ = _; rw [HC5.out]; simp)
      | false =>
        replace e40 := e40.2 rfl
        simp only [e37, e40] at hK ⊢
        go_simp
        exact hK _ _ (Below.refl _ _) (by show _ = _; rw [HC5.out]; simp)
    · intro t wq hbq hh K hK
      have e41 := hh.1
      simp only [pick] at e41
      replace e41 : t 41 = (.bool c5) := e41
      clear hh
      simp only [filled, filledN, upd, Have, is, any, row, pick, Act.put, List.setIfInBounds_toArray, List.set_cons_zero, List.set_cons_succ, Nat.reduceAdd, Nat.reduceEqDiff, reduceIte, whn] at hK ⊢
      simp only [e41] at hK ⊢
      go_simp
      exact hK _ _ (Below.refl _ _) rfl
    · intro t wq hbq hh K hK
      have e42 := hh.1
      simp only [pick] at e42
      replace e42 : t 42 = (.bool c5) := e42
      clear hh
      simp only [filled, filledN, upd, Have, is, any, row, pick, Act.put, List.setIfInBounds_toArray, List.set_cons_zero, List.set_cons_succ, Nat.reduceAdd, Nat.reduceEqDiff, reduceIte, whn] at hK ⊢
      cases c5 with
      | true =>
        simp only [e42] at hK ⊢
        go_simp
        exact hK _ _ (Below.refl _ _) ⟨fun _ => rfl, fun h => by cases h⟩
      | false =>
        simp only [e42] at hK ⊢
        go_simp
        exact hK _ _ (Below.refl _ _) ⟨(fun h => by cases h), fun _ => rfl⟩
    · intro t wq hbq hh K hK
      have e42 := hh.1
      simp only [pick] at e42
      replace e42 : t 42 = (.bool c5) := e42
      have e43 := hh.2.1
      simp only [pick] at e43
      replace e43 : ((c5) = true → t 43 = (.pointer (some ⟨w.heap.size, 9, none⟩))) ∧ ((c5) = false → t 43 = undef) := e43
      clear hh
      simp only [filled, filledN, upd, Have, is, any, row, pick, Act.put, List.setIfInBounds_toArray, List.set_cons_zero, List.set_cons_succ, Nat.reduceAdd, Nat.reduceEqDiff, reduceIte, whn] at hK ⊢
      cases c5 with
      | true =>
        replace e43 := e43.1 rfl
        simp only [e42, e43] at hK ⊢
        have hc := (Bx.cell ((hbq.block _ (by omega)).trans HX1.out) 9).trans (show _ = some (.bool ab9) from rfl)
        go_simp
        exact hK _ _ (Below.refl _ _) ⟨fun _ => rfl, fun h => by cases h⟩
      | false =>
        replace e43 := e43.2 rfl
        simp only [e42, e43] at hK ⊢
        go_simp
        exact hK _ _ (Below.refl _ _) ⟨(fun h => by cases h), fun _ => rfl⟩
    · intro t wq hbq hh K hK
      have e42 := hh.1
      simp only [pick] at e42
      replace e42 : t 42 = (.bool c5) := e42
      clear hh
      simp only [filled, filledN, upd, Have, is, any, row, pick, Act.put, List.setIfInBounds_toArray, List.set_cons_zero, List.set_cons_succ, Nat.reduceAdd, Nat.reduceEqDiff, reduceIte, whn] at hK ⊢
      cases c5 with
      | true =>
        simp only [e42] at hK ⊢
        go_simp
        exact hK _ _ (Below.refl _ _) ⟨fun _ => rfl, fun h => by cases h⟩
      | false =>
        simp only [e42] at hK ⊢
        go_simp
        exact hK _ _ (Below.refl _ _) ⟨(fun h => by cases h), fun _ => rfl⟩
    · intro t wq hbq hh K hK
      have e42 := hh.1
      simp only [pick] at e42
      replace e42 : t 42 = (.bool c5) := e42
      have e45 := hh.2.1
      simp only [pick] at e45
      replace e45 : ((c5) = true → t 45 = (.pointer (some ⟨w.heap.size + 1, 9, none⟩))) ∧ ((c5) = false → t 45 = undef) := e45
      clear hh
      simp only [filled, filledN, upd, Have, is, any, row, pick, Act.put, List.setIfInBounds_toArray, List.set_cons_zero, List.set_cons_succ, Nat.reduceAdd, Nat.reduceEqDiff, reduceIte, whn] at hK ⊢
      cases c5 with
      | true =>
        replace e45 := e45.1 rfl
        simp only [e42, e45] at hK ⊢
        have hc := (Bx.cell ((hbq.block _ hlt0).trans HX2.out) 9).trans (show _ = some (.bool bb9) from rfl)
        go_simp
        exact hK _ _ (Below.refl _ _) ⟨fun _ => rfl, fun h => by cases h⟩
      | false =>
        replace e45 := e45.2 rfl
        simp only [e42, e45] at hK ⊢
        go_simp
        exact hK _ _ (Below.refl _ _) ⟨(fun h => by cases h), fun _ => rfl⟩
    · intro t wq hbq hh K hK
      have e42 := hh.1
      simp only [pick] at e42
      replace e42 : t 42 = (.bool c5) := e42
      clear hh
      simp only [filled, filledN, upd, Have, is, any, row, pick, Act.put, List.setIfInBounds_toArray, List.set_cons_zero, List.set_cons_succ, Nat.reduceAdd, Nat.reduceEqDiff, reduceIte, whn] at hK ⊢
      cases c5 with
      | true =>
        simp only [e42] at hK ⊢
        go_simp
        exact hK _ _ (Below.refl _ _) ⟨fun _ => rfl, fun h => by cases h⟩
      | false =>
        simp only [e42] at hK ⊢
        go_simp
        exact hK _ _ (Below.refl _ _) ⟨(fun h => by cases h), fun _ => rfl⟩
    · intro t wq hbq hh K hK
      have e42 := hh.1
      simp only [pick] at e42
      replace e42 : t 42 = (.bool c5) := e42
      have e47 := hh.2.1
      simp only [pick] at e47
      replace e47 : ((c5) = true → t 47 = (.pointer (some ⟨w.heap.size, 11, none⟩))) ∧ ((c5) = false → t 47 = undef) := e47
      clear hh
      simp only [filled, filledN, upd, Have, is, any, row, pick, Act.put, List.setIfInBounds_toArray, List.set_cons_zero, List.set_cons_succ, Nat.reduceAdd, Nat.reduceEqDiff, reduceIte, whn] at hK ⊢
      cases c5 with
      | true =>
        replace e47 := e47.1 rfl
        simp only [e42, e47] at hK ⊢
        have hc := (Bx.cell ((hbq.block _ (by omega)).trans HX1.out) 11).trans (show _ = some (.string as11) from rfl)
        go_simp
        exact hK _ _ (Below.refl _ _) ⟨fun _ => rfl, fun h => by cases h⟩
      | false =>
        replace e47 := e47.2 rfl
        simp only [e42, e47] at hK ⊢
        go_simp
        exact hK _ _ (Below.refl _ _) ⟨(fun h => by cases h), fun _ => rfl⟩
    · intro t wq hbq hh K hK
      have e42 := hh.1
      simp only [pick] at e42
      replace e42 : t 42 = (.bool c5) := e42
      clear hh
      simp only [filled, filledN, upd, Have, is, any, row, pick, Act.put, List.setIfInBounds_toArray, List.set_cons_zero, List.set_cons_succ, Nat.reduceAdd, Nat.reduceEqDiff, reduceIte, whn] at hK ⊢
      cases c5 with
      | true =>
        simp only [e42] at hK ⊢
        go_simp
        exact hK _ _ (Below.refl _ _) ⟨fun _ => rfl, fun h => by cases h⟩
      | false =>
        simp only [e42] at hK ⊢
        go_simp
        exact hK _ _ (Below.refl _ _) ⟨(fun h => by cases h), fun _ => rfl⟩
    · intro t wq hbq hh K hK
      have e42 := hh.1
      simp only [pick] at e42
      replace e42 : t 42 = (.bool c5) := e42
      have e49 := hh.2.1
      simp only [pick] at e49
      replace e49 : ((c5) = true → t 49 = (.pointer (some ⟨w.heap.size + 1, 11, none⟩))) ∧ ((c5) = false → t 49 = undef) := e49
      clear hh
      simp only [filled, filledN, upd, Have, is, any, row, pick, Act.put, List.setIfInBounds_toArray, List.set_cons_zero, List.set_cons_succ, Nat.reduceAdd, Nat.reduceEqDiff, reduceIte, whn] at hK ⊢
      cases c5 with
      | true =>
        replace e49 := e49.1 rfl
        simp only [e42, e49] at hK ⊢
        have hc := (Bx.cell ((hbq.block _ hlt0).trans HX2.out) 11).trans (show _ = some (.string bs11) from rfl)
        go_simp
        exact hK _ _ (Below.refl _ _) ⟨fun _ => rfl, fun h => by cases h⟩
      | false =>
        replace e49 := e49.2 rfl
        simp only [e42, e49] at hK ⊢
        go_simp
        exact hK _ _ (Below.refl _ _) ⟨(fun h => by cases h), fun _ => rfl⟩
    · intro t wq hbq hh K hK
      have e42 := hh.1
      simp only [pick] at e42
      replace e42 : t 42 = (.bool c5) := e42
      have e44 := hh.2.1
      simp only [pick] at e44
      replace e44 : ((c5) = true → t 44 = (.bool ab9)) ∧ ((c5) = false → t 44 = undef) := e44
      have e46 := hh.2.2.1
      simp only [pick] at e46
      replace e46 : ((c5) = true → t 46 = (.bool bb9)) ∧ ((c5) = false → t 46 = undef) := e46
      have e48 := hh.2.2.2.1
      simp only [pick] at e48
      replace e48 : ((c5) = true → t 48 = (.string as11)) ∧ ((c5) = false → t 48 = undef) := e48
      have e50 := hh.2.2.2.2.1
      simp only [pick] at e50
      replace e50 : ((c5) = true → t 50 = (.string bs11)) ∧ ((c5) = false → t 50 = undef) := e50
      clear hh
      simp only [filled, filledN, upd, Have, is, any, row, pick, Act.put, List.setIfInBounds_toArray, List.set_cons_zero, List.set_cons_succ, Nat.reduceAdd, Nat.reduceEqDiff, reduceIte, whn] at hK ⊢
      cases c5 with
      | true =>
        replace e44 := e44.1 rfl
        replace e46 := e46.1 rfl
        replace e48 := e48.1 rfl
        replace e50 := e50.1 rfl
        simp only [e42, e44, e46, e48, e50] at hK ⊢
        go_simp
        refine (sameText_any _ _ _ _ _).mono ?_
        rintro e w5 ⟨rfl, hw⟩
        subst hw
        rw [← H6.out]
        exact hK _ _ (Below.refl _ _) ⟨fun _ => rfl, fun h => by cases h⟩
      | false =>
        replace e44 := e44.2 rfl
        replace e46 := e46.2 rfl
        replace e48 := e48.2 rfl
        replace e50 := e50.2 rfl
        simp only [e42, e44, e46, e48, e50] at hK ⊢
        go_simp
        exact hK _ _ (Below.refl _ _) ⟨(fun h => by cases h), fun _ => rfl⟩
    · intro t wq hbq hh K hK
      have e42 := hh.1
      simp only [pick] at e42
      replace e42 : t 42 = (.bool c5) := e42
      have e51 := hh.2.1
      simp only [pick] at e51
      replace e51 : ((c5) = true → t 51 = (.bool o6)) ∧ ((c5) = false → t 51 = undef) := e51
      clear hh
      simp only [filled, filledN, upd, Have, is, any, row, pick, Act.put, List.setIfInBounds_toArray, List.set_cons_zero, List.set_cons_succ, Nat.reduceAdd, Nat.reduceEqDiff, reduceIte, whn] at hK ⊢
      cases c5 with
      | true =>
        replace e51 := e51.1 rfl
        simp only [e42, e51] at hK ⊢
        go_simp
        exact hK _ _ (Below.refl _ _) (by show _ = _; rw [HC6.out]; simp)
      | false =>
        replace e51 := e51.2 rfl
        simp only [e42, e51] at hK ⊢
        go_simp
        exact hK _ _ (Below.refl _ _) (by show _ = _; rw [HC6.out]; simp)
    · intro t wq hbq hh K hK
      have e52 := hh.1
      simp only [pick] at e52
      replace e52 : t 52 = (.bool c6) := e52
      clear hh
      simp only [filled, filledN, upd, Have, is, any, row, pick, Act.put, List.setIfInBounds_toArray, List.set_cons_zero, List.set_cons_succ, Nat.reduceAdd, Nat.reduceEqDiff, reduceIte, whn] at hK ⊢
      simp only [e52] at hK ⊢
      go_simp
      exact hK _ _ (Below.refl _ _) rfl
    · intro t wq hbq hh K hK
      have e53 := hh.1
      simp only [pick] at e53
      replace e53 : t 53 = (.bool c6) := e53
      clear hh
      simp only [filled, filledN, upd, Have, is, any, row, pick, Act.put, List.setIfInBounds_toArray, List.set_cons_zero, List.set_cons_succ, Nat.reduceAdd, Nat.reduceEqDiff, reduceIte, whn] at hK ⊢
      cases c6 with
      | true =>
        simp only [e53] at hK ⊢
        go_simp
        exact hK _ _ (Below.refl _ _) ⟨fun _ => rfl, fun h => by cases h⟩
      | false =>
        simp only [e53] at hK ⊢
        go_simp
        exact hK _ _ (Below.refl _ _) ⟨(fun h => by cases h), fun _ => rfl⟩
    · intro t wq hbq hh K hK
      have e53 := hh.1
      simp only [pick] at e53
      replace e53 : t 53 = (.bool c6) := e53
      have e54 := hh.2.1
      simp only [pick] at e54
      replace e54 : ((c6) = true → t 54 = (.pointer (some ⟨w.heap.size, 10, none⟩))) ∧ ((c6) = false → t 54 = undef) := e54
      clear hh
      simp only [filled, filledN, upd, Have, is, any, row, pick, Act.put, List.setIfInBounds_toArray, List.set_cons_zero, List.set_cons_succ, Nat.reduceAdd, Nat.reduceEqDiff, reduceIte, whn] at hK ⊢
      cases c6 with
      | true =>
        replace e54 := e54.1 rfl
        simp only [e53, e54] at hK ⊢
        have hc := (Bx.cell ((hbq.block _ (by omega)).trans HX1.out) 10).trans (show _ = some (.bool ab10) from rfl)
        go_simp
        exact hK _ _ (Below.refl _ _) ⟨fun _ => rfl, fun h => by cases h⟩
      | false =>
        replace e54 := e54.2 rfl
        simp only [e53, e54] at hK ⊢
        go_simp
        exact hK _ _ (Below.refl _ _) ⟨(fun h => by cases h), fun _ => rfl⟩
    · intro t wq hbq hh K hK
      have e53 := hh.1
      simp only [pick] at e53
      replace e53 : t 53 = (.bool c6) := e53
      clear hh
      simp only [filled, filledN, upd, Have, is, any, row, pick, Act.put, List.setIfInBounds_toArray, List.set_cons_zero, List.set_cons_succ, Nat.reduceAdd, Nat.reduceEqDiff, reduceIte, whn] at hK ⊢
      cases c6 with
      | true =>
        simp only [e53] at hK ⊢
        go_simp
        exact hK _ _ (Below.refl _ _) ⟨fun _ => rfl, fun h => by cases h⟩
      | false =>
        simp only [e53] at hK ⊢
        go_simp
        exact hK _ _ (Below.refl _ _) ⟨(fun h => by cases h), fun _ => rfl⟩
    · intro t wq hbq hh K hK
      have e53 := hh.1
      simp only [pick] at e53
      replace e53 : t 53 = (.bool c6) := e53
      have e56 := hh.2.1
      simp only [pick] at e56
      replace e56 : ((c6) = true → t 56 = (.pointer (some ⟨w.heap.size + 1, 10, none⟩))) ∧ ((c6) = false → t 56 = undef) := e56
      clear hh
      simp only [filled, filledN, upd, Have, is, any, row, pick, Act.put, List.setIfInBounds_toArray, List.set_cons_zero, List.set_cons_succ, Nat.reduceAdd, Nat.reduceEqDiff, reduceIte, whn] at hK ⊢
      cases c6 with
      | true =>
        replace e56 := e56.1 rfl
        simp only [e53, e56] at hK ⊢
        have hc := (Bx.cell ((hbq.block _ hlt0).trans HX2.out) 10).trans (show _ = some (.bool bb10) from rfl)
        go_simp
        exact hK _ _ (Below.refl _ _) ⟨fun _ => rfl, fun h => by cases h⟩
      | false =>
        replace e56 := e56.2 rfl
        simp only [e53, e56] at hK ⊢
        go_simp
        exact hK _ _ (Below.refl _ _) ⟨(fun h => by cases h), fun _ => rfl⟩
    · intro t wq hbq hh K hK
      have e53 := hh.1
      simp only [pick] at e53
      replace e53 : t 53 = (.bool c6) := e53
      clear hh
      simp only [filled, filledN, upd, Have, is, any, row, pick, Act.put, List.setIfInBounds_toArray, List.set_cons_zero, List.set_cons_succ, Nat.reduceAdd, Nat.reduceEqDiff, reduceIte, whn] at hK ⊢
      cases c6 with
      | true =>
        simp only [e53] at hK ⊢
        go_simp
        exact hK _ _ (Below.refl _ _) ⟨fun _ => rfl, fun h => by cases h⟩
      | false =>
        simp only [e53] at hK ⊢
        go_simp
        exact hK _ _ (Below.refl _ _) ⟨(fun h => by cases h), fun _ => rfl⟩
    · intro t wq hbq hh K hK
      have e53 := hh.1
      simp only [pick] at e53
      replace e53 : t 53 = (.bool c6) := e53
      have e58 := hh.2.1
      simp only [pick] at e58
      replace e58 : ((c6) = true → t 58 = (.pointer (some ⟨w.heap.size, 12, none⟩))) ∧ ((c6) = false → t 58 = undef) := e58
      clear hh
      simp only [filled, filledN, upd, Have, is, any, row, pick, Act.put, List.setIfInBounds_toArray, List.set_cons_zero, List.set_cons_succ, Nat.reduceAdd, Nat.reduceEqDiff, reduceIte, whn] at hK ⊢
      cases c6 with
      | true =>
        replace e58 := e58.1 rfl
        simp only [e53, e58] at hK ⊢
        have hc := (Bx.cell ((hbq.block _ (by omega)).trans HX1.out) 12).trans (show _ = some (.string as12) from rfl)
        go_simp
        exact hK _ _ (Below.refl _ _) ⟨fun _ => rfl, fun h => by cases h⟩
      | false =>
        replace e58 := e58.2 rfl
        simp only [e53, e58] at hK ⊢
        go_simp
        exact hK _ _ (Below.refl _ _) ⟨(fun h => by cases h), fun _ => rfl⟩
    · intro t wq hbq hh K hK
      have e53 := hh.1
      simp only [pick] at e53
      replace e53 : t 53 = (.bool c6) := e53
      clear hh
      simp only [filled, filledN, upd, Have, is, any, row, pick, Act.put, List.setIfInBounds_toArray, List.set_cons_zero, List.set_cons_succ, Nat.reduceAdd, Nat.reduceEqDiff, reduceIte, whn] at hK ⊢
      cases c6 with
      | true =>
        simp only [e53] at hK ⊢
        go_simp
        exact hK _ _ (Below.refl _ _) ⟨fun _ => rfl, fun h => by cases h⟩
      | false =>
        simp only [e53] at hK ⊢
        go_simp
        exact hK _ _ (Below.refl _ _) ⟨(fun h => by cases h), fun _ => rfl⟩
    · intro t wq hbq hh K hK
      have e53 := hh.1
      simp only [pick] at e53
      replace e53 : t 53 = (.bool c6) := e53
      have e60 := hh.2.1
      simp only [pick] at e60
      replace e60 : ((c6) = true → t 60 = (.pointer (some ⟨w.heap.size + 1, 12, none⟩))) ∧ ((c6) = false → t 60 = undef) := e60
      clear hh
      simp only [filled, filledN, upd, Have, is, any, row, pick, Act.put, List.setIfInBounds_toArray, List.set_cons_zero, List.set_cons_succ, Nat.reduceAdd, Nat.reduceEqDiff, reduceIte, whn] at hK ⊢
      cases c6 with
      | true =>
        replace e60 := e60.1 rfl
        simp only [e53, e60] at hK ⊢
        have hc := (Bx.cell ((hbq.block _ hlt0).trans HX2.out) 12).trans (show _ = some (.string bs12) from rfl)
        go_simp
        exact hK _ _ (Below.refl _ _) ⟨fun _ => rfl, fun h => by cases h⟩
      | false =>
        replace e60 := e60.2 rfl
        simp only [e53, e60] at hK ⊢
        go_simp
        exact hK _ _ (Below.refl _ _) ⟨(fun h => by cases h), fun _ => rfl⟩
    · intro t wq hbq hh K hK
      have e53 := hh.1
      simp only [pick] at e53
      replace e53 : t 53 = (.bool c6) := e53
      have e55 := hh.2.1
      simp only [pick] at e55
      replace e55 : ((c6) = true → t 55 = (.bool ab10)) ∧ ((c6) = false → t 55 = undef) := e55
      have e57 := hh.2.2.1
      simp only [pick] at e57
      replace e57 : ((c6) = true → t 57 = (.bool bb10)) ∧ ((c6) = false → t 57 = undef) := e57
      have e59 := hh.2.2.2.1
      simp only [pick] at e59
      replace e59 : ((c6) = true → t 59 = (.string as12)) ∧ ((c6) = false → t 59 = undef) := e59
      have e61 := hh.2.2.2.2.1
      simp only [pick] at e61
      replace e61 : ((c6) = true → t 61 = (.string bs12)) ∧ ((c6) = false → t 61 = undef) := e61
      clear hh
      simp only [filled, filledN, upd, Have, is, any, row, pick, Act.put, List.setIfInBounds_toArray, List.set_cons_zero, List.set_cons_succ, Nat.reduceAdd, Nat.reduceEqDiff, reduceIte, whn] at hK ⊢
      cases c6 with
      | true =>
        replace e55 := e55.1 rfl
        replace e57 := e57.1 rfl
        replace e59 := e59.1 rfl
        replace e61 := e61.1 rfl
        simp only [e53, e55, e57, e59, e61] at hK ⊢
        go_simp
        refine (sameText_any _ _ _ _ _).mono ?_
        rintro e w5 ⟨rfl, hw⟩
        subst hw
        rw [← H7.out]
        exact hK _ _ (Below.refl _ _) ⟨fun _ => rfl, fun h => by cases h⟩
      | false =>
        replace e55 := e55.2 rfl
        replace e57 := e57.2 rfl
        replace e59 := e59.2 rfl
        replace e61 := e61.2 rfl
        simp only [e53, e55, e57, e59, e61] at hK ⊢
        go_simp
        exact hK _ _ (Below.refl _ _) ⟨(fun h => by cases h), fun _ => rfl⟩
    · intro t wq hbq hh K hK
      have e53 := hh.1
      simp only [pick] at e53
      replace e53 : t 53 = (.bool c6) := e53
      have e62 := hh.2.1
      simp only [pick] at e62
      replace e62 : ((c6) = true → t 62 = (.bool o7)) ∧ ((c6) = false → t 62 = undef) := e62
      clear hh
      simp only [filled, filledN, upd, Have, is, any, row, pick, Act.put, List.setIfInBounds_toArray, List.set_cons_zero, List.set_cons_succ, Nat.reduceAdd, Nat.reduceEqDiff, reduceIte, whn] at hK ⊢
      cases c6 with
      | true =>
        replace e62 := e62.1 rfl
        simp only [e53, e62] at hK ⊢
        go_simp
        exact hK _ _ (Below.refl _ _) (by show _ = _; rw [HC7.out]; simp)
      | false =>
        replace e62 := e62.2 rfl
        simp only [e53, e62] at hK ⊢
        go_simp
        exact hK _ _ (Below.refl _ _) (by show _ = _; rw [HC7.out]; simp)
    · intro t wq hbq hh K hK
      have e63 := hh.1
      simp only [pick] at e63
      replace e63 : t 63 = (.bool c7) := e63
      clear hh
      simp only [filled, filledN, upd, Have, is, any, row, pick, Act.put, List.setIfInBounds_toArray, List.set_cons_zero, List.set_cons_succ, Nat.reduceAdd, Nat.reduceEqDiff, reduceIte, whn] at hK ⊢
      simp only [e63] at hK ⊢
      go_simp
      exact hK _ _ (Below.refl _ _) rfl
  · intro t wq hbq hh
    have f64 := have_get hh 64 (by decide)
    simp only [pick] at f64
    replace f64 : t 64 = (.bool c7) := f64
    clear hh
    simp only [List.length_cons, List.length_nil, Nat.reduceAdd, filled, filledN, upd, Have, is, any, row, pick, Act.put, List.setIfInBounds_toArray, List.set_cons_zero, List.set_cons_succ, Nat.reduceAdd, Nat.reduceEqDiff, reduceIte, whn]
    simp only [f64]
    go_wp2
    go_ret
    exact ⟨ret_bool HE.out.symm, HB0.out.trans (hbq.mono HB0.out.size)⟩
end Go.Proofs.YtofjngfeclmneaaDoor.UrlF
