/- The walk of the law IdentNames: it returns true, whatever it is called with. -/
import Derived.Test.YtdgdmlchegjejaaIdnS
import Derived.Test.YtdgdmlchegjejaaIdnW
import Derived.Test.YtdgdmlchegjejaaRegt
namespace Go.Proofs.Ytdgdmlchegjejaa.Laws
open Go.RowKit Go.Proofs.Ytdgdmlchegjejaa.Base Go.Proofs.Ytdgdmlchegjejaa.Base2 Go.Proofs.Ytdgdmlchegjejaa.IdnA Go.Proofs.Ytdgdmlchegjejaa.IdnP Go.Proofs.Ytdgdmlchegjejaa.IdnR Go.Proofs.Ytdgdmlchegjejaa.Regs

theorem cells16 {w : World} {b : Nat} {f : Nat → UInt8} {T : TypeId} (h : w.heap[b]? = some (.cells #[.int .u8 ((f 0).toNat : Int), .int .u8 ((f 1).toNat : Int), .int .u8 ((f 2).toNat : Int), .int .u8 ((f 3).toNat : Int), .int .u8 ((f 4).toNat : Int), .int .u8 ((f 5).toNat : Int), .int .u8 ((f 6).toNat : Int), .int .u8 ((f 7).toNat : Int), .int .u8 ((f 8).toNat : Int), .int .u8 ((f 9).toNat : Int), .int .u8 ((f 10).toNat : Int), .int .u8 ((f 11).toNat : Int), .int .u8 ((f 12).toNat : Int), .int .u8 ((f 13).toNat : Int), .int .u8 ((f 14).toNat : Int), .int .u8 ((f 15).toNat : Int)] T (0, 0))) : w.cell? ⟨b, 0, none⟩ = some (.int .u8 ((f 0).toNat : Int)) ∧ w.cell? ⟨b, 1, none⟩ = some (.int .u8 ((f 1).toNat : Int)) ∧ w.cell? ⟨b, 2, none⟩ = some (.int .u8 ((f 2).toNat : Int)) ∧ w.cell? ⟨b, 3, none⟩ = some (.int .u8 ((f 3).toNat : Int)) ∧ w.cell? ⟨b, 4, none⟩ = some (.int .u8 ((f 4).toNat : Int)) ∧ w.cell? ⟨b, 5, none⟩ = some (.int .u8 ((f 5).toNat : Int)) ∧ w.cell? ⟨b, 6, none⟩ = some (.int .u8 ((f 6).toNat : Int)) ∧ w.cell? ⟨b, 7, none⟩ = some (.int .u8 ((f 7).toNat : Int)) ∧ w.cell? ⟨b, 8, none⟩ = some (.int .u8 ((f 8).toNat : Int)) ∧ w.cell? ⟨b, 9, none⟩ = some (.int .u8 ((f 9).toNat : Int)) ∧ w.cell? ⟨b, 10, none⟩ = some (.int .u8 ((f 10).toNat : Int)) ∧ w.cell? ⟨b, 11, none⟩ = some (.int .u8 ((f 11).toNat : Int)) ∧ w.cell? ⟨b, 12, none⟩ = some (.int .u8 ((f 12).toNat : Int)) ∧ w.cell? ⟨b, 13, none⟩ = some (.int .u8 ((f 13).toNat : Int)) ∧ w.cell? ⟨b, 14, none⟩ = some (.int .u8 ((f 14).toNat : Int)) ∧ w.cell? ⟨b, 15, none⟩ = some (.int .u8 ((f 15).toNat : Int)) := by
  refine ⟨?_, ?_, ?_, ?_, ?_, ?_, ?_, ?_, ?_, ?_, ?_, ?_, ?_, ?_, ?_, ?_⟩ <;> exact (cell_of_row w b _ _ _ _ h).trans rfl
theorem is_own (f : Nat → UInt8) (w : World) : Calls Try.prog 25 #[.string (strOf (nm f 16))] w fun e w' => e = .returned (.bool true) ∧ Below w.heap.size w w' := by
  have hl := (nm_isn f).1
  have h := IdnC.is_any (strOf (nm f 16)) w (by rw [size_strOf, hl]; omega)
  have e : (strOf (nm f 16)).data.toList = nm f 16 := rfl
  rw [e, decide_eq_true (own_name f)] at h
  exact h
set_option linter.unusedSimpArgs false in
set_option maxHeartbeats 4000000 in
set_option maxRecDepth 100000 in
theorem IdentNames_any (z : Nat → Int) (s : ByteArray) (w : World) (hz : ∀ i, i < 16 → 0 ≤ z i ∧ z i ≤ 255) (hs : s.size ≤ 140737488351232) :
    Calls Try.prog 8 #[.agg #[.int .u8 (z 0), .int .u8 (z 1), .int .u8 (z 2), .int .u8 (z 3), .int .u8 (z 4), .int .u8 (z 5), .int .u8 (z 6), .int .u8 (z 7), .int .u8 (z 8), .int .u8 (z 9), .int .u8 (z 10), .int .u8 (z 11), .int .u8 (z 12), .int .u8 (z 13), .int .u8 (z 14), .int .u8 (z 15)], .string s] w fun e w' => e = .returned (.bool true) ∧ Below w.heap.size w w' := by
  obtain ⟨f, hf⟩ : ∃ f : Nat → UInt8, ∀ i, i < 16 → z i = ((f i).toNat : Int) := ⟨fun i => UInt8.ofNat (z i).toNat, fun i hi => by have := hz i hi; simp; omega⟩
  rw [hf 0 (by decide), hf 1 (by decide), hf 2 (by decide), hf 3 (by decide), hf 4 (by decide), hf 5 (by decide), hf 6 (by decide), hf 7 (by decide), hf 8 (by decide), hf 9 (by decide), hf 10 (by decide), hf 11 (by decide), hf 12 (by decide), hf 13 (by decide), hf 14 (by decide), hf 15 (by decide)]
  clear hf hz
  obtain ⟨B, hB⟩ : ∃ B : Bool, B = decide (own s.data.toList = s.data.toList) := ⟨_, rfl⟩
  have HB := hid hB
  clear hB
  go_enter Try.func8, Try.ntmps8
  go_wp2_with fail
  generalize hw1 : w.alloc _ = w1
  have hbel1 : Below w.heap.size w w1 := by rw [← hw1]; exact (Below.refl _ _).alloc (Nat.le_refl _) _
  have HROW1 : Hid (w1.heap[w.heap.size]? = some (.cells #[.int .u8 ((f 0).toNat : Int), .int .u8 ((f 1).toNat : Int), .int .u8 ((f 2).toNat : Int), .int .u8 ((f 3).toNat : Int), .int .u8 ((f 4).toNat : Int), .int .u8 ((f 5).toNat : Int), .int .u8 ((f 6).toNat : Int), .int .u8 ((f 7).toNat : Int), .int .u8 ((f 8).toNat : Int), .int .u8 ((f 9).toNat : Int), .int .u8 ((f 10).toNat : Int), .int .u8 ((f 11).toNat : Int), .int .u8 ((f 12).toNat : Int), .int .u8 ((f 13).toNat : Int), .int .u8 ((f 14).toNat : Int), .int .u8 ((f 15).toNat : Int)] 39 (0, 0))) := by
    show _ = _
    rw [← hw1]
    exact heap_alloc_new w _
  have hs1 : w.heap.size < w1.heap.size := by rw [← hw1]; simp
  clear hw1
  refine (IdnW.awake_any _).mono ?_
  rintro e w2 ⟨rfl, hb2⟩
  have HROW := hid ((hb2.block _ hs1).trans HROW1.out)
  have hblt : w.heap.size < w2.heap.size := Nat.lt_of_lt_of_le hs1 hb2.size
  have hbel := hbel1.trans (hb2.mono hbel1.size)
  by_cases h100 : s.size ≤ 100
  · go_wp2_with fail
    refine wp_region_rel (by kernel_rfl) [is (.agg #[.int .u8 ((f 0).toNat : Int), .int .u8 ((f 1).toNat : Int), .int .u8 ((f 2).toNat : Int), .int .u8 ((f 3).toNat : Int), .int .u8 ((f 4).toNat : Int), .int .u8 ((f 5).toNat : Int), .int .u8 ((f 6).toNat : Int), .int .u8 ((f 7).toNat : Int), .int .u8 ((f 8).toNat : Int), .int .u8 ((f 9).toNat : Int), .int .u8 ((f 10).toNat : Int), .int .u8 ((f 11).toNat : Int), .int .u8 ((f 12).toNat : Int), .int .u8 ((f 13).toNat : Int), .int .u8 ((f 14).toNat : Int), .int .u8 ((f 15).toNat : Int)]), is (.string (strOf (nm f 16))), is (.agg #[.int .u8 ((f 0).toNat : Int), .int .u8 ((f 1).toNat : Int), .int .u8 ((f 2).toNat : Int), .int .u8 ((f 3).toNat : Int), .int .u8 ((f 4).toNat : Int), .int .u8 ((f 5).toNat : Int), .int .u8 ((f 6).toNat : Int), .int .u8 ((f 7).toNat : Int), .int .u8 ((f 8).toNat : Int), .int .u8 ((f 9).toNat : Int), .int .u8 ((f 10).toNat : Int), .int .u8 ((f 11).toNat : Int), .int .u8 ((f 12).toNat : Int), .int .u8 ((f 13).toNat : Int), .int .u8 ((f 14).toNat : Int), .int .u8 ((f 15).toNat : Int)]), is (.string (strOf (nm f 16))), is (.bool true), is (.bool true), is (.string s), is (.bool B), is (.string s), is (.bool B), is (.bool true), is (.bool true), is (.bool true), is (.agg #[.int .u8 ((f 0).toNat : Int), .int .u8 ((f 1).toNat : Int), .int .u8 ((f 2).toNat : Int), .int .u8 ((f 3).toNat : Int), .int .u8 ((f 4).toNat : Int), .int .u8 ((f 5).toNat : Int), .int .u8 ((f 6).toNat : Int), .int .u8 ((f 7).toNat : Int), .int .u8 ((f 8).toNat : Int), .int .u8 ((f 9).toNat : Int), .int .u8 ((f 10).toNat : Int), .int .u8 ((f 11).toNat : Int), .int .u8 ((f 12).toNat : Int), .int .u8 ((f 13).toNat : Int), .int .u8 ((f 14).toNat : Int), .int .u8 ((f 15).toNat : Int)]), is (.string (strOf (nm f 16))), is (.bool true), is (.bool true), is (.bool true)] [[], [0], [], [2], [1, 3], [4], [5], [5, 6], [5], [5, 8], [5, 7, 9], [5, 10], [11], [12], [12, 13], [12, 14], [12, 15], [16]] (by kernel_rfl) ?_ ?_
    · refine ⟨?_, ?_, ?_, ?_, ?_, ?_, ?_, ?_, ?_, ?_, ?_, ?_, ?_, ?_, ?_, ?_, ?_, ?_, trivial⟩
      · intro t wq hbq hh K hK
        clear hh
        simp only [filled, upd, Have, is, any, row, pick, Act.put, List.setIfInBounds_toArray, List.set_cons_zero, List.set_cons_succ, Nat.reduceAdd, Nat.reduceEqDiff, reduceIte] at hK ⊢
        have hrow := (hbq.block _ hblt).trans HROW.out
        obtain ⟨a0, a1, a2, a3, a4, a5, a6, a7, a8, a9, a10, a11, a12, a13, a14, a15⟩ := cells16 hrow
        clear hrow
        go_simp
        exact hK _ _ (Below.refl _ _) rfl
      · intro t wq hbq hh K hK
        have e0 := hh.1
        simp only [pick] at e0
        replace e0 : t 0 = (.agg #[.int .u8 ((f 0).toNat : Int), .int .u8 ((f 1).toNat : Int), .int .u8 ((f 2).toNat : Int), .int .u8 ((f 3).toNat : Int), .int .u8 ((f 4).toNat : Int), .int .u8 ((f 5).toNat : Int), .int .u8 ((f 6).toNat : Int), .int .u8 ((f 7).toNat : Int), .int .u8 ((f 8).toNat : Int), .int .u8 ((f 9).toNat : Int), .int .u8 ((f 10).toNat : Int), .int .u8 ((f 11).toNat : Int), .int .u8 ((f 12).toNat : Int), .int .u8 ((f 13).toNat : Int), .int .u8 ((f 14).toNat : Int), .int .u8 ((f 15).toNat : Int)]) := e0
        clear hh
        simp only [filled, upd, Have, is, any, row, pick, Act.put, List.setIfInBounds_toArray, List.set_cons_zero, List.set_cons_succ, Nat.reduceAdd, Nat.reduceEqDiff, reduceIte] at hK ⊢
        simp only [e0] at hK ⊢
        go_simp
        refine (of_any f _).mono ?_
        rintro e w5 ⟨rfl, hb5⟩
        exact hK _ _ hb5 rfl
      · intro t wq hbq hh K hK
        clear hh
        simp only [filled, upd, Have, is, any, row, pick, Act.put, List.setIfInBounds_toArray, List.set_cons_zero, List.set_cons_succ, Nat.reduceAdd, Nat.reduceEqDiff, reduceIte] at hK ⊢
        have hrow := (hbq.block _ hblt).trans HROW.out
        obtain ⟨a0, a1, a2, a3, a4, a5, a6, a7, a8, a9, a10, a11, a12, a13, a14, a15⟩ := cells16 hrow
        clear hrow
        go_simp
        exact hK _ _ (Below.refl _ _) rfl
      · intro t wq hbq hh K hK
        have e2 := hh.1
        simp only [pick] at e2
        replace e2 : t 2 = (.agg #[.int .u8 ((f 0).toNat : Int), .int .u8 ((f 1).toNat : Int), .int .u8 ((f 2).toNat : Int), .int .u8 ((f 3).toNat : Int), .int .u8 ((f 4).toNat : Int), .int .u8 ((f 5).toNat : Int), .int .u8 ((f 6).toNat : Int), .int .u8 ((f 7).toNat : Int), .int .u8 ((f 8).toNat : Int), .int .u8 ((f 9).toNat : Int), .int .u8 ((f 10).toNat : Int), .int .u8 ((f 11).toNat : Int), .int .u8 ((f 12).toNat : Int), .int .u8 ((f 13).toNat : Int), .int .u8 ((f 14).toNat : Int), .int .u8 ((f 15).toNat : Int)]) := e2
        clear hh
        simp only [filled, upd, Have, is, any, row, pick, Act.put, List.setIfInBounds_toArray, List.set_cons_zero, List.set_cons_succ, Nat.reduceAdd, Nat.reduceEqDiff, reduceIte] at hK ⊢
        simp only [e2] at hK ⊢
        go_simp
        refine (IdnB.name_any f _).mono ?_
        rintro e w5 ⟨rfl, hb5⟩
        exact hK _ _ hb5 rfl
      · intro t wq hbq hh K hK
        have e1 := hh.1
        simp only [pick] at e1
        replace e1 : t 1 = (.string (strOf (nm f 16))) := e1
        have e3 := hh.2.1
        simp only [pick] at e3
        replace e3 : t 3 = (.string (strOf (nm f 16))) := e3
        clear hh
        simp only [filled, upd, Have, is, any, row, pick, Act.put, List.setIfInBounds_toArray, List.set_cons_zero, List.set_cons_succ, Nat.reduceAdd, Nat.reduceEqDiff, reduceIte] at hK ⊢
        simp only [e1, e3] at hK ⊢
        go_simp
        exact hK _ _ (Below.refl _ _) (by simp [is, pick])
      · intro t wq hbq hh K hK
        have e4 := hh.1
        simp only [pick] at e4
        replace e4 : t 4 = (.bool true) := e4
        clear hh
        simp only [filled, upd, Have, is, any, row, pick, Act.put, List.setIfInBounds_toArray, List.set_cons_zero, List.set_cons_succ, Nat.reduceAdd, Nat.reduceEqDiff, reduceIte] at hK ⊢
        simp only [e4] at hK ⊢
        go_simp
        exact hK _ _ (Below.refl _ _) rfl
      · intro t wq hbq hh K hK
        have e5 := hh.1
        simp only [pick] at e5
        replace e5 : t 5 = (.bool true) := e5
        clear hh
        simp only [filled, upd, Have, is, any, row, pick, Act.put, List.setIfInBounds_toArray, List.set_cons_zero, List.set_cons_succ, Nat.reduceAdd, Nat.reduceEqDiff, reduceIte] at hK ⊢
        simp only [e5] at hK ⊢
        go_simp
        exact hK _ _ (Below.refl _ _) rfl
      · intro t wq hbq hh K hK
        have e5 := hh.1
        simp only [pick] at e5
        replace e5 : t 5 = (.bool true) := e5
        have e6 := hh.2.1
        simp only [pick] at e6
        replace e6 : t 6 = (.string s) := e6
        clear hh
        simp only [filled, upd, Have, is, any, row, pick, Act.put, List.setIfInBounds_toArray, List.set_cons_zero, List.set_cons_succ, Nat.reduceAdd, Nat.reduceEqDiff, reduceIte] at hK ⊢
        simp only [e5, e6] at hK ⊢
        go_simp
        refine (IdnC.is_any s _ (by omega)).mono ?_
        rintro e w5 ⟨rfl, hb5⟩
        rw [← HB.out]
        exact hK _ _ hb5 rfl
      · intro t wq hbq hh K hK
        have e5 := hh.1
        simp only [pick] at e5
        replace e5 : t 5 = (.bool true) := e5
        clear hh
        simp only [filled, upd, Have, is, any, row, pick, Act.put, List.setIfInBounds_toArray, List.set_cons_zero, List.set_cons_succ, Nat.reduceAdd, Nat.reduceEqDiff, reduceIte] at hK ⊢
        simp only [e5] at hK ⊢
        go_simp
        exact hK _ _ (Below.refl _ _) rfl
      · intro t wq hbq hh K hK
        have e5 := hh.1
        simp only [pick] at e5
        replace e5 : t 5 = (.bool true) := e5
        have e8 := hh.2.1
        simp only [pick] at e8
        replace e8 : t 8 = (.string s) := e8
        clear hh
        simp only [filled, upd, Have, is, any, row, pick, Act.put, List.setIfInBounds_toArray, List.set_cons_zero, List.set_cons_succ, Nat.reduceAdd, Nat.reduceEqDiff, reduceIte] at hK ⊢
        simp only [e5, e8] at hK ⊢
        go_simp
        refine (IdnS.is_ref s _ (by omega)).mono ?_
        rintro e w5 ⟨rfl, rfl⟩
        rw [← HB.out]
        exact hK _ _ (Below.refl _ _) rfl
      · intro t wq hbq hh K hK
        have e5 := hh.1
        simp only [pick] at e5
        replace e5 : t 5 = (.bool true) := e5
        have e7 := hh.2.1
        simp only [pick] at e7
        replace e7 : t 7 = (.bool B) := e7
        have e9 := hh.2.2.1
        simp only [pick] at e9
        replace e9 : t 9 = (.bool B) := e9
        clear hh
        simp only [filled, upd, Have, is, any, row, pick, Act.put, List.setIfInBounds_toArray, List.set_cons_zero, List.set_cons_succ, Nat.reduceAdd, Nat.reduceEqDiff, reduceIte] at hK ⊢
        simp only [e5, e7, e9] at hK ⊢
        go_simp
        exact hK _ _ (Below.refl _ _) (by simp [is, pick])
      · intro t wq hbq hh K hK
        have e5 := hh.1
        simp only [pick] at e5
        replace e5 : t 5 = (.bool true) := e5
        have e10 := hh.2.1
        simp only [pick] at e10
        replace e10 : t 10 = (.bool true) := e10
        clear hh
        simp only [filled, upd, Have, is, any, row, pick, Act.put, List.setIfInBounds_toArray, List.set_cons_zero, List.set_cons_succ, Nat.reduceAdd, Nat.reduceEqDiff, reduceIte] at hK ⊢
        simp only [e5, e10] at hK ⊢
        go_simp
        exact hK _ _ (Below.refl _ _) rfl
      · intro t wq hbq hh K hK
        have e11 := hh.1
        simp only [pick] at e11
        replace e11 : t 11 = (.bool true) := e11
        clear hh
        simp only [filled, upd, Have, is, any, row, pick, Act.put, List.setIfInBounds_toArray, List.set_cons_zero, List.set_cons_succ, Nat.reduceAdd, Nat.reduceEqDiff, reduceIte] at hK ⊢
        simp only [e11] at hK ⊢
        go_simp
        exact hK _ _ (Below.refl _ _) rfl
      · intro t wq hbq hh K hK
        have e12 := hh.1
        simp only [pick] at e12
        replace e12 : t 12 = (.bool true) := e12
        clear hh
        simp only [filled, upd, Have, is, any, row, pick, Act.put, List.setIfInBounds_toArray, List.set_cons_zero, List.set_cons_succ, Nat.reduceAdd, Nat.reduceEqDiff, reduceIte] at hK ⊢
        simp only [e12] at hK ⊢
        have hrow := (hbq.block _ hblt).trans HROW.out
        obtain ⟨a0, a1, a2, a3, a4, a5, a6, a7, a8, a9, a10, a11, a12, a13, a14, a15⟩ := cells16 hrow
        clear hrow
        go_simp
        exact hK _ _ (Below.refl _ _) rfl
      · intro t wq hbq hh K hK
        have e12 := hh.1
        simp only [pick] at e12
        replace e12 : t 12 = (.bool true) := e12
        have e13 := hh.2.1
        simp only [pick] at e13
        replace e13 : t 13 = (.agg #[.int .u8 ((f 0).toNat : Int), .int .u8 ((f 1).toNat : Int), .int .u8 ((f 2).toNat : Int), .int .u8 ((f 3).toNat : Int), .int .u8 ((f 4).toNat : Int), .int .u8 ((f 5).toNat : Int), .int .u8 ((f 6).toNat : Int), .int .u8 ((f 7).toNat : Int), .int .u8 ((f 8).toNat : Int), .int .u8 ((f 9).toNat : Int), .int .u8 ((f 10).toNat : Int), .int .u8 ((f 11).toNat : Int), .int .u8 ((f 12).toNat : Int), .int .u8 ((f 13).toNat : Int), .int .u8 ((f 14).toNat : Int), .int .u8 ((f 15).toNat : Int)]) := e13
        clear hh
        simp only [filled, upd, Have, is, any, row, pick, Act.put, List.setIfInBounds_toArray, List.set_cons_zero, List.set_cons_succ, Nat.reduceAdd, Nat.reduceEqDiff, reduceIte] at hK ⊢
        simp only [e12, e13] at hK ⊢
        go_simp
        refine (of_any f _).mono ?_
        rintro e w5 ⟨rfl, hb5⟩
        exact hK _ _ hb5 rfl
      · intro t wq hbq hh K hK
        have e12 := hh.1
        simp only [pick] at e12
        replace e12 : t 12 = (.bool true) := e12
        have e14 := hh.2.1
        simp only [pick] at e14
        replace e14 : t 14 = (.string (strOf (nm f 16))) := e14
        clear hh
        simp only [filled, upd, Have, is, any, row, pick, Act.put, List.setIfInBounds_toArray, List.set_cons_zero, List.set_cons_succ, Nat.reduceAdd, Nat.reduceEqDiff, reduceIte] at hK ⊢
        simp only [e12, e14] at hK ⊢
        go_simp
        refine (is_own f _).mono ?_
        rintro e w5 ⟨rfl, hb5⟩
        exact hK _ _ hb5 rfl
      · intro t wq hbq hh K hK
        have e12 := hh.1
        simp only [pick] at e12
        replace e12 : t 12 = (.bool true) := e12
        have e15 := hh.2.1
        simp only [pick] at e15
        replace e15 : t 15 = (.bool true) := e15
        clear hh
        simp only [filled, upd, Have, is, any, row, pick, Act.put, List.setIfInBounds_toArray, List.set_cons_zero, List.set_cons_succ, Nat.reduceAdd, Nat.reduceEqDiff, reduceIte] at hK ⊢
        simp only [e12, e15] at hK ⊢
        go_simp
        exact hK _ _ (Below.refl _ _) rfl
      · intro t wq hbq hh K hK
        have e16 := hh.1
        simp only [pick] at e16
        replace e16 : t 16 = (.bool true) := e16
        clear hh
        simp only [filled, upd, Have, is, any, row, pick, Act.put, List.setIfInBounds_toArray, List.set_cons_zero, List.set_cons_succ, Nat.reduceAdd, Nat.reduceEqDiff, reduceIte] at hK ⊢
        simp only [e16] at hK ⊢
        go_simp
        exact hK _ _ (Below.refl _ _) rfl
    · intro t wq hbq hh
      have f17 := have_get hh 17 (by decide)
      simp only [pick] at f17
      replace f17 : t 17 = (.bool true) := f17
      clear hh
      simp only [filled, upd, Have, is, any, row, pick, Act.put, List.setIfInBounds_toArray, List.set_cons_zero, List.set_cons_succ, Nat.reduceAdd, Nat.reduceEqDiff, reduceIte]
      simp only [f17]
      go_wp2
      go_ret
      exact ⟨rfl, hbel.trans (hbq.mono hbel.size)⟩
  · go_wp2_with fail
    refine (IdnW.awake_any _).mono ?_
    rintro e w3 ⟨rfl, hb3⟩
    go_wp2
    go_ret
    exact ⟨rfl, hbel.trans (hb3.mono hbel.size)⟩
end Go.Proofs.Ytdgdmlchegjejaa.Laws
