/- Blobs: a place; a slice. -/
import Derived.Test.YtdgdmlchegjejaaBlobB
import Derived.Test.YtdgdmlchegjejaaRegt
namespace Go.Proofs.Ytdgdmlchegjejaa.BlobC
open Go.RowKit Go.Proofs.Ytdgdmlchegjejaa.Base Go.Proofs.Ytdgdmlchegjejaa.Base2 Go.Proofs.Ytdgdmlchegjejaa.Base3 Go.Proofs.Ytdgdmlchegjejaa.UtfL Go.Proofs.Ytdgdmlchegjejaa.BlobA Go.Proofs.Ytdgdmlchegjejaa.BlobB Go.Proofs.Ytdgdmlchegjejaa.Regs

set_option linter.unusedSimpArgs false in
theorem place_at (g n b : Nat) (L Kk : List UInt8) (z l : Int) (w : World) (h : BlobAt w g n L Kk) (hn : n ≤ 1073741824) (hb : b < w.heap.size) (hcell : w.cell? ⟨b, 0, none⟩ = some (.int .i64 z)) (hz0 : -9223372036854775808 ≤ z) (hz1 : z ≤ 9223372036854775807) :
    Calls Try.prog 38 #[.pointer (some ⟨g, 0, none⟩), .pointer (some ⟨b, 0, none⟩), .int .i64 l] w fun e w' => e = .returned (.int .i64 ((plc z n : Nat) : Int)) ∧ Below w.heap.size w w' := by
  have HB := hid h
  clear h
  obtain ⟨m, hm⟩ : ∃ m, m = plc z n := ⟨_, rfl⟩
  rw [← hm]
  by_cases hneg : z < 0
  · by_cases hs : 0 ≤ (n : Int) + z
    · have hm' : (m : Int) = (n : Int) + z := by rw [hm]; unfold plc; rw [if_pos hneg]; omega
      clear hm
      go_enter Try.func38, Try.ntmps38
      go_wp2
      refine wp_region_rel (by kernel_rfl) [is (.pointer (some ⟨g, 0, none⟩)), is (.int .i64 (n : Int)), is (.pointer (some ⟨b, 0, none⟩)), is (.pointer (some ⟨b, 0, none⟩)), is (.int .i64 z), is (.int .i64 ((n : Int) + z)), is (.int .i64 ((n : Int) + z)), is (.int .i64 ((n : Int) + z))] [[], [0], [], [2], [3], [1, 4], [5], [6]] (by kernel_rfl) ?_ ?_
      · refine ⟨?_, ?_, ?_, ?_, ?_, ?_, ?_, ?_, trivial⟩
        · intro t wq hbq hh K hK
          clear hh
          simp only [filled, upd, Have, is, any, row, pick, Act.put, List.setIfInBounds_toArray, List.set_cons_zero, List.set_cons_succ, Nat.reduceAdd, Nat.reduceEqDiff, reduceIte] at hK ⊢
          go_simp
          exact hK _ _ (Below.refl _ _) rfl
        · intro t wq hbq hh K hK
          have e0 := hh.1
          simp only [pick] at e0
          replace e0 : t 0 = (.pointer (some ⟨g, 0, none⟩)) := e0
          clear hh
          simp only [filled, upd, Have, is, any, row, pick, Act.put, List.setIfInBounds_toArray, List.set_cons_zero, List.set_cons_succ, Nat.reduceAdd, Nat.reduceEqDiff, reduceIte] at hK ⊢
          simp only [e0] at hK ⊢
          go_simp
          refine (len_any g n L Kk _ (HB.out.below hbq)).mono ?_
          rintro e w5 ⟨rfl, hb5⟩
          exact hK _ _ hb5 rfl
        · intro t wq hbq hh K hK
          clear hh
          simp only [filled, upd, Have, is, any, row, pick, Act.put, List.setIfInBounds_toArray, List.set_cons_zero, List.set_cons_succ, Nat.reduceAdd, Nat.reduceEqDiff, reduceIte] at hK ⊢
          go_simp
          exact hK _ _ (Below.refl _ _) rfl
        · intro t wq hbq hh K hK
          have e2 := hh.1
          simp only [pick] at e2
          replace e2 : t 2 = (.pointer (some ⟨b, 0, none⟩)) := e2
          clear hh
          simp only [filled, upd, Have, is, any, row, pick, Act.put, List.setIfInBounds_toArray, List.set_cons_zero, List.set_cons_succ, Nat.reduceAdd, Nat.reduceEqDiff, reduceIte] at hK ⊢
          simp only [e2] at hK ⊢
          go_simp
          exact hK _ _ (Below.refl _ _) rfl
        · intro t wq hbq hh K hK
          have e3 := hh.1
          simp only [pick] at e3
          replace e3 : t 3 = (.pointer (some ⟨b, 0, none⟩)) := e3
          clear hh
          simp only [filled, upd, Have, is, any, row, pick, Act.put, List.setIfInBounds_toArray, List.set_cons_zero, List.set_cons_succ, Nat.reduceAdd, Nat.reduceEqDiff, reduceIte] at hK ⊢
          simp only [e3] at hK ⊢
          have hq := (hbq.cell (p := ⟨b, 0, none⟩) hb).trans hcell
          go_simp
          exact hK _ _ (Below.refl _ _) rfl
        · intro t wq hbq hh K hK
          have e1 := hh.1
          simp only [pick] at e1
          replace e1 : t 1 = (.int .i64 (n : Int)) := e1
          have e4 := hh.2.1
          simp only [pick] at e4
          replace e4 : t 4 = (.int .i64 z) := e4
          clear hh
          simp only [filled, upd, Have, is, any, row, pick, Act.put, List.setIfInBounds_toArray, List.set_cons_zero, List.set_cons_succ, Nat.reduceAdd, Nat.reduceEqDiff, reduceIte] at hK ⊢
          simp only [e1, e4] at hK ⊢
          go_simp
          first | exact hK _ _ (Below.refl _ _) rfl | exact hK _ _ (Below.refl _ _) (int_wrap (by omega) (by omega))
        · intro t wq hbq hh K hK
          have e5 := hh.1
          simp only [pick] at e5
          replace e5 : t 5 = (.int .i64 ((n : Int) + z)) := e5
          clear hh
          simp only [filled, upd, Have, is, any, row, pick, Act.put, List.setIfInBounds_toArray, List.set_cons_zero, List.set_cons_succ, Nat.reduceAdd, Nat.reduceEqDiff, reduceIte] at hK ⊢
          simp only [e5] at hK ⊢
          go_simp
          first | exact hK _ _ (Below.refl _ _) rfl | exact hK _ _ (Below.refl _ _) (congrArg (Value.int .i64) (by split <;> omega))
        · intro t wq hbq hh K hK
          have e6 := hh.1
          simp only [pick] at e6
          replace e6 : t 6 = (.int .i64 ((n : Int) + z)) := e6
          clear hh
          simp only [filled, upd, Have, is, any, row, pick, Act.put, List.setIfInBounds_toArray, List.set_cons_zero, List.set_cons_succ, Nat.reduceAdd, Nat.reduceEqDiff, reduceIte] at hK ⊢
          simp only [e6] at hK ⊢
          go_simp
          exact hK _ _ (Below.refl _ _) rfl
      · intro t wq hbq hh
        have f7 := have_get hh 7 (by decide)
        simp only [pick] at f7
        replace f7 : t 7 = (.int .i64 ((n : Int) + z)) := f7
        clear hh
        simp only [filled, upd, Have, is, any, row, pick, Act.put, List.setIfInBounds_toArray, List.set_cons_zero, List.set_cons_succ, Nat.reduceAdd, Nat.reduceEqDiff, reduceIte]
        simp only [f7]
        go_wp2
        go_ret
        exact ⟨ret_int (by rw [hm']), hbq⟩
    · have hm' : (m : Int) = 0 := by rw [hm]; unfold plc; rw [if_pos hneg]; omega
      have hs' : (n : Int) + z < 0 := by omega
      clear hm
      go_enter Try.func38, Try.ntmps38
      go_wp2
      refine wp_region_rel (by kernel_rfl) [is (.pointer (some ⟨g, 0, none⟩)), is (.int .i64 (n : Int)), is (.pointer (some ⟨b, 0, none⟩)), is (.pointer (some ⟨b, 0, none⟩)), is (.int .i64 z), is (.int .i64 ((n : Int) + z)), is (.int .i64 0), is (.int .i64 0)] [[], [0], [], [2], [3], [1, 4], [5], [6]] (by kernel_rfl) ?_ ?_
      · refine ⟨?_, ?_, ?_, ?_, ?_, ?_, ?_, ?_, trivial⟩
        · intro t wq hbq hh K hK
          clear hh
          simp only [filled, upd, Have, is, any, row, pick, Act.put, List.setIfInBounds_toArray, List.set_cons_zero, List.set_cons_succ, Nat.reduceAdd, Nat.reduceEqDiff, reduceIte] at hK ⊢
          go_simp
          exact hK _ _ (Below.refl _ _) rfl
        · intro t wq hbq hh K hK
          have e0 := hh.1
          simp only [pick] at e0
          replace e0 : t 0 = (.pointer (some ⟨g, 0, none⟩)) := e0
          clear hh
          simp only [filled, upd, Have, is, any, row, pick, Act.put, List.setIfInBounds_toArray, List.set_cons_zero, List.set_cons_succ, Nat.reduceAdd, Nat.reduceEqDiff, reduceIte] at hK ⊢
          simp only [e0] at hK ⊢
          go_simp
          refine (len_any g n L Kk _ (HB.out.below hbq)).mono ?_
          rintro e w5 ⟨rfl, hb5⟩
          exact hK _ _ hb5 rfl
        · intro t wq hbq hh K hK
          clear hh
          simp only [filled, upd, Have, is, any, row, pick, Act.put, List.setIfInBounds_toArray, List.set_cons_zero, List.set_cons_succ, Nat.reduceAdd, Nat.reduceEqDiff, reduceIte] at hK ⊢
          go_simp
          exact hK _ _ (Below.refl _ _) rfl
        · intro t wq hbq hh K hK
          have e2 := hh.1
          simp only [pick] at e2
          replace e2 : t 2 = (.pointer (some ⟨b, 0, none⟩)) := e2
          clear hh
          simp only [filled, upd, Have, is, any, row, pick, Act.put, List.setIfInBounds_toArray, List.set_cons_zero, List.set_cons_succ, Nat.reduceAdd, Nat.reduceEqDiff, reduceIte] at hK ⊢
          simp only [e2] at hK ⊢
          go_simp
          exact hK _ _ (Below.refl _ _) rfl
        · intro t wq hbq hh K hK
          have e3 := hh.1
          simp only [pick] at e3
          replace e3 : t 3 = (.pointer (some ⟨b, 0, none⟩)) := e3
          clear hh
          simp only [filled, upd, Have, is, any, row, pick, Act.put, List.setIfInBounds_toArray, List.set_cons_zero, List.set_cons_succ, Nat.reduceAdd, Nat.reduceEqDiff, reduceIte] at hK ⊢
          simp only [e3] at hK ⊢
          have hq := (hbq.cell (p := ⟨b, 0, none⟩) hb).trans hcell
          go_simp
          exact hK _ _ (Below.refl _ _) rfl
        · intro t wq hbq hh K hK
          have e1 := hh.1
          simp only [pick] at e1
          replace e1 : t 1 = (.int .i64 (n : Int)) := e1
          have e4 := hh.2.1
          simp only [pick] at e4
          replace e4 : t 4 = (.int .i64 z) := e4
          clear hh
          simp only [filled, upd, Have, is, any, row, pick, Act.put, List.setIfInBounds_toArray, List.set_cons_zero, List.set_cons_succ, Nat.reduceAdd, Nat.reduceEqDiff, reduceIte] at hK ⊢
          simp only [e1, e4] at hK ⊢
          go_simp
          first | exact hK _ _ (Below.refl _ _) rfl | exact hK _ _ (Below.refl _ _) (int_wrap (by omega) (by omega))
        · intro t wq hbq hh K hK
          have e5 := hh.1
          simp only [pick] at e5
          replace e5 : t 5 = (.int .i64 ((n : Int) + z)) := e5
          clear hh
          simp only [filled, upd, Have, is, any, row, pick, Act.put, List.setIfInBounds_toArray, List.set_cons_zero, List.set_cons_succ, Nat.reduceAdd, Nat.reduceEqDiff, reduceIte] at hK ⊢
          simp only [e5] at hK ⊢
          go_simp
          first | exact hK _ _ (Below.refl _ _) rfl | exact hK _ _ (Below.refl _ _) (congrArg (Value.int .i64) (by split <;> omega))
        · intro t wq hbq hh K hK
          have e6 := hh.1
          simp only [pick] at e6
          replace e6 : t 6 = (.int .i64 0) := e6
          clear hh
          simp only [filled, upd, Have, is, any, row, pick, Act.put, List.setIfInBounds_toArray, List.set_cons_zero, List.set_cons_succ, Nat.reduceAdd, Nat.reduceEqDiff, reduceIte] at hK ⊢
          simp only [e6] at hK ⊢
          go_simp
          exact hK _ _ (Below.refl _ _) rfl
      · intro t wq hbq hh
        have f7 := have_get hh 7 (by decide)
        simp only [pick] at f7
        replace f7 : t 7 = (.int .i64 0) := f7
        clear hh
        simp only [filled, upd, Have, is, any, row, pick, Act.put, List.setIfInBounds_toArray, List.set_cons_zero, List.set_cons_succ, Nat.reduceAdd, Nat.reduceEqDiff, reduceIte]
        simp only [f7]
        go_wp2
        go_ret
        exact ⟨ret_int (by rw [hm']), hbq⟩
  · by_cases hs : z ≤ (n : Int)
    · have hm' : (m : Int) = z := by rw [hm]; unfold plc; rw [if_neg hneg]; omega
      clear hm
      go_enter Try.func38, Try.ntmps38
      go_wp2
      refine wp_region_rel (by kernel_rfl) [is (.pointer (some ⟨b, 0, none⟩)), is (.pointer (some ⟨b, 0, none⟩)), is (.int .i64 z), is (.pointer (some ⟨g, 0, none⟩)), is (.int .i64 (n : Int)), is (.int .i64 z), is (.int .i64 z)] [[], [0], [1], [], [3], [2, 4], [5]] (by kernel_rfl) ?_ ?_
      · refine ⟨?_, ?_, ?_, ?_, ?_, ?_, ?_, trivial⟩
        · intro t wq hbq hh K hK
          clear hh
          simp only [filled, upd, Have, is, any, row, pick, Act.put, List.setIfInBounds_toArray, List.set_cons_zero, List.set_cons_succ, Nat.reduceAdd, Nat.reduceEqDiff, reduceIte] at hK ⊢
          go_simp
          exact hK _ _ (Below.refl _ _) rfl
        · intro t wq hbq hh K hK
          have e0 := hh.1
          simp only [pick] at e0
          replace e0 : t 0 = (.pointer (some ⟨b, 0, none⟩)) := e0
          clear hh
          simp only [filled, upd, Have, is, any, row, pick, Act.put, List.setIfInBounds_toArray, List.set_cons_zero, List.set_cons_succ, Nat.reduceAdd, Nat.reduceEqDiff, reduceIte] at hK ⊢
          simp only [e0] at hK ⊢
          go_simp
          exact hK _ _ (Below.refl _ _) rfl
        · intro t wq hbq hh K hK
          have e1 := hh.1
          simp only [pick] at e1
          replace e1 : t 1 = (.pointer (some ⟨b, 0, none⟩)) := e1
          clear hh
          simp only [filled, upd, Have, is, any, row, pick, Act.put, List.setIfInBounds_toArray, List.set_cons_zero, List.set_cons_succ, Nat.reduceAdd, Nat.reduceEqDiff, reduceIte] at hK ⊢
          simp only [e1] at hK ⊢
          have hq := (hbq.cell (p := ⟨b, 0, none⟩) hb).trans hcell
          go_simp
          exact hK _ _ (Below.refl _ _) rfl
        · intro t wq hbq hh K hK
          clear hh
          simp only [filled, upd, Have, is, any, row, pick, Act.put, List.setIfInBounds_toArray, List.set_cons_zero, List.set_cons_succ, Nat.reduceAdd, Nat.reduceEqDiff, reduceIte] at hK ⊢
          go_simp
          exact hK _ _ (Below.refl _ _) rfl
        · intro t wq hbq hh K hK
          have e3 := hh.1
          simp only [pick] at e3
          replace e3 : t 3 = (.pointer (some ⟨g, 0, none⟩)) := e3
          clear hh
          simp only [filled, upd, Have, is, any, row, pick, Act.put, List.setIfInBounds_toArray, List.set_cons_zero, List.set_cons_succ, Nat.reduceAdd, Nat.reduceEqDiff, reduceIte] at hK ⊢
          simp only [e3] at hK ⊢
          go_simp
          refine (len_any g n L Kk _ (HB.out.below hbq)).mono ?_
          rintro e w5 ⟨rfl, hb5⟩
          exact hK _ _ hb5 rfl
        · intro t wq hbq hh K hK
          have e2 := hh.1
          simp only [pick] at e2
          replace e2 : t 2 = (.int .i64 z) := e2
          have e4 := hh.2.1
          simp only [pick] at e4
          replace e4 : t 4 = (.int .i64 (n : Int)) := e4
          clear hh
          simp only [filled, upd, Have, is, any, row, pick, Act.put, List.setIfInBounds_toArray, List.set_cons_zero, List.set_cons_succ, Nat.reduceAdd, Nat.reduceEqDiff, reduceIte] at hK ⊢
          simp only [e2, e4] at hK ⊢
          go_simp
          first | exact hK _ _ (Below.refl _ _) rfl | exact hK _ _ (Below.refl _ _) (congrArg (Value.int .i64) (by split <;> omega))
        · intro t wq hbq hh K hK
          have e5 := hh.1
          simp only [pick] at e5
          replace e5 : t 5 = (.int .i64 z) := e5
          clear hh
          simp only [filled, upd, Have, is, any, row, pick, Act.put, List.setIfInBounds_toArray, List.set_cons_zero, List.set_cons_succ, Nat.reduceAdd, Nat.reduceEqDiff, reduceIte] at hK ⊢
          simp only [e5] at hK ⊢
          go_simp
          exact hK _ _ (Below.refl _ _) rfl
      · intro t wq hbq hh
        have f6 := have_get hh 6 (by decide)
        simp only [pick] at f6
        replace f6 : t 6 = (.int .i64 z) := f6
        clear hh
        simp only [filled, upd, Have, is, any, row, pick, Act.put, List.setIfInBounds_toArray, List.set_cons_zero, List.set_cons_succ, Nat.reduceAdd, Nat.reduceEqDiff, reduceIte]
        simp only [f6]
        go_wp2
        go_ret
        exact ⟨ret_int (by rw [hm']), hbq⟩
    · have hm' : (m : Int) = (n : Int) := by rw [hm]; unfold plc; rw [if_neg hneg]; omega
      have hs' : (n : Int) < z := by omega
      clear hm
      go_enter Try.func38, Try.ntmps38
      go_wp2
      refine wp_region_rel (by kernel_rfl) [is (.pointer (some ⟨b, 0, none⟩)), is (.pointer (some ⟨b, 0, none⟩)), is (.int .i64 z), is (.pointer (some ⟨g, 0, none⟩)), is (.int .i64 (n : Int)), is (.int .i64 (n : Int)), is (.int .i64 (n : Int))] [[], [0], [1], [], [3], [2, 4], [5]] (by kernel_rfl) ?_ ?_
      · refine ⟨?_, ?_, ?_, ?_, ?_, ?_, ?_, trivial⟩
        · intro t wq hbq hh K hK
          clear hh
          simp only [filled, upd, Have, is, any, row, pick, Act.put, List.setIfInBounds_toArray, List.set_cons_zero, List.set_cons_succ, Nat.reduceAdd, Nat.reduceEqDiff, reduceIte] at hK ⊢
          go_simp
          exact hK _ _ (Below.refl _ _) rfl
        · intro t wq hbq hh K hK
          have e0 := hh.1
          simp only [pick] at e0
          replace e0 : t 0 = (.pointer (some ⟨b, 0, none⟩)) := e0
          clear hh
          simp only [filled, upd, Have, is, any, row, pick, Act.put, List.setIfInBounds_toArray, List.set_cons_zero, List.set_cons_succ, Nat.reduceAdd, Nat.reduceEqDiff, reduceIte] at hK ⊢
          simp only [e0] at hK ⊢
          go_simp
          exact hK _ _ (Below.refl _ _) rfl
        · intro t wq hbq hh K hK
          have e1 := hh.1
          simp only [pick] at e1
          replace e1 : t 1 = (.pointer (some ⟨b, 0, none⟩)) := e1
          clear hh
          simp only [filled, upd, Have, is, any, row, pick, Act.put, List.setIfInBounds_toArray, List.set_cons_zero, List.set_cons_succ, Nat.reduceAdd, Nat.reduceEqDiff, reduceIte] at hK ⊢
          simp only [e1] at hK ⊢
          have hq := (hbq.cell (p := ⟨b, 0, none⟩) hb).trans hcell
          go_simp
          exact hK _ _ (Below.refl _ _) rfl
        · intro t wq hbq hh K hK
          clear hh
          simp only [filled, upd, Have, is, any, row, pick, Act.put, List.setIfInBounds_toArray, List.set_cons_zero, List.set_cons_succ, Nat.reduceAdd, Nat.reduceEqDiff, reduceIte] at hK ⊢
          go_simp
          exact hK _ _ (Below.refl _ _) rfl
        · intro t wq hbq hh K hK
          have e3 := hh.1
          simp only [pick] at e3
          replace e3 : t 3 = (.pointer (some ⟨g, 0, none⟩)) := e3
          clear hh
          simp only [filled, upd, Have, is, any, row, pick, Act.put, List.setIfInBounds_toArray, List.set_cons_zero, List.set_cons_succ, Nat.reduceAdd, Nat.reduceEqDiff, reduceIte] at hK ⊢
          simp only [e3] at hK ⊢
          go_simp
          refine (len_any g n L Kk _ (HB.out.below hbq)).mono ?_
          rintro e w5 ⟨rfl, hb5⟩
          exact hK _ _ hb5 rfl
        · intro t wq hbq hh K hK
          have e2 := hh.1
          simp only [pick] at e2
          replace e2 : t 2 = (.int .i64 z) := e2
          have e4 := hh.2.1
          simp only [pick] at e4
          replace e4 : t 4 = (.int .i64 (n : Int)) := e4
          clear hh
          simp only [filled, upd, Have, is, any, row, pick, Act.put, List.setIfInBounds_toArray, List.set_cons_zero, List.set_cons_succ, Nat.reduceAdd, Nat.reduceEqDiff, reduceIte] at hK ⊢
          simp only [e2, e4] at hK ⊢
          go_simp
          first | exact hK _ _ (Below.refl _ _) rfl | exact hK _ _ (Below.refl _ _) (congrArg (Value.int .i64) (by split <;> omega))
        · intro t wq hbq hh K hK
          have e5 := hh.1
          simp only [pick] at e5
          replace e5 : t 5 = (.int .i64 (n : Int)) := e5
          clear hh
          simp only [filled, upd, Have, is, any, row, pick, Act.put, List.setIfInBounds_toArray, List.set_cons_zero, List.set_cons_succ, Nat.reduceAdd, Nat.reduceEqDiff, reduceIte] at hK ⊢
          simp only [e5] at hK ⊢
          go_simp
          exact hK _ _ (Below.refl _ _) rfl
      · intro t wq hbq hh
        have f6 := have_get hh 6 (by decide)
        simp only [pick] at f6
        replace f6 : t 6 = (.int .i64 (n : Int)) := f6
        clear hh
        simp only [filled, upd, Have, is, any, row, pick, Act.put, List.setIfInBounds_toArray, List.set_cons_zero, List.set_cons_succ, Nat.reduceAdd, Nat.reduceEqDiff, reduceIte]
        simp only [f6]
        go_wp2
        go_ret
        exact ⟨ret_int (by rw [hm']), hbq⟩
end Go.Proofs.Ytdgdmlchegjejaa.BlobC
