/- Texts that belong together: BlobC, BlobD, BlobK, MaiA, MaiB. -/
import Derived.Test.YtegpfgccaminkaaGreatDoorUAG
import Derived.Test.YtegpfgccaminkaaGreatDoorUAA
import Derived.Test.YtegpfgccaminkaaGreatDoorUAB
import Derived.BigQuiet
import Derived.Deep.QuietTactic
import Derived.Conc.LoneCalls
import Derived.Conc.LoneSelectN
import Derived.KernelRfl
import Derived.WalkSmall
set_option linter.unusedSimpArgs false
set_option linter.unusedVariables false
namespace Go.Proofs.YtegpfgccaminkaaGreatDoor.BlobC
open Go.RowKit Base Base2 Base3 UtfL BlobA BlobB Regs
set_option maxRecDepth 100000 in
theorem place_at (g n b : Nat) (L Kk : List UInt8) (z l : Int) (w : World) (h : BlobAt w g n L Kk) (hn : n ≤ 1073741824) (hb : b < w.heap.size) (hcell : w.cell? ⟨b, 0, none⟩ = some (.int .i64 z)) (hz0 : -9223372036854775808 ≤ z) (hz1 : z ≤ 9223372036854775807) :
  Calls Tryz.prog 64 #[.pointer (some ⟨g, 0, none⟩), .pointer (some ⟨b, 0, none⟩), .int .i64 l] w fun e w' => e = .returned (.int .i64 ((plc z n : Nat) : Int)) ∧ Below w.heap.size w w' := by
 have HB := hid h
 clear h
 obtain ⟨m, hm⟩ : ∃ m, m = plc z n := ⟨_, rfl⟩
 rw [← hm]
 by_cases hneg : z < 0
 ·by_cases hs : 0 ≤ (n : Int) + z
  ·have hm' : (m : Int) = (n : Int) + z := by rw [hm]; unfold plc; rw [if_pos hneg]; omega
   clear hm
   go_enter Tryz.func64, Tryz.ntmps64
   go_wp2
   refine wp_region_rel (by kernel_rfl) [is (.pointer (some ⟨g, 0, none⟩)), is (.int .i64 (n : Int)), is (.pointer (some ⟨b, 0, none⟩)), is (.pointer (some ⟨b, 0, none⟩)), is (.int .i64 z), is (.int .i64 ((n : Int) + z)), is (.int .i64 ((n : Int) + z)), is (.int .i64 ((n : Int) + z))] [[], [0], [], [2], [3], [1, 4], [5], [6]] (by kernel_rfl) ?_ ?_
   ·refine ⟨?_, ?_, ?_, ?_, ?_, ?_, ?_, ?_, trivial⟩
    ·intro t wq hbq hh K hK
     clear hh
     simp only [filled, upd, Have, is, any, row, pick, Act.put, List.setIfInBounds_toArray, List.set_cons_zero, List.set_cons_succ, Nat.reduceAdd, Nat.reduceEqDiff, reduceIte] at hK ⊢
     go_simp
     exact hK _ _ (Below.refl _ _) rfl
    ·intro t wq hbq hh K hK
     have e0 := hh.1
     simp only [pick] at e0
     replace e0 : t 0 = (.pointer (some ⟨g, 0, none⟩)) := e0
     clear hh
     simp only [filled, upd, Have, is, any, row, pick, Act.put, List.setIfInBounds_toArray, List.set_cons_zero, List.set_cons_succ, Nat.reduceAdd, Nat.reduceEqDiff, reduceIte] at hK ⊢
     simp only [e0] at hK ⊢
     go_simp
     refine (len_any g n L Kk _ (HB.out.below hbq)).mono ?_
     rintro e w5 ⟨rfl, hb5⟩
     exact hK _ _ hb5 rfl
    ·intro t wq hbq hh K hK
     clear hh
     simp only [filled, upd, Have, is, any, row, pick, Act.put, List.setIfInBounds_toArray, List.set_cons_zero, List.set_cons_succ, Nat.reduceAdd, Nat.reduceEqDiff, reduceIte] at hK ⊢
     go_simp
     exact hK _ _ (Below.refl _ _) rfl
    ·intro t wq hbq hh K hK
     have e2 := hh.1
     simp only [pick] at e2
     replace e2 : t 2 = (.pointer (some ⟨b, 0, none⟩)) := e2
     clear hh
     simp only [filled, upd, Have, is, any, row, pick, Act.put, List.setIfInBounds_toArray, List.set_cons_zero, List.set_cons_succ, Nat.reduceAdd, Nat.reduceEqDiff, reduceIte] at hK ⊢
     simp only [e2] at hK ⊢
     go_simp
     exact hK _ _ (Below.refl _ _) rfl
    ·intro t wq hbq hh K hK
     have e3 := hh.1
     simp only [pick] at e3
     replace e3 : t 3 = (.pointer (some ⟨b, 0, none⟩)) := e3
     clear hh
     simp only [filled, upd, Have, is, any, row, pick, Act.put, List.setIfInBounds_toArray, List.set_cons_zero, List.set_cons_succ, Nat.reduceAdd, Nat.reduceEqDiff, reduceIte] at hK ⊢
     simp only [e3] at hK ⊢
     have hq := (hbq.cell (p := ⟨b, 0, none⟩) hb).trans hcell
     go_simp
     exact hK _ _ (Below.refl _ _) rfl
    ·intro t wq hbq hh K hK
     have e1 := hh.1
     simp only [pick] at e1
     replace e1 : t 1 = (.int .i64 (n : Int)) := e1
     have e4 := hh.2.1
     simp only [pick] at e4
     replace e4 : t 4 = (.int .i64 z) := e4
     clear hh
     simp only [filled, upd, Have, is, any, row, pick, Act.put, List.setIfInBounds_toArray, List.set_cons_zero, List.set_cons_succ, Nat.reduceAdd, Nat.reduceEqDiff, reduceIte] at hK ⊢
     simp only [e1, e4] at hK ⊢
     go_simp
     first | exact hK _ _ (Below.refl _ _) rfl | exact hK _ _ (Below.refl _ _) (int_wrap (by omega) (by omega))
    ·intro t wq hbq hh K hK
     have e5 := hh.1
     simp only [pick] at e5
     replace e5 : t 5 = (.int .i64 ((n : Int) + z)) := e5
     clear hh
     simp only [filled, upd, Have, is, any, row, pick, Act.put, List.setIfInBounds_toArray, List.set_cons_zero, List.set_cons_succ, Nat.reduceAdd, Nat.reduceEqDiff, reduceIte] at hK ⊢
     simp only [e5] at hK ⊢
     go_simp
     first | exact hK _ _ (Below.refl _ _) rfl | exact hK _ _ (Below.refl _ _) (congrArg (Value.int .i64) (by first | omega | (split <;> omega)))
    ·intro t wq hbq hh K hK
     have e6 := hh.1
     simp only [pick] at e6
     replace e6 : t 6 = (.int .i64 ((n : Int) + z)) := e6
     clear hh
     simp only [filled, upd, Have, is, any, row, pick, Act.put, List.setIfInBounds_toArray, List.set_cons_zero, List.set_cons_succ, Nat.reduceAdd, Nat.reduceEqDiff, reduceIte] at hK ⊢
     simp only [e6] at hK ⊢
     go_simp
     exact hK _ _ (Below.refl _ _) rfl
   ·intro t wq hbq hh
    have f7 := have_get hh 7 (by decide)
    simp only [pick] at f7
    replace f7 : t 7 = (.int .i64 ((n : Int) + z)) := f7
    clear hh
    simp only [filled, upd, Have, is, any, row, pick, Act.put, List.setIfInBounds_toArray, List.set_cons_zero, List.set_cons_succ, Nat.reduceAdd, Nat.reduceEqDiff, reduceIte]
    simp only [f7]
    go_wp2
    go_ret
    exact ⟨ret_int (by rw [hm']), hbq⟩
  ·have hm' : (m : Int) = 0 := by rw [hm]; unfold plc; rw [if_pos hneg]; omega
   have hs' : (n : Int) + z < 0 := by omega
   clear hm
   go_enter Tryz.func64, Tryz.ntmps64
   go_wp2
   refine wp_region_rel (by kernel_rfl) [is (.pointer (some ⟨g, 0, none⟩)), is (.int .i64 (n : Int)), is (.pointer (some ⟨b, 0, none⟩)), is (.pointer (some ⟨b, 0, none⟩)), is (.int .i64 z), is (.int .i64 ((n : Int) + z)), is (.int .i64 0), is (.int .i64 0)] [[], [0], [], [2], [3], [1, 4], [5], [6]] (by kernel_rfl) ?_ ?_
   ·refine ⟨?_, ?_, ?_, ?_, ?_, ?_, ?_, ?_, trivial⟩
    ·intro t wq hbq hh K hK
     clear hh
     simp only [filled, upd, Have, is, any, row, pick, Act.put, List.setIfInBounds_toArray, List.set_cons_zero, List.set_cons_succ, Nat.reduceAdd, Nat.reduceEqDiff, reduceIte] at hK ⊢
     go_simp
     exact hK _ _ (Below.refl _ _) rfl
    ·intro t wq hbq hh K hK
     have e0 := hh.1
     simp only [pick] at e0
     replace e0 : t 0 = (.pointer (some ⟨g, 0, none⟩)) := e0
     clear hh
     simp only [filled, upd, Have, is, any, row, pick, Act.put, List.setIfInBounds_toArray, List.set_cons_zero, List.set_cons_succ, Nat.reduceAdd, Nat.reduceEqDiff, reduceIte] at hK ⊢
     simp only [e0] at hK ⊢
     go_simp
     refine (len_any g n L Kk _ (HB.out.below hbq)).mono ?_
     rintro e w5 ⟨rfl, hb5⟩
     exact hK _ _ hb5 rfl
    ·intro t wq hbq hh K hK
     clear hh
     simp only [filled, upd, Have, is, any, row, pick, Act.put, List.setIfInBounds_toArray, List.set_cons_zero, List.set_cons_succ, Nat.reduceAdd, Nat.reduceEqDiff, reduceIte] at hK ⊢
     go_simp
     exact hK _ _ (Below.refl _ _) rfl
    ·intro t wq hbq hh K hK
     have e2 := hh.1
     simp only [pick] at e2
     replace e2 : t 2 = (.pointer (some ⟨b, 0, none⟩)) := e2
     clear hh
     simp only [filled, upd, Have, is, any, row, pick, Act.put, List.setIfInBounds_toArray, List.set_cons_zero, List.set_cons_succ, Nat.reduceAdd, Nat.reduceEqDiff, reduceIte] at hK ⊢
     simp only [e2] at hK ⊢
     go_simp
     exact hK _ _ (Below.refl _ _) rfl
    ·intro t wq hbq hh K hK
     have e3 := hh.1
     simp only [pick] at e3
     replace e3 : t 3 = (.pointer (some ⟨b, 0, none⟩)) := e3
     clear hh
     simp only [filled, upd, Have, is, any, row, pick, Act.put, List.setIfInBounds_toArray, List.set_cons_zero, List.set_cons_succ, Nat.reduceAdd, Nat.reduceEqDiff, reduceIte] at hK ⊢
     simp only [e3] at hK ⊢
     have hq := (hbq.cell (p := ⟨b, 0, none⟩) hb).trans hcell
     go_simp
     exact hK _ _ (Below.refl _ _) rfl
    ·intro t wq hbq hh K hK
     have e1 := hh.1
     simp only [pick] at e1
     replace e1 : t 1 = (.int .i64 (n : Int)) := e1
     have e4 := hh.2.1
     simp only [pick] at e4
     replace e4 : t 4 = (.int .i64 z) := e4
     clear hh
     simp only [filled, upd, Have, is, any, row, pick, Act.put, List.setIfInBounds_toArray, List.set_cons_zero, List.set_cons_succ, Nat.reduceAdd, Nat.reduceEqDiff, reduceIte] at hK ⊢
     simp only [e1, e4] at hK ⊢
     go_simp
     first | exact hK _ _ (Below.refl _ _) rfl | exact hK _ _ (Below.refl _ _) (int_wrap (by omega) (by omega))
    ·intro t wq hbq hh K hK
     have e5 := hh.1
     simp only [pick] at e5
     replace e5 : t 5 = (.int .i64 ((n : Int) + z)) := e5
     clear hh
     simp only [filled, upd, Have, is, any, row, pick, Act.put, List.setIfInBounds_toArray, List.set_cons_zero, List.set_cons_succ, Nat.reduceAdd, Nat.reduceEqDiff, reduceIte] at hK ⊢
     simp only [e5] at hK ⊢
     go_simp
     first | exact hK _ _ (Below.refl _ _) rfl | exact hK _ _ (Below.refl _ _) (congrArg (Value.int .i64) (by first | omega | (split <;> omega)))
    ·intro t wq hbq hh K hK
     have e6 := hh.1
     simp only [pick] at e6
     replace e6 : t 6 = (.int .i64 0) := e6
     clear hh
     simp only [filled, upd, Have, is, any, row, pick, Act.put, List.setIfInBounds_toArray, List.set_cons_zero, List.set_cons_succ, Nat.reduceAdd, Nat.reduceEqDiff, reduceIte] at hK ⊢
     simp only [e6] at hK ⊢
     go_simp
     exact hK _ _ (Below.refl _ _) rfl
   ·intro t wq hbq hh
    have f7 := have_get hh 7 (by decide)
    simp only [pick] at f7
    replace f7 : t 7 = (.int .i64 0) := f7
    clear hh
    simp only [filled, upd, Have, is, any, row, pick, Act.put, List.setIfInBounds_toArray, List.set_cons_zero, List.set_cons_succ, Nat.reduceAdd, Nat.reduceEqDiff, reduceIte]
    simp only [f7]
    go_wp2
    go_ret
    exact ⟨ret_int (by rw [hm']), hbq⟩
 ·by_cases hs : z ≤ (n : Int)
  ·have hm' : (m : Int) = z := by rw [hm]; unfold plc; rw [if_neg hneg]; omega
   clear hm
   go_enter Tryz.func64, Tryz.ntmps64
   go_wp2
   refine wp_region_rel (by kernel_rfl) [is (.pointer (some ⟨b, 0, none⟩)), is (.pointer (some ⟨b, 0, none⟩)), is (.int .i64 z), is (.pointer (some ⟨g, 0, none⟩)), is (.int .i64 (n : Int)), is (.int .i64 z), is (.int .i64 z)] [[], [0], [1], [], [3], [2, 4], [5]] (by kernel_rfl) ?_ ?_
   ·refine ⟨?_, ?_, ?_, ?_, ?_, ?_, ?_, trivial⟩
    ·intro t wq hbq hh K hK
     clear hh
     simp only [filled, upd, Have, is, any, row, pick, Act.put, List.setIfInBounds_toArray, List.set_cons_zero, List.set_cons_succ, Nat.reduceAdd, Nat.reduceEqDiff, reduceIte] at hK ⊢
     go_simp
     exact hK _ _ (Below.refl _ _) rfl
    ·intro t wq hbq hh K hK
     have e0 := hh.1
     simp only [pick] at e0
     replace e0 : t 0 = (.pointer (some ⟨b, 0, none⟩)) := e0
     clear hh
     simp only [filled, upd, Have, is, any, row, pick, Act.put, List.setIfInBounds_toArray, List.set_cons_zero, List.set_cons_succ, Nat.reduceAdd, Nat.reduceEqDiff, reduceIte] at hK ⊢
     simp only [e0] at hK ⊢
     go_simp
     exact hK _ _ (Below.refl _ _) rfl
    ·intro t wq hbq hh K hK
     have e1 := hh.1
     simp only [pick] at e1
     replace e1 : t 1 = (.pointer (some ⟨b, 0, none⟩)) := e1
     clear hh
     simp only [filled, upd, Have, is, any, row, pick, Act.put, List.setIfInBounds_toArray, List.set_cons_zero, List.set_cons_succ, Nat.reduceAdd, Nat.reduceEqDiff, reduceIte] at hK ⊢
     simp only [e1] at hK ⊢
     have hq := (hbq.cell (p := ⟨b, 0, none⟩) hb).trans hcell
     go_simp
     exact hK _ _ (Below.refl _ _) rfl
    ·intro t wq hbq hh K hK
     clear hh
     simp only [filled, upd, Have, is, any, row, pick, Act.put, List.setIfInBounds_toArray, List.set_cons_zero, List.set_cons_succ, Nat.reduceAdd, Nat.reduceEqDiff, reduceIte] at hK ⊢
     go_simp
     exact hK _ _ (Below.refl _ _) rfl
    ·intro t wq hbq hh K hK
     have e3 := hh.1
     simp only [pick] at e3
     replace e3 : t 3 = (.pointer (some ⟨g, 0, none⟩)) := e3
     clear hh
     simp only [filled, upd, Have, is, any, row, pick, Act.put, List.setIfInBounds_toArray, List.set_cons_zero, List.set_cons_succ, Nat.reduceAdd, Nat.reduceEqDiff, reduceIte] at hK ⊢
     simp only [e3] at hK ⊢
     go_simp
     refine (len_any g n L Kk _ (HB.out.below hbq)).mono ?_
     rintro e w5 ⟨rfl, hb5⟩
     exact hK _ _ hb5 rfl
    ·intro t wq hbq hh K hK
     have e2 := hh.1
     simp only [pick] at e2
     replace e2 : t 2 = (.int .i64 z) := e2
     have e4 := hh.2.1
     simp only [pick] at e4
     replace e4 : t 4 = (.int .i64 (n : Int)) := e4
     clear hh
     simp only [filled, upd, Have, is, any, row, pick, Act.put, List.setIfInBounds_toArray, List.set_cons_zero, List.set_cons_succ, Nat.reduceAdd, Nat.reduceEqDiff, reduceIte] at hK ⊢
     simp only [e2, e4] at hK ⊢
     go_simp
     first | exact hK _ _ (Below.refl _ _) rfl | exact hK _ _ (Below.refl _ _) (congrArg (Value.int .i64) (by first | omega | (split <;> omega)))
    ·intro t wq hbq hh K hK
     have e5 := hh.1
     simp only [pick] at e5
     replace e5 : t 5 = (.int .i64 z) := e5
     clear hh
     simp only [filled, upd, Have, is, any, row, pick, Act.put, List.setIfInBounds_toArray, List.set_cons_zero, List.set_cons_succ, Nat.reduceAdd, Nat.reduceEqDiff, reduceIte] at hK ⊢
     simp only [e5] at hK ⊢
     go_simp
     exact hK _ _ (Below.refl _ _) rfl
   ·intro t wq hbq hh
    have f6 := have_get hh 6 (by decide)
    simp only [pick] at f6
    replace f6 : t 6 = (.int .i64 z) := f6
    clear hh
    simp only [filled, upd, Have, is, any, row, pick, Act.put, List.setIfInBounds_toArray, List.set_cons_zero, List.set_cons_succ, Nat.reduceAdd, Nat.reduceEqDiff, reduceIte]
    simp only [f6]
    go_wp2
    go_ret
    exact ⟨ret_int (by rw [hm']), hbq⟩
  ·have hm' : (m : Int) = (n : Int) := by rw [hm]; unfold plc; rw [if_neg hneg]; omega
   have hs' : (n : Int) < z := by omega
   clear hm
   go_enter Tryz.func64, Tryz.ntmps64
   go_wp2
   refine wp_region_rel (by kernel_rfl) [is (.pointer (some ⟨b, 0, none⟩)), is (.pointer (some ⟨b, 0, none⟩)), is (.int .i64 z), is (.pointer (some ⟨g, 0, none⟩)), is (.int .i64 (n : Int)), is (.int .i64 (n : Int)), is (.int .i64 (n : Int))] [[], [0], [1], [], [3], [2, 4], [5]] (by kernel_rfl) ?_ ?_
   ·refine ⟨?_, ?_, ?_, ?_, ?_, ?_, ?_, trivial⟩
    ·intro t wq hbq hh K hK
     clear hh
     simp only [filled, upd, Have, is, any, row, pick, Act.put, List.setIfInBounds_toArray, List.set_cons_zero, List.set_cons_succ, Nat.reduceAdd, Nat.reduceEqDiff, reduceIte] at hK ⊢
     go_simp
     exact hK _ _ (Below.refl _ _) rfl
    ·intro t wq hbq hh K hK
     have e0 := hh.1
     simp only [pick] at e0
     replace e0 : t 0 = (.pointer (some ⟨b, 0, none⟩)) := e0
     clear hh
     simp only [filled, upd, Have, is, any, row, pick, Act.put, List.setIfInBounds_toArray, List.set_cons_zero, List.set_cons_succ, Nat.reduceAdd, Nat.reduceEqDiff, reduceIte] at hK ⊢
     simp only [e0] at hK ⊢
     go_simp
     exact hK _ _ (Below.refl _ _) rfl
    ·intro t wq hbq hh K hK
     have e1 := hh.1
     simp only [pick] at e1
     replace e1 : t 1 = (.pointer (some ⟨b, 0, none⟩)) := e1
     clear hh
     simp only [filled, upd, Have, is, any, row, pick, Act.put, List.setIfInBounds_toArray, List.set_cons_zero, List.set_cons_succ, Nat.reduceAdd, Nat.reduceEqDiff, reduceIte] at hK ⊢
     simp only [e1] at hK ⊢
     have hq := (hbq.cell (p := ⟨b, 0, none⟩) hb).trans hcell
     go_simp
     exact hK _ _ (Below.refl _ _) rfl
    ·intro t wq hbq hh K hK
     clear hh
     simp only [filled, upd, Have, is, any, row, pick, Act.put, List.setIfInBounds_toArray, List.set_cons_zero, List.set_cons_succ, Nat.reduceAdd, Nat.reduceEqDiff, reduceIte] at hK ⊢
     go_simp
     exact hK _ _ (Below.refl _ _) rfl
    ·intro t wq hbq hh K hK
     have e3 := hh.1
     simp only [pick] at e3
     replace e3 : t 3 = (.pointer (some ⟨g, 0, none⟩)) := e3
     clear hh
     simp only [filled, upd, Have, is, any, row, pick, Act.put, List.setIfInBounds_toArray, List.set_cons_zero, List.set_cons_succ, Nat.reduceAdd, Nat.reduceEqDiff, reduceIte] at hK ⊢
     simp only [e3] at hK ⊢
     go_simp
     refine (len_any g n L Kk _ (HB.out.below hbq)).mono ?_
     rintro e w5 ⟨rfl, hb5⟩
     exact hK _ _ hb5 rfl
    ·intro t wq hbq hh K hK
     have e2 := hh.1
     simp only [pick] at e2
     replace e2 : t 2 = (.int .i64 z) := e2
     have e4 := hh.2.1
     simp only [pick] at e4
     replace e4 : t 4 = (.int .i64 (n : Int)) := e4
     clear hh
     simp only [filled, upd, Have, is, any, row, pick, Act.put, List.setIfInBounds_toArray, List.set_cons_zero, List.set_cons_succ, Nat.reduceAdd, Nat.reduceEqDiff, reduceIte] at hK ⊢
     simp only [e2, e4] at hK ⊢
     go_simp
     first | exact hK _ _ (Below.refl _ _) rfl | exact hK _ _ (Below.refl _ _) (congrArg (Value.int .i64) (by first | omega | (split <;> omega)))
    ·intro t wq hbq hh K hK
     have e5 := hh.1
     simp only [pick] at e5
     replace e5 : t 5 = (.int .i64 (n : Int)) := e5
     clear hh
     simp only [filled, upd, Have, is, any, row, pick, Act.put, List.setIfInBounds_toArray, List.set_cons_zero, List.set_cons_succ, Nat.reduceAdd, Nat.reduceEqDiff, reduceIte] at hK ⊢
     simp only [e5] at hK ⊢
     go_simp
     exact hK _ _ (Below.refl _ _) rfl
   ·intro t wq hbq hh
    have f6 := have_get hh 6 (by decide)
    simp only [pick] at f6
    replace f6 : t 6 = (.int .i64 (n : Int)) := f6
    clear hh
    simp only [filled, upd, Have, is, any, row, pick, Act.put, List.setIfInBounds_toArray, List.set_cons_zero, List.set_cons_succ, Nat.reduceAdd, Nat.reduceEqDiff, reduceIte]
    simp only [f6]
    go_wp2
    go_ret
    exact ⟨ret_int (by rw [hm']), hbq⟩
end Go.Proofs.YtegpfgccaminkaaGreatDoor.BlobC
namespace Go.Proofs.YtegpfgccaminkaaGreatDoor.BlobD
open Go.RowKit Base Base2 Base3 UtfL BlobA BlobB BlobC
def Ptr (w : World) (v : Value) (o : Option Int) : Prop :=
 (v = .pointer none ∧ o = none) ∨ ∃ b z, v = .pointer (some ⟨b, 0, none⟩) ∧ b < w.heap.size ∧ w.cell? ⟨b, 0, none⟩ = some (.int .i64 z) ∧ -9223372036854775808 ≤ z ∧ z ≤ 9223372036854775807 ∧ o = some z
theorem Ptr.below {w w' : World} {v : Value} {o : Option Int} (h : Ptr w v o) (hb : Below w.heap.size w w') : Ptr w' v o := by
 rcases h with h | ⟨b, z, h1, h2, h3, h4⟩
 ·exact Or.inl h
 ·exact Or.inr ⟨b, z, h1, Nat.lt_of_lt_of_le h2 hb.size, (hb.cell (p := ⟨b, 0, none⟩) h2).trans h3, h4⟩
def pl (o : Option Int) (l n : Nat) : Nat := match o with | none => l | some z => plc z n
theorem plc_le (z : Int) (n : Nat) : plc z n ≤ n := by
 unfold plc
 split <;> omega
theorem pl_le (o : Option Int) (l n : Nat) (h : l ≤ n) : pl o l n ≤ n := by
 cases o
 ·exact h
 ·exact plc_le _ _
set_option maxRecDepth 100000 in
theorem place_any (g n : Nat) (L K : List UInt8) (v : Value) (o : Option Int) (l : Nat) (w : World) (h : BlobAt w g n L K) (hn : n ≤ 1073741824) (hp : Ptr w v o) :
  Calls Tryz.prog 64 #[.pointer (some ⟨g, 0, none⟩), v, .int .i64 (l : Int)] w fun e w' => e = .returned (.int .i64 ((pl o l n : Nat) : Int)) ∧ Below w.heap.size w w' := by
 rcases hp with ⟨rfl, rfl⟩ | ⟨b, z, rfl, h2, h3, h4, h5, rfl⟩
 ·exact place_nil g n L K l w h
 ·exact place_at g n b L K z l w h hn h2 h3 h4 h5
end Go.Proofs.YtegpfgccaminkaaGreatDoor.BlobD
namespace Go.Proofs.YtegpfgccaminkaaGreatDoor.BlobK
open Go.RowKit Base Base2 Base3 UtfL BlobA BlobB BlobC BlobD TbK
def BlobK (lo : Nat) (w : World) (g : Nat) (L K : List UInt8) : Prop :=
  ∃ v, lo ≤ g ∧ w.heap[g]? = some (.cells #[v, .string (strOf K)] 138 (0, 0)) ∧ w.ownsRow lo 5 1 v L.length (bcells L)
theorem BlobK.at {lo : Nat} {w : World} {g : Nat} {L K : List UInt8} (h : BlobK lo w g L K) : BlobAt w g L.length L K := by
  obtain ⟨v, _, h1, h2⟩ := h
  obtain ⟨A, c, rfl, h3, h4, h5⟩ := owns_form h2
  exact ⟨A, c, (Array.getElem?_eq_some_iff.1 h1).1, (cell_of_row w g 0 _ _ _ h1).trans rfl, (cell_of_row w g 1 _ _ _ h1).trans rfl, h3, h4, h5⟩
theorem BlobK.low {lo lo' : Nat} {w : World} {g : Nat} {L K : List UInt8} (h : BlobK lo w g L K) (hl : lo' ≤ lo) : BlobK lo' w g L K := by
  obtain ⟨v, h0, h1, h2⟩ := h
  exact ⟨v, Nat.le_trans hl h0, h1, owns_base h2 hl⟩
theorem BlobK.lt {lo : Nat} {w : World} {g : Nat} {L K : List UInt8} (h : BlobK lo w g L K) : g < w.heap.size := by
  obtain ⟨v, _, h1, _⟩ := h
  exact (Array.getElem?_eq_some_iff.1 h1).1
theorem BlobK.below {lo : Nat} {w w' : World} {g : Nat} {L K : List UInt8} (h : BlobK lo w g L K) (hb : Below w.heap.size w w') : BlobK lo w' g L K := by
  have hl := h.lt
  obtain ⟨v, h0, h1, h2⟩ := h
  exact ⟨v, h0, (hb.block g hl).trans h1, owns_below h2 hb⟩
theorem BlobK.kp {lo : Nat} {w w' : World} {g : Nat} {L K : List UInt8} {T E : TypeId} (h : BlobK lo w g L K) (hk : Kp T E w w') (h1 : 138 ≠ T) (h2 : 138 ≠ E) (h3 : 5 ≠ T) (h4 : 5 ≠ E) : BlobK lo w' g L K := by
  obtain ⟨v, a, b, c⟩ := h
  exact ⟨v, a, hk.cells b h1 h2, hk.owns c h3 h4⟩
theorem new_k (A : Option Addr) (n cap : Nat) (L : List UInt8) (s : ByteArray) (w : World) (h : Rds w A n (bcells L)) (hm : n ≤ 1073741824) (hs : s.size ≤ maxLen) :
    Calls Tryz.prog 38 #[.slice A n cap, .string s] w fun e w' => ∃ g, e = .returned (.pointer (some ⟨g, 0, none⟩)) ∧ w.heap.size ≤ g ∧ BlobK w.heap.size w' g L (kd s.data.toList) ∧ Below w.heap.size w w' := by
  have HH := hid h
  clear h
  go_enter Tryz.func38, Tryz.ntmps38
  go_wp2_with fail
  refine (clone_any A n cap L _ HH.out hm).mono ?_
  rintro e w1 ⟨v, rfl, hown, hb1⟩
  obtain ⟨A1, c1, hv, _⟩ := owns_form hown
  subst hv
  have HO1 := hid hown
  have HNL : Hid (L.length = n) := by show _ = _; rw [← length_bcells]; exact HH.out.1
  clear hown
  go_wp2_with fail
  refine (kind_any s _ hs).mono ?_
  rintro e w2 ⟨rfl, hb2⟩
  have HO2 := hid (owns_below HO1.out hb2)
  go_wp2
  go_ret
  refine ⟨w2.heap.size, rfl, Nat.le_trans hb1.size hb2.size, ⟨_, Nat.le_trans hb1.size hb2.size, heap_alloc_new _ _, ?_⟩, (bel hb1 hb2).alloc (Nat.le_trans hb1.size hb2.size) _⟩
  rw [HNL.out]
  exact owns_below HO2.out ((Below.refl _ _).alloc (Nat.le_refl _) _)
set_option maxRecDepth 100000 in
set_option maxHeartbeats 1000000 in
theorem slice_k (g n : Nat) (L K : List UInt8) (vf vt : Value) (of ot : Option Int) (s : ByteArray) (w : World) (h : BlobAt w g n L K) (hn : n ≤ 1073741824) (hf : Ptr w vf of) (ht : Ptr w vt ot) (hs : s.size ≤ maxLen) :
    Calls Tryz.prog 40 #[.pointer (some ⟨g, 0, none⟩), vf, vt, .string s] w fun e w' => ∃ g2, e = .returned (.pointer (some ⟨g2, 0, none⟩)) ∧ w.heap.size ≤ g2 ∧
      BlobK w.heap.size w' g2 ((L.drop (pl of 0 n)).take (max (pl of 0 n) (pl ot n n) - pl of 0 n)) (kd s.data.toList) ∧ Below w.heap.size w w' := by
  have hst := pl_le of 0 n (Nat.zero_le _)
  have hen := pl_le ot n n (Nat.le_refl _)
  obtain ⟨st, hst2⟩ : ∃ st, pl of 0 n = st := ⟨_, rfl⟩
  obtain ⟨en, hen2⟩ : ∃ en, pl ot n n = en := ⟨_, rfl⟩
  obtain ⟨mx, hmx⟩ : ∃ mx, max st en = mx := ⟨_, rfl⟩
  rw [hst2] at hst
  rw [hen2] at hen
  rw [hst2, hen2, hmx]
  have HST := hid hst2
  have HEN := hid hen2
  have HB := hid h
  have HF := hid hf
  have HT := hid ht
  have hmxn : mx ≤ n := by omega
  have hsm : st ≤ mx := by omega
  have hcase : (st ≤ en ∧ en = mx) ∨ (en < st ∧ st = mx) := by omega
  clear h hf ht hst2 hen2 hmx
  go_enter Tryz.func40, Tryz.ntmps40
  go_wp2_with fail
  refine (place_any g n L K vf of 0 _ HB.out hn HF.out).mono ?_
  rintro e w1 ⟨rfl, hb1⟩
  rw [HST.out]
  have HB1 := hid (HB.out.below hb1)
  have HT1 := hid (HT.out.below hb1)
  go_wp2_with fail
  refine (len_any g n L K _ HB1.out).mono ?_
  rintro e w2 ⟨rfl, hb2⟩
  have HB2 := hid (HB1.out.below hb2)
  have HT2 := hid (HT1.out.below hb2)
  go_wp2_with fail
  refine (place_any g n L K vt ot n _ HB2.out hn HT2.out).mono ?_
  rintro e w3 ⟨rfl, hb3⟩
  rw [HEN.out]
  have hb13 : Below w.heap.size w w3 := bel (bel hb1 hb2) hb3
  obtain ⟨A, c, x1, x2, x3, x4, x5, x6⟩ := HB2.out.below hb3
  have HX := hid x6
  clear x6 HB HF HT HB1 HT1 HB2 HT2 hb1 hb2 hb3
  have hmxc : mx ≤ c := by omega
  have hL : L.length = n := by rw [← length_bcells]; exact HX.out.1
  have HL := hid hL
  clear hL
  -- what is handed to New reads so
  have HNew : Hid (∀ (A2 : Option Addr) (c2 : Nat), Rds w3 A2 (mx - st) (bcells ((L.drop st).take (mx - st))) → Calls Tryz.prog 38 #[.slice A2 (mx - st) c2, .string s] w3 fun e w' => ∃ g, e = .returned (.pointer (some ⟨g, 0, none⟩)) ∧ w3.heap.size ≤ g ∧ BlobK w3.heap.size w' g ((L.drop st).take (mx - st)) (kd s.data.toList) ∧ Below w3.heap.size w3 w') := fun A2 c2 h2 => new_k A2 (mx - st) c2 _ s w3 h2 (by omega) hs
  have HNew0 : Hid (mx - st = 0 → ∀ (A2 : Option Addr) (c2 : Nat), Calls Tryz.prog 38 #[.slice A2 0 c2, .string s] w3 fun e w' => ∃ g, e = .returned (.pointer (some ⟨g, 0, none⟩)) ∧ w3.heap.size ≤ g ∧ BlobK w3.heap.size w' g ((L.drop st).take (mx - st)) (kd s.data.toList) ∧ Below w3.heap.size w3 w') := fun h A2 c2 => by
    have h2 : Rds w3 A2 (mx - st) (bcells ((L.drop st).take (mx - st))) := by rw [h, List.take_zero]; exact Rds.nil _
    have h3 := HNew.out A2 c2 h2
    have e : (Value.slice A2 0 c2) = .slice A2 (mx - st) c2 := by rw [h]
    rw [e]
    exact h3
  have hsmI : (st : Int) ≤ (mx : Int) := by omega
  have hmxI : (mx : Int) ≤ (c : Int) := by omega
  by_cases hz : st = mx
  · have hz0 : mx - st = 0 := by omega
    have HN0 := hid (HNew0.out hz0)
    clear HNew HNew0
    rcases (show (st = en) ∨ (en < st) by omega) with hse | hse
    all_goals
      have hse' : max (st : Int) (en : Int) = (st : Int) := by omega
      first | (have g1 : ¬ (en : Int) < (st : Int) := by omega) | (have g1 : (en : Int) < (st : Int) := by omega)
      first | subst hse | skip
      subst hz
      clear hcase
      cases A with
      | none =>
        have h0 : n = 0 := by
          rcases Nat.eq_zero_or_pos n with h0 | h0
          · exact h0
          · obtain ⟨_, _, e, _⟩ := HX.out.spot h0
            cases e
        have h1 : st = 0 := by omega
        first
          | (exfalso; omega)
          | (subst h0
             subst h1
             go_wp2_with fail
             refine (HN0.out _ _).mono ?_
             rintro e w4 ⟨g2, rfl, hg2, hblob, hb4⟩
             go_wp2
             go_ret
             exact ⟨g2, rfl, Nat.le_trans hb13.size hg2, hblob.low hb13.size, bel hb13 hb4⟩)
      | some ad =>
        rcases Nat.eq_zero_or_pos n with h0 | h0
        · have h1 : st = 0 := by omega
          first
            | (exfalso; omega)
            | (subst h0
               subst h1
               by_cases hc0 : c = 0
               · subst hc0
                 go_wp2_with fail
                 refine (HN0.out _ _).mono ?_
                 rintro e w4 ⟨g2, rfl, hg2, hblob, hb4⟩
                 go_wp2
                 go_ret
                 exact ⟨g2, rfl, Nat.le_trans hb13.size hg2, hblob.low hb13.size, bel hb13 hb4⟩
               · skip
                 go_wp2_with fail
                 refine (HN0.out _ _).mono ?_
                 rintro e w4 ⟨g2, rfl, hg2, hblob, hb4⟩
                 go_wp2
                 go_ret
                 exact ⟨g2, rfl, Nat.le_trans hb13.size hg2, hblob.low hb13.size, bel hb13 hb4⟩)
        · obtain ⟨b, off, e, _⟩ := HX.out.spot h0
          cases e
          by_cases hc0 : c = st
          · subst hc0
            go_wp2_with fail
            refine (HN0.out _ _).mono ?_
            rintro e w4 ⟨g2, rfl, hg2, hblob, hb4⟩
            go_wp2
            go_ret
            exact ⟨g2, rfl, Nat.le_trans hb13.size hg2, hblob.low hb13.size, bel hb13 hb4⟩
          · go_wp2_with fail
            refine (HN0.out _ _).mono ?_
            rintro e w4 ⟨g2, rfl, hg2, hblob, hb4⟩
            go_wp2
            go_ret
            exact ⟨g2, rfl, Nat.le_trans hb13.size hg2, hblob.low hb13.size, bel hb13 hb4⟩
  · have hse : en = mx := by omega
    subst hse
    have g1 : (st : Int) < (en : Int) := by omega
    have g2 : ¬ (en : Int) < (st : Int) := by omega
    have g3 : max (st : Int) (en : Int) = (en : Int) := by omega
    obtain ⟨b, off, e, _⟩ := HX.out.spot (by omega)
    cases e
    have hcs : ¬ c = st := by omega
    have hR : Rds w3 (some ⟨b, off + st, none⟩) (en - st) (bcells ((L.drop st).take (en - st))) := by
      rw [bcells_take, bcells_drop]
      exact (HX.out.cut st (by omega)).upto _ (by omega)
    have HN1 := hid (HNew.out (some ⟨b, off + st, none⟩) (c - st) hR)
    clear HNew HNew0 hcase hR hz
    go_wp2_with fail
    refine (HN1.out).mono ?_
    rintro e w4 ⟨g2, rfl, hg2, hblob, hb4⟩
    go_wp2
    go_ret
    exact ⟨g2, rfl, Nat.le_trans hb13.size hg2, hblob.low hb13.size, bel hb13 hb4⟩
end Go.Proofs.YtegpfgccaminkaaGreatDoor.BlobK
namespace Go.Proofs.YtegpfgccaminkaaGreatDoor.MaiA
open Go.Conc Go.RowKit Base Base2
def M2 (t : TypeId) (w : World) (g cu cp : Nat) : Prop := w.heap[g]? = some (.cells #[.chan (some cu), .chan (some cp)] t (0, 0))
def Box (w : World) (c cap : Nat) (buf : Array Value) (s r : Nat) : Prop := w.heap[c]? = some (.chan cap buf false s r false)
theorem M2.facts {t : TypeId} {w : World} {g cu cp : Nat} (h : M2 t w g cu cp) : w.cell? ⟨g, 0, none⟩ = some (.chan (some cu)) ∧ w.cell? ⟨g, 1, none⟩ = some (.chan (some cp)) := ⟨(cell_of_row w g 0 _ _ _ h).trans rfl, (cell_of_row w g 1 _ _ _ h).trans rfl⟩
theorem res_s (c : Nat) (u z : Value) : commResult #[scase c u z] .select ((0 : Nat) : Int) undef false = .tuple #[goInt 0, .bool false] := by
 simp [commResult, scase, List.zipIdx_cons]
theorem res_sd (c : Nat) (u z : Value) : commResult #[scase c u z] .select (-1) undef false = .tuple #[goInt (-1), .bool false] := by
 simp [commResult, scase, List.zipIdx_cons]
theorem res_r (c : Nat) (z v : Value) : commResult #[rcase c z] .select ((0 : Nat) : Int) v true = .tuple #[goInt 0, .bool true, v] := by
 simp [commResult, rcase, List.zipIdx_cons]
theorem res_rd (c : Nat) (z : Value) : commResult #[rcase c z] .select (-1) undef false = .tuple #[goInt (-1), .bool false, z] := by
 simp [commResult, rcase, List.zipIdx_cons]
set_option maxRecDepth 100000 in
theorem putS_plain_room (g cu cp cap s r : Nat) (buf : Array Value) (x : ByteArray) (w : World) (h : M2 132 w g cu cp) (hB : Box w cp cap buf s r) (hr : buf.size < cap) : Calls Tryz.prog 42 #[.pointer (some ⟨g, 0, none⟩), .string x, .bool false] w fun e w' => e = .returned (.bool true) ∧ w' = w.setChan cp cap (buf.push (.string x)) false (s + 1) r false := by
 obtain ⟨c0, c1⟩ := h.facts
 refine calls_of_loneTo fun cs => ?_
 have e : Frame.enter Tryz.prog 42 #[.pointer (some ⟨g, 0, none⟩), .string x, .bool false] .normal = (base 42).at ⟨#[.pointer (some ⟨g, 0, none⟩), .string x, .bool false, undef, undef, undef, undef, undef, undef, undef, undef, undef, undef, undef, undef, undef, undef, undef, undef, undef, undef, undef, undef, undef], []⟩ [.code (Tryz.f42.body.getD .skip)] := by
  simp [Frame.enter, Frame.at, Tryz.func42, base, Tryz.f42]
 rw [e]
 refine LoneTo.goes (n := 37) ?_
 simp only [Tryz.f42, Option.getD_some]
 s_c stepG_seq
 s_reg
 s_op
 s_c stepG_region_end
 s_c stepG_seq
 s_c stepG_seq
 s_reg
 s_op
 s_op
 s_c stepG_region_end
 s_cond false
 s_c stepG_skip
 s_c stepG_seq
 s_reg
 s_op
 s_op
 s_op
 s_op
 s_op
 s_c stepG_region_end
 s_c stepG_seq
 s_c stepG_seq
 s_reg
 s_op
 s_c stepG_region_end
 s_cond false
 s_c stepG_skip
 s_c stepG_seq
 s_c stepG_seq
 s_reg
 s_op
 s_c stepG_region_end
 s_reg
 s_op
 s_c stepG_region_end
 s_c stepG_seq
 s_reg
 s_stop
 refine LoneTo.step (step_lone_sel_send_room (k := 0) (c := cp) (v := .string x) (z := .string ⟨#[]⟩) (cap := cap) (buf := buf) (s := s) (r := r) (tm := false) (stepG_comm (cases := #[scase cp (.string x) (.string ⟨#[]⟩)]) (blocking := false) (shape := .select) (w' := w) rfl rfl (by decide) (by simp [go_sem, execOp, rcase, scase, Act.eval])) rfl (fun m c' hm hc' => ?_) hB hr) ?_
 ·rcases m with _ | m
  ·exact absurd rfl hm
  ·simp at hc'
 rw [Frame.finish_at, res_s]
 walk_nrm
 refine LoneTo.goes (n := 10) ?_
 s_op
 s_op
 s_c stepG_region_end
 s_c stepG_block
 s_cond true
 s_c stepG_seq
 s_reg
 s_op
 s_c stepG_region_end
 s_c stepG_ret'
 s_stop
 exact LoneTo.done ⟨.returned (.bool true), _, rfl, ⟨rfl, rfl⟩, rfl, rfl, rfl, rfl, _, Tryz.func42, by simp [results, Tryz.f42, Frame.at]⟩
set_option maxRecDepth 100000 in
theorem putS_plain_full (g cu cp cap s r : Nat) (buf : Array Value) (x : ByteArray) (w : World) (h : M2 132 w g cu cp) (hB : Box w cp cap buf s r) (hr : cap ≤ buf.size) : Calls Tryz.prog 42 #[.pointer (some ⟨g, 0, none⟩), .string x, .bool false] w fun e w' => e = .returned (.bool false) ∧ w' = w := by
 obtain ⟨c0, c1⟩ := h.facts
 refine calls_of_loneTo fun cs => ?_
 have e : Frame.enter Tryz.prog 42 #[.pointer (some ⟨g, 0, none⟩), .string x, .bool false] .normal = (base 42).at ⟨#[.pointer (some ⟨g, 0, none⟩), .string x, .bool false, undef, undef, undef, undef, undef, undef, undef, undef, undef, undef, undef, undef, undef, undef, undef, undef, undef, undef, undef, undef, undef], []⟩ [.code (Tryz.f42.body.getD .skip)] := by
  simp [Frame.enter, Frame.at, Tryz.func42, base, Tryz.f42]
 rw [e]
 refine LoneTo.goes (n := 37) ?_
 simp only [Tryz.f42, Option.getD_some]
 s_c stepG_seq
 s_reg
 s_op
 s_c stepG_region_end
 s_c stepG_seq
 s_c stepG_seq
 s_reg
 s_op
 s_op
 s_c stepG_region_end
 s_cond false
 s_c stepG_skip
 s_c stepG_seq
 s_reg
 s_op
 s_op
 s_op
 s_op
 s_op
 s_c stepG_region_end
 s_c stepG_seq
 s_c stepG_seq
 s_reg
 s_op
 s_c stepG_region_end
 s_cond false
 s_c stepG_skip
 s_c stepG_seq
 s_c stepG_seq
 s_reg
 s_op
 s_c stepG_region_end
 s_reg
 s_op
 s_c stepG_region_end
 s_c stepG_seq
 s_reg
 s_stop
 refine LoneTo.step (step_lone_sel_default (stepG_comm (cases := #[scase cp (.string x) (.string ⟨#[]⟩)]) (blocking := false) (shape := .select) (w' := w) rfl rfl (by decide) (by simp [go_sem, execOp, rcase, scase, Act.eval])) (fun cc hcc => ?_)) ?_
 ·simp only [List.mem_toArray, List.mem_cons, List.not_mem_nil, or_false] at hcc
  subst hcc
  exact noWay_send hB hr
 rw [Frame.finish_at, res_sd]
 walk_nrm
 refine LoneTo.goes (n := 10) ?_
 s_op
 s_op
 s_c stepG_region_end
 s_c stepG_block
 s_cond false
 s_c stepG_seq
 s_reg
 s_op
 s_c stepG_region_end
 s_c stepG_ret'
 s_stop
 exact LoneTo.done ⟨.returned (.bool false), _, rfl, ⟨rfl, rfl⟩, rfl, rfl, rfl, rfl, _, Tryz.func42, by simp [results, Tryz.f42, Frame.at]⟩
set_option maxRecDepth 100000 in
theorem putS_urgent_room (g cu cp cap s r : Nat) (buf : Array Value) (x : ByteArray) (w : World) (h : M2 132 w g cu cp) (hB : Box w cu cap buf s r) (hr : buf.size < cap) : Calls Tryz.prog 42 #[.pointer (some ⟨g, 0, none⟩), .string x, .bool true] w fun e w' => e = .returned (.bool true) ∧ w' = w.setChan cu cap (buf.push (.string x)) false (s + 1) r false := by
 obtain ⟨c0, c1⟩ := h.facts
 refine calls_of_loneTo fun cs => ?_
 have e : Frame.enter Tryz.prog 42 #[.pointer (some ⟨g, 0, none⟩), .string x, .bool true] .normal = (base 42).at ⟨#[.pointer (some ⟨g, 0, none⟩), .string x, .bool true, undef, undef, undef, undef, undef, undef, undef, undef, undef, undef, undef, undef, undef, undef, undef, undef, undef, undef, undef, undef, undef], []⟩ [.code (Tryz.f42.body.getD .skip)] := by
  simp [Frame.enter, Frame.at, Tryz.func42, base, Tryz.f42]
 rw [e]
 refine LoneTo.goes (n := 43) ?_
 simp only [Tryz.f42, Option.getD_some]
 s_c stepG_seq
 s_reg
 s_op
 s_c stepG_region_end
 s_c stepG_seq
 s_c stepG_seq
 s_reg
 s_op
 s_op
 s_c stepG_region_end
 s_cond false
 s_c stepG_skip
 s_c stepG_seq
 s_reg
 s_op
 s_op
 s_op
 s_op
 s_op
 s_c stepG_region_end
 s_c stepG_seq
 s_c stepG_seq
 s_reg
 s_op
 s_c stepG_region_end
 s_cond true
 s_reg
 s_op
 s_op
 s_op
 s_op
 s_op
 s_c stepG_region_end
 s_c stepG_seq
 s_c stepG_seq
 s_reg
 s_op
 s_c stepG_region_end
 s_reg
 s_op
 s_c stepG_region_end
 s_c stepG_seq
 s_reg
 s_stop
 refine LoneTo.step (step_lone_sel_send_room (k := 0) (c := cu) (v := .string x) (z := .string ⟨#[]⟩) (cap := cap) (buf := buf) (s := s) (r := r) (tm := false) (stepG_comm (cases := #[scase cu (.string x) (.string ⟨#[]⟩)]) (blocking := false) (shape := .select) (w' := w) rfl rfl (by decide) (by simp [go_sem, execOp, rcase, scase, Act.eval])) rfl (fun m c' hm hc' => ?_) hB hr) ?_
 ·rcases m with _ | m
  ·exact absurd rfl hm
  ·simp at hc'
 rw [Frame.finish_at, res_s]
 walk_nrm
 refine LoneTo.goes (n := 10) ?_
 s_op
 s_op
 s_c stepG_region_end
 s_c stepG_block
 s_cond true
 s_c stepG_seq
 s_reg
 s_op
 s_c stepG_region_end
 s_c stepG_ret'
 s_stop
 exact LoneTo.done ⟨.returned (.bool true), _, rfl, ⟨rfl, rfl⟩, rfl, rfl, rfl, rfl, _, Tryz.func42, by simp [results, Tryz.f42, Frame.at]⟩
set_option maxRecDepth 100000 in
theorem putS_urgent_full (g cu cp cap s r : Nat) (buf : Array Value) (x : ByteArray) (w : World) (h : M2 132 w g cu cp) (hB : Box w cu cap buf s r) (hr : cap ≤ buf.size) : Calls Tryz.prog 42 #[.pointer (some ⟨g, 0, none⟩), .string x, .bool true] w fun e w' => e = .returned (.bool false) ∧ w' = w := by
 obtain ⟨c0, c1⟩ := h.facts
 refine calls_of_loneTo fun cs => ?_
 have e : Frame.enter Tryz.prog 42 #[.pointer (some ⟨g, 0, none⟩), .string x, .bool true] .normal = (base 42).at ⟨#[.pointer (some ⟨g, 0, none⟩), .string x, .bool true, undef, undef, undef, undef, undef, undef, undef, undef, undef, undef, undef, undef, undef, undef, undef, undef, undef, undef, undef, undef, undef], []⟩ [.code (Tryz.f42.body.getD .skip)] := by
  simp [Frame.enter, Frame.at, Tryz.func42, base, Tryz.f42]
 rw [e]
 refine LoneTo.goes (n := 43) ?_
 simp only [Tryz.f42, Option.getD_some]
 s_c stepG_seq
 s_reg
 s_op
 s_c stepG_region_end
 s_c stepG_seq
 s_c stepG_seq
 s_reg
 s_op
 s_op
 s_c stepG_region_end
 s_cond false
 s_c stepG_skip
 s_c stepG_seq
 s_reg
 s_op
 s_op
 s_op
 s_op
 s_op
 s_c stepG_region_end
 s_c stepG_seq
 s_c stepG_seq
 s_reg
 s_op
 s_c stepG_region_end
 s_cond true
 s_reg
 s_op
 s_op
 s_op
 s_op
 s_op
 s_c stepG_region_end
 s_c stepG_seq
 s_c stepG_seq
 s_reg
 s_op
 s_c stepG_region_end
 s_reg
 s_op
 s_c stepG_region_end
 s_c stepG_seq
 s_reg
 s_stop
 refine LoneTo.step (step_lone_sel_default (stepG_comm (cases := #[scase cu (.string x) (.string ⟨#[]⟩)]) (blocking := false) (shape := .select) (w' := w) rfl rfl (by decide) (by simp [go_sem, execOp, rcase, scase, Act.eval])) (fun cc hcc => ?_)) ?_
 ·simp only [List.mem_toArray, List.mem_cons, List.not_mem_nil, or_false] at hcc
  subst hcc
  exact noWay_send hB hr
 rw [Frame.finish_at, res_sd]
 walk_nrm
 refine LoneTo.goes (n := 10) ?_
 s_op
 s_op
 s_c stepG_region_end
 s_c stepG_block
 s_cond false
 s_c stepG_seq
 s_reg
 s_op
 s_c stepG_region_end
 s_c stepG_ret'
 s_stop
 exact LoneTo.done ⟨.returned (.bool false), _, rfl, ⟨rfl, rfl⟩, rfl, rfl, rfl, rfl, _, Tryz.func42, by simp [results, Tryz.f42, Frame.at]⟩
set_option maxRecDepth 100000 in
theorem takeS_urgent (g cu cp cap s r s' r' : Nat) (buf rest : Array Value) (x : ByteArray) (w : World) (h : M2 132 w g cu cp) (hB : Box w cu cap buf s r) (h0 : 0 < buf.size) (hx : buf.getD 0 undef = .string x) (hrest : buf.extract 1 buf.size = rest) : Calls Tryz.prog 43 #[.pointer (some ⟨g, 0, none⟩)] w fun e w' => e = .returned (.tuple #[.string x, .bool true, .bool true]) ∧ w' = w.setChan cu cap rest false s (r + 1) false := by
 obtain ⟨c0, c1⟩ := h.facts
 refine calls_of_loneTo fun cs => ?_
 have e : Frame.enter Tryz.prog 43 #[.pointer (some ⟨g, 0, none⟩)] .normal = (base 43).at ⟨#[.pointer (some ⟨g, 0, none⟩), undef, undef, undef, undef, undef, undef, undef, undef, undef, undef, undef, undef, undef, undef, undef, undef, undef, undef, undef, undef, undef, undef, undef, undef, undef, undef, undef, undef, undef], []⟩ [.code (Tryz.f43.body.getD .skip)] := by
  simp [Frame.enter, Frame.at, Tryz.func43, base, Tryz.f43]
 rw [e]
 refine LoneTo.goes (n := 28) ?_
 simp only [Tryz.f43, Option.getD_some]
 s_c stepG_seq
 s_reg
 s_op
 s_op
 s_op
 s_c stepG_region_end
 s_c stepG_seq
 s_reg
 s_op
 s_c stepG_region_end
 s_c stepG_seq
 s_c stepG_seq
 s_reg
 s_op
 s_op
 s_c stepG_region_end
 s_cond false
 s_c stepG_skip
 s_c stepG_seq
 s_c stepG_seq
 s_reg
 s_op
 s_op
 s_op
 s_op
 s_c stepG_region_end
 s_c stepG_seq
 s_reg
 s_stop
 refine LoneTo.step (step_lone_sel_recv_buf (k := 0) (c := cu) (z := .string ⟨#[]⟩) (cap := cap) (buf := buf) (closed := false) (s := s) (r := r) (tm := false) (stepG_comm (cases := #[rcase cu (.string ⟨#[]⟩)]) (blocking := false) (shape := .select) (w' := w) rfl rfl (by decide) (by simp [go_sem, execOp, rcase, scase, Act.eval])) rfl (fun m c' hm hc' => ?_) hB h0) ?_
 ·rcases m with _ | m
  ·exact absurd rfl hm
  ·simp at hc'
 rw [hx, hrest, Frame.finish_at, res_r]
 walk_nrm
 refine LoneTo.goes (n := 18) ?_
 s_op
 s_op
 s_c stepG_region_end
 s_c stepG_block
 s_cond true
 s_c stepG_seq
 s_reg
 s_op
 s_op
 s_c stepG_region_end
 s_c stepG_seq
 s_reg
 s_op
 s_op
 s_op
 s_op
 s_c stepG_region_end
 s_c stepG_ret'
 s_stop
 exact LoneTo.done ⟨.returned (.tuple #[.string x, .bool true, .bool true]), _, rfl, ⟨rfl, rfl⟩, rfl, rfl, rfl, rfl, _, Tryz.func43, by simp [results, Tryz.f43, Frame.at]⟩
set_option maxRecDepth 100000 in
theorem takeS_plain (g cu cp cap s r s' r' : Nat) (buf rest : Array Value) (x : ByteArray) (w : World) (h : M2 132 w g cu cp) (hU : Box w cu cap #[] s r) (hB : Box w cp cap buf s' r') (h0 : 0 < buf.size) (hx : buf.getD 0 undef = .string x) (hrest : buf.extract 1 buf.size = rest) : Calls Tryz.prog 43 #[.pointer (some ⟨g, 0, none⟩)] w fun e w' => e = .returned (.tuple #[.string x, .bool false, .bool true]) ∧ w' = w.setChan cp cap rest false s' (r' + 1) false := by
 obtain ⟨c0, c1⟩ := h.facts
 refine calls_of_loneTo fun cs => ?_
 have e : Frame.enter Tryz.prog 43 #[.pointer (some ⟨g, 0, none⟩)] .normal = (base 43).at ⟨#[.pointer (some ⟨g, 0, none⟩), undef, undef, undef, undef, undef, undef, undef, undef, undef, undef, undef, undef, undef, undef, undef, undef, undef, undef, undef, undef, undef, undef, undef, undef, undef, undef, undef, undef, undef], []⟩ [.code (Tryz.f43.body.getD .skip)] := by
  simp [Frame.enter, Frame.at, Tryz.func43, base, Tryz.f43]
 rw [e]
 refine LoneTo.goes (n := 28) ?_
 simp only [Tryz.f43, Option.getD_some]
 s_c stepG_seq
 s_reg
 s_op
 s_op
 s_op
 s_c stepG_region_end
 s_c stepG_seq
 s_reg
 s_op
 s_c stepG_region_end
 s_c stepG_seq
 s_c stepG_seq
 s_reg
 s_op
 s_op
 s_c stepG_region_end
 s_cond false
 s_c stepG_skip
 s_c stepG_seq
 s_c stepG_seq
 s_reg
 s_op
 s_op
 s_op
 s_op
 s_c stepG_region_end
 s_c stepG_seq
 s_reg
 s_stop
 refine LoneTo.step (step_lone_sel_default (stepG_comm (cases := #[rcase cu (.string ⟨#[]⟩)]) (blocking := false) (shape := .select) (w' := w) rfl rfl (by decide) (by simp [go_sem, execOp, rcase, scase, Act.eval])) (fun cc hcc => ?_)) ?_
 ·simp only [List.mem_toArray, List.mem_cons, List.not_mem_nil, or_false] at hcc
  subst hcc
  exact noWay_recv hU
 rw [Frame.finish_at, res_rd]
 walk_nrm
 refine LoneTo.goes (n := 16) ?_
 s_op
 s_op
 s_c stepG_region_end
 s_c stepG_block
 s_cond false
 s_c stepG_skip
 s_c stepG_inBlock
 s_c stepG_seq
 s_reg
 s_op
 s_op
 s_op
 s_op
 s_c stepG_region_end
 s_c stepG_seq
 s_reg
 s_stop
 refine LoneTo.step (step_lone_sel_recv_buf (k := 0) (c := cp) (z := .string ⟨#[]⟩) (cap := cap) (buf := buf) (closed := false) (s := s') (r := r') (tm := false) (stepG_comm (cases := #[rcase cp (.string ⟨#[]⟩)]) (blocking := false) (shape := .select) (w' := w) rfl rfl (by decide) (by simp [go_sem, execOp, rcase, scase, Act.eval])) rfl (fun m c' hm hc' => ?_) hB h0) ?_
 ·rcases m with _ | m
  ·exact absurd rfl hm
  ·simp at hc'
 rw [hx, hrest, Frame.finish_at, res_r]
 walk_nrm
 refine LoneTo.goes (n := 18) ?_
 s_op
 s_op
 s_c stepG_region_end
 s_c stepG_block
 s_cond true
 s_c stepG_seq
 s_reg
 s_op
 s_op
 s_c stepG_region_end
 s_c stepG_seq
 s_reg
 s_op
 s_op
 s_op
 s_op
 s_c stepG_region_end
 s_c stepG_ret'
 s_stop
 exact LoneTo.done ⟨.returned (.tuple #[.string x, .bool false, .bool true]), _, rfl, ⟨rfl, rfl⟩, rfl, rfl, rfl, rfl, _, Tryz.func43, by simp [results, Tryz.f43, Frame.at]⟩
end Go.Proofs.YtegpfgccaminkaaGreatDoor.MaiA
namespace Go.Proofs.YtegpfgccaminkaaGreatDoor.MaiB
open Go.Conc Go.RowKit Base Base2 MaiA
def MS (t : TypeId) (B : Nat) (w : World) (g cap : Nat) (U P : List Value) : Prop := ∃ cu cp s r s' r', M2 t w g cu cp ∧ Box w cu cap U.toArray s r ∧ Box w cp cap P.toArray s' r' ∧ cu ≠ cp ∧ B ≤ g ∧ B ≤ cu ∧ B ≤ cp
theorem other (w : World) (c c' cap : Nat) (buf : Array Value) (closed : Bool) (s r : Nat) (tm : Bool) (h : c ≠ c') : (w.setChan c cap buf closed s r tm).heap[c']? = w.heap[c']? := by
 simp [World.setChan, Array.getElem?_setIfInBounds_ne h]
theorem m2_ne {t : TypeId} {w : World} {g cu cp c cap s r : Nat} {buf : Array Value} (h : M2 t w g cu cp) (hB : Box w c cap buf s r) : c ≠ g := by
 rintro rfl
 have := h.symm.trans hB
 cases this
theorem box_lt {w : World} {c cap s r : Nat} {buf : Array Value} (h : Box w c cap buf s r) : c < w.heap.size := (Array.getElem?_eq_some_iff.1 h).1
theorem m2_lt {t : TypeId} {w : World} {g cu cp : Nat} (h : M2 t w g cu cp) : g < w.heap.size := (Array.getElem?_eq_some_iff.1 h).1
theorem m2_set {t : TypeId} {w : World} {g cu cp c cap s r : Nat} {buf : Array Value} (h : M2 t w g cu cp) (hne : c ≠ g) : M2 t (w.setChan c cap buf false s r false) g cu cp := (other _ _ _ _ _ _ _ _ _ hne).trans h
theorem box_set {w : World} {c d cap cap' s r s' r' : Nat} {b b' : Array Value} (h : Box w d cap' b' s' r') (hne : c ≠ d) : Box (w.setChan c cap b false s r false) d cap' b' s' r' := (other _ _ _ _ _ _ _ _ _ hne).trans h
theorem box_own {w : World} {c cap s r : Nat} {b : Array Value} (h : c < w.heap.size) : Box (w.setChan c cap b false s r false) c cap b s r := heap_setChan w c cap b false s r false h
theorem MS.below {t : TypeId} {B : Nat} {w w' : World} {g cap : Nat} {U P : List Value} (h : MS t B w g cap U P) (hb : Below w.heap.size w w') : MS t B w' g cap U P := by
 obtain ⟨cu, cp, s, r, s', r', h1, h2, h3, rest⟩ := h
 exact ⟨cu, cp, s, r, s', r', (hb.block _ (m2_lt h1)).trans h1, (hb.block _ (box_lt h2)).trans h2, (hb.block _ (box_lt h3)).trans h3, rest⟩
def Kept (w w' : World) : Prop := ∀ (k : Nat) (cs : Array Value) (t : TypeId) (m : Nat × Nat), w.heap[k]? = some (Obj.cells cs t m) → w'.heap[k]? = some (Obj.cells cs t m)
theorem Kept.refl (w : World) : Kept w w := fun _ _ _ _ h => h
theorem kept_set {w : World} {c cap s r cap' s' r' : Nat} {buf buf' : Array Value} (h : Box w c cap buf s r) : Kept w (w.setChan c cap' buf' false s' r' false) := fun k cs t m e => by
 have hne : c ≠ k := by
  rintro rfl
  have := h.symm.trans e
  cases this
 exact (other _ _ _ _ _ _ _ _ _ hne).trans e
theorem getD_cons (x : Value) (U : List Value) : (x :: U).toArray.getD 0 undef = x := by simp
theorem rest_cons (x : Value) (U : List Value) : (x :: U).toArray.extract 1 (x :: U).toArray.size = U.toArray := by
 apply Array.ext'
 rw [Array.toList_extract]
 simp [List.extract_eq_take_drop]
theorem two_then (w : World) (a b c : Obj) : ((((w.alloc a).alloc b).alloc c).heap[w.heap.size]? = some a ∧ (((w.alloc a).alloc b).alloc c).heap[w.heap.size + 1]? = some b ∧ (((w.alloc a).alloc b).alloc c).heap[w.heap.size + 2]? = some c) := by
 refine ⟨?_, ?_, ?_⟩
 ·rw [Below.heap_alloc _ _ _ (by simp; omega), Below.heap_alloc _ _ _ (by simp)]; exact heap_alloc_new w _
 ·rw [Below.heap_alloc _ _ _ (by simp)]
  have := heap_alloc_new (w.alloc a) b
  simpa only [World.size_alloc] using this
 ·have := heap_alloc_new ((w.alloc a).alloc b) c
  simpa only [World.size_alloc] using this
theorem putS_u (B g cap : Nat) (U P : List Value) (x : ByteArray) (w : World) (h : MS 132 B w g cap U P) : Calls Tryz.prog 42 #[.pointer (some ⟨g, 0, none⟩), .string x, .bool true] w fun e w' => e = .returned (.bool (decide (U.length < cap))) ∧ MS 132 B w' g cap (if U.length < cap then U ++ [.string x] else U) P ∧ Below B w w' ∧ Kept w w' := by
 obtain ⟨cu, cp, s, r, s', r', h1, h2, h3, hne, hg, hcu, hcp⟩ := h
 by_cases hr : U.length < cap
 ·refine (putS_urgent_room g cu cp cap s r _ x w h1 h2 (by simpa using hr)).mono ?_
  rintro e w' ⟨rfl, rfl⟩
  refine ⟨by rw [decide_eq_true hr], ?_, below_setChan (Below.refl _ _) hcu _ _ _ _ _ _, kept_set h2⟩
  rw [if_pos hr]
  refine ⟨cu, cp, s + 1, r, s', r', m2_set h1 (m2_ne h1 h2), ?_, box_set h3 hne, hne, hg, hcu, hcp⟩
  have := box_own (w := w) (c := cu) (cap := cap) (s := s + 1) (r := r) (b := U.toArray.push (.string x)) (box_lt h2)
  simpa using this
 ·refine (putS_urgent_full g cu cp cap s r _ x w h1 h2 (by simp; omega)).mono ?_
  rintro e w' ⟨rfl, rfl⟩
  refine ⟨by rw [decide_eq_false hr], ?_, Below.refl _ _, Kept.refl _⟩
  rw [if_neg hr]
  exact ⟨cu, cp, s, r, s', r', h1, h2, h3, hne, hg, hcu, hcp⟩
theorem putS_p (B g cap : Nat) (U P : List Value) (x : ByteArray) (w : World) (h : MS 132 B w g cap U P) : Calls Tryz.prog 42 #[.pointer (some ⟨g, 0, none⟩), .string x, .bool false] w fun e w' => e = .returned (.bool (decide (P.length < cap))) ∧ MS 132 B w' g cap U (if P.length < cap then P ++ [.string x] else P) ∧ Below B w w' ∧ Kept w w' := by
 obtain ⟨cu, cp, s, r, s', r', h1, h2, h3, hne, hg, hcu, hcp⟩ := h
 by_cases hr : P.length < cap
 ·refine (putS_plain_room g cu cp cap s' r' _ x w h1 h3 (by simpa using hr)).mono ?_
  rintro e w' ⟨rfl, rfl⟩
  refine ⟨by rw [decide_eq_true hr], ?_, below_setChan (Below.refl _ _) hcp _ _ _ _ _ _, kept_set h3⟩
  rw [if_pos hr]
  refine ⟨cu, cp, s, r, s' + 1, r', m2_set h1 (m2_ne h1 h3), box_set h2 (Ne.symm hne), ?_, hne, hg, hcu, hcp⟩
  have := box_own (w := w) (c := cp) (cap := cap) (s := s' + 1) (r := r') (b := P.toArray.push (.string x)) (box_lt h3)
  simpa using this
 ·refine (putS_plain_full g cu cp cap s' r' _ x w h1 h3 (by simp; omega)).mono ?_
  rintro e w' ⟨rfl, rfl⟩
  refine ⟨by rw [decide_eq_false hr], ?_, Below.refl _ _, Kept.refl _⟩
  rw [if_neg hr]
  exact ⟨cu, cp, s, r, s', r', h1, h2, h3, hne, hg, hcu, hcp⟩
theorem tkS_urgent (B g cap : Nat) (U P : List Value) (x : ByteArray) (w : World) (h : MS 132 B w g cap (.string x :: U) P) : Calls Tryz.prog 43 #[.pointer (some ⟨g, 0, none⟩)] w fun e w' => e = .returned (.tuple #[.string x, .bool true, .bool true]) ∧ MS 132 B w' g cap U P ∧ Below B w w' ∧ Kept w w' := by
 obtain ⟨cu, cp, s, r, s', r', h1, h2, h3, hne, hg, hcu, hcp⟩ := h
 refine (takeS_urgent g cu cp cap s r 0 0 _ U.toArray x w h1 h2 (by simp) (getD_cons _ _) (rest_cons _ _)).mono ?_
 rintro e w' ⟨rfl, rfl⟩
 exact ⟨rfl, ⟨cu, cp, s, r + 1, s', r', m2_set h1 (m2_ne h1 h2), box_own (box_lt h2), box_set h3 hne, hne, hg, hcu, hcp⟩, below_setChan (Below.refl _ _) hcu _ _ _ _ _ _, kept_set h2⟩
theorem tkS_plain (B g cap : Nat) (P : List Value) (x : ByteArray) (w : World) (h : MS 132 B w g cap [] (.string x :: P)) : Calls Tryz.prog 43 #[.pointer (some ⟨g, 0, none⟩)] w fun e w' => e = .returned (.tuple #[.string x, .bool false, .bool true]) ∧ MS 132 B w' g cap [] P ∧ Below B w w' ∧ Kept w w' := by
 obtain ⟨cu, cp, s, r, s', r', h1, h2, h3, hne, hg, hcu, hcp⟩ := h
 refine (takeS_plain g cu cp cap s r s' r' _ P.toArray x w h1 h2 h3 (by simp) (getD_cons _ _) (rest_cons _ _)).mono ?_
 rintro e w' ⟨rfl, rfl⟩
 exact ⟨rfl, ⟨cu, cp, s, r, s', r' + 1, m2_set h1 (m2_ne h1 h3), box_set h2 (Ne.symm hne), box_own (box_lt h3), hne, hg, hcu, hcp⟩, below_setChan (Below.refl _ _) hcp _ _ _ _ _ _, kept_set h3⟩
theorem infoS : ∃ i, Tryz.prog.info? 9 = some i ∧ i.bytes = 16 := by
 have h : (Tryz.prog.info? 9).map (·.bytes) = some 16 := by kernel_rfl
 obtain ⟨i, hi, hb⟩ := Option.map_eq_some_iff.1 h
 exact ⟨i, hi, hb⟩
theorem mkS (n : Nat) (hn : n ≤ 64) (w : World) : (Instr.makeChan 130 (.int .i64 (n : Int))).run Tryz.prog w = .ok (.chan (some w.heap.size)) (w.alloc (.chan n #[] false 0 0 false)) := by
 obtain ⟨i, hi, hb⟩ := infoS
 exact run_makeChan (P := Tryz.prog) (w := w) Tryz.underlying130 hi .i64 n (by omega) (by rw [hb]; omega)
set_option maxRecDepth 100000 in
theorem newS (n : Nat) (h1 : 1 ≤ n) (hn : n ≤ 64) (w : World) : Calls Tryz.prog 33 #[.int .i64 (n : Int)] w fun e w' => ∃ g, e = .returned (.tuple #[.pointer (some ⟨g, 0, none⟩), .int .i64 0]) ∧ MS 132 w.heap.size w' g n [] [] ∧ Below w.heap.size w w' := by
 have hmc := mkS n hn
 have h1i : ¬ (n : Int) < 1 := by omega
 have h2i : ¬ (64 : Int) < (n : Int) := by omega
 go_enter Tryz.func33, Tryz.ntmps33
 go_wp2_with fail
 go_region
 ·go_wp2
  go_ret2
  obtain ⟨t0, t1, t2⟩ := two_then w (.chan n #[] false 0 0 false) (.chan n #[] false 0 0 false) (.cells #[.chan (some w.heap.size), .chan (some (w.heap.size + 1))] 132 (0, 0))
  exact ⟨_, rfl, ⟨_, _, 0, 0, 0, 0, t2, t0, t1, by omega, by omega, by omega, by omega⟩, ((((Below.refl _ _).alloc (Nat.le_refl _) _).alloc (by simp) _).alloc (by simp; omega) _).drew⟩
 ·go_wp2
  go_ret2
  obtain ⟨t0, t1, t2⟩ := two_then w (.chan n #[] false 0 0 false) (.chan n #[] false 0 0 false) (.cells #[.chan (some (w.heap.size + 1)), .chan (some w.heap.size)] 132 (0, 0))
  exact ⟨_, rfl, ⟨_, _, 0, 0, 0, 0, t2, t1, t0, by omega, by omega, by omega, by omega⟩, ((((Below.refl _ _).alloc (Nat.le_refl _) _).alloc (by simp) _).alloc (by simp; omega) _).drew⟩
end Go.Proofs.YtegpfgccaminkaaGreatDoor.MaiB
