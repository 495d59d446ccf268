/- Answers: the document's Encode. -/
import Derived.Test.YtafnekilnbhhlaaAnsF
namespace Go.Proofs.Ytafnekilnbhhlaa.AnsG
open Go.RowKit Go.Proofs.Ytafnekilnbhhlaa.Base Go.Proofs.Ytafnekilnbhhlaa.Base2 Go.Proofs.Ytafnekilnbhhlaa.Base3 Go.Proofs.Ytafnekilnbhhlaa.Regs Go.Proofs.Ytafnekilnbhhlaa.AnsP Go.Proofs.Ytafnekilnbhhlaa.AnsB

set_option linter.unusedSimpArgs false in
set_option maxRecDepth 100000 in
set_option maxHeartbeats 4000000 in
theorem encode_any (z1 z2 z3 z4 : Int) (N1 N2 N3 N4 : Nat) (KK XX : List UInt8) (w : World) (h1 : IntKind.u64.wrap z1 = (N1 : Int)) (h2 : IntKind.u64.wrap z2 = (N2 : Int)) (h3 : IntKind.u64.wrap z3 = (N3 : Int)) (h4 : IntKind.u64.wrap z4 = (N4 : Int)) (hx : KK.length ≤ 1000000 ∧ XX.length ≤ 1000000)
    (b1 : N1 < 18446744073709551616) (b2 : N2 < 18446744073709551616) (b3 : N3 < 18446744073709551616) (b4 : N4 < 18446744073709551616) :
    Calls Try.prog 31 #[.agg #[.int .i64 z1, .int .i64 z2, .int .i64 z3, .int .i64 z4, .string (strOf KK), .string (strOf XX)]] w fun e w' => e = .returned (.string (strOf ((be N1 1) ++ ((be N2 4) ++ ((be N3 8) ++ ((be N4 8) ++ ((str KK) ++ (str XX)))))))) ∧ Below w.heap.size w w' := by
  have HW1 := hid h1
  have HW2 := hid h2
  have HW3 := hid h3
  have HW4 := hid h4
  have HKX := hid hx
  have HB : Hid (Below w.heap.size w (w.alloc (.cells #[.int .i64 z1, .int .i64 z2, .int .i64 z3, .int .i64 z4, .string (strOf KK), .string (strOf XX)] 49))) := (Below.refl _ _).alloc (Nat.le_refl _) _
  have HX : Hid (B6 49 (w.alloc (.cells #[.int .i64 z1, .int .i64 z2, .int .i64 z3, .int .i64 z4, .string (strOf KK), .string (strOf XX)] 49)) w.heap.size (.int .i64 z1) (.int .i64 z2) (.int .i64 z3) (.int .i64 z4) (.string (strOf KK)) (.string (strOf XX))) := heap_alloc_new w _
  have HLT : Hid (w.heap.size < (w.alloc (.cells #[.int .i64 z1, .int .i64 z2, .int .i64 z3, .int .i64 z4, .string (strOf KK), .string (strOf XX)] 49)).heap.size) := by show _ < _; simp
  clear h1 h2 h3 h4 hx
  go_enter Try.func31, Try.ntmps31
  go_wp2_with fail
  refine wp_region_rel (by kernel_rfl) [is (.pointer (some ⟨w.heap.size, 0, none⟩)), is (.int .i64 z1), is (.int .u64 (N1 : Int)), is (.string (strOf (be N1 1))), is (.pointer (some ⟨w.heap.size, 1, none⟩)), is (.int .i64 z2), is (.int .u64 (N2 : Int)), is (.string (strOf (be N2 4))), is (.string (strOf ((be N1 1) ++ (be N2 4)))), is (.pointer (some ⟨w.heap.size, 2, none⟩)), is (.int .i64 z3), is (.int .u64 (N3 : Int)), is (.string (strOf (be N3 8))), is (.string (strOf ((be N1 1) ++ ((be N2 4) ++ (be N3 8))))), is (.pointer (some ⟨w.heap.size, 3, none⟩)), is (.int .i64 z4), is (.int .u64 (N4 : Int)), is (.string (strOf (be N4 8))), is (.string (strOf ((be N1 1) ++ ((be N2 4) ++ ((be N3 8) ++ (be N4 8)))))), is (.pointer (some ⟨w.heap.size, 4, none⟩)), is (.string (strOf KK)), is (.string (strOf (str KK))), is (.string (strOf ((be N1 1) ++ ((be N2 4) ++ ((be N3 8) ++ ((be N4 8) ++ (str KK))))))), is (.pointer (some ⟨w.heap.size, 5, none⟩)), is (.string (strOf XX)), is (.string (strOf (str XX))), is (.string (strOf ((be N1 1) ++ ((be N2 4) ++ ((be N3 8) ++ ((be N4 8) ++ ((str KK) ++ (str XX)))))))), is (.string (strOf ((be N1 1) ++ ((be N2 4) ++ ((be N3 8) ++ ((be N4 8) ++ ((str KK) ++ (str XX))))))))] [[], [0], [1], [2], [], [4], [5], [6], [3, 7], [], [9], [10], [11], [8, 12], [], [14], [15], [16], [13, 17], [], [19], [20], [18, 21], [], [23], [24], [22, 25], [26]] (by kernel_rfl) ?_ ?_
  · refine ⟨?_, ?_, ?_, ?_, ?_, ?_, ?_, ?_, ?_, ?_, ?_, ?_, ?_, ?_, ?_, ?_, ?_, ?_, ?_, ?_, ?_, ?_, ?_, ?_, ?_, ?_, ?_, ?_, trivial⟩
    · intro t wq hbq hh K hK
      clear hh
      simp only [filled, upd, Have, is, any, row, pick, Act.put, List.setIfInBounds_toArray, List.set_cons_zero, List.set_cons_succ, Nat.reduceAdd, Nat.reduceEqDiff, reduceIte] at hK ⊢
      go_simp
      exact hK _ _ (Below.refl _ _) rfl
    · intro t wq hbq hh K hK
      have e0 := hh.1
      simp only [pick] at e0
      replace e0 : t 0 = (.pointer (some ⟨w.heap.size, 0, none⟩)) := e0
      clear hh
      simp only [filled, upd, Have, is, any, row, pick, Act.put, List.setIfInBounds_toArray, List.set_cons_zero, List.set_cons_succ, Nat.reduceAdd, Nat.reduceEqDiff, reduceIte] at hK ⊢
      simp only [e0] at hK ⊢
      have hq := (hbq.cell (p := ⟨w.heap.size, 0, none⟩) HLT.out).trans HX.out.facts.1
      go_simp
      exact hK _ _ (Below.refl _ _) rfl
    · intro t wq hbq hh K hK
      have e1 := hh.1
      simp only [pick] at e1
      replace e1 : t 1 = (.int .i64 z1) := e1
      clear hh
      simp only [filled, upd, Have, is, any, row, pick, Act.put, List.setIfInBounds_toArray, List.set_cons_zero, List.set_cons_succ, Nat.reduceAdd, Nat.reduceEqDiff, reduceIte] at hK ⊢
      simp only [e1] at hK ⊢
      go_simp
      exact hK _ _ (Below.refl _ _) (int_eq HW1.out)
    · intro t wq hbq hh K hK
      have e2 := hh.1
      simp only [pick] at e2
      replace e2 : t 2 = (.int .u64 (N1 : Int)) := e2
      clear hh
      simp only [filled, upd, Have, is, any, row, pick, Act.put, List.setIfInBounds_toArray, List.set_cons_zero, List.set_cons_succ, Nat.reduceAdd, Nat.reduceEqDiff, reduceIte] at hK ⊢
      simp only [e2] at hK ⊢
      go_simp
      refine (AnsF.number_any N1 1 _ (by omega) (by omega)).mono ?_
      rintro e w5 ⟨rfl, hb5⟩
      exact hK _ _ hb5 rfl
    · intro t wq hbq hh K hK
      clear hh
      simp only [filled, upd, Have, is, any, row, pick, Act.put, List.setIfInBounds_toArray, List.set_cons_zero, List.set_cons_succ, Nat.reduceAdd, Nat.reduceEqDiff, reduceIte] at hK ⊢
      go_simp
      exact hK _ _ (Below.refl _ _) rfl
    · intro t wq hbq hh K hK
      have e4 := hh.1
      simp only [pick] at e4
      replace e4 : t 4 = (.pointer (some ⟨w.heap.size, 1, none⟩)) := e4
      clear hh
      simp only [filled, upd, Have, is, any, row, pick, Act.put, List.setIfInBounds_toArray, List.set_cons_zero, List.set_cons_succ, Nat.reduceAdd, Nat.reduceEqDiff, reduceIte] at hK ⊢
      simp only [e4] at hK ⊢
      have hq := (hbq.cell (p := ⟨w.heap.size, 1, none⟩) HLT.out).trans HX.out.facts.2.1
      go_simp
      exact hK _ _ (Below.refl _ _) rfl
    · intro t wq hbq hh K hK
      have e5 := hh.1
      simp only [pick] at e5
      replace e5 : t 5 = (.int .i64 z2) := e5
      clear hh
      simp only [filled, upd, Have, is, any, row, pick, Act.put, List.setIfInBounds_toArray, List.set_cons_zero, List.set_cons_succ, Nat.reduceAdd, Nat.reduceEqDiff, reduceIte] at hK ⊢
      simp only [e5] at hK ⊢
      go_simp
      exact hK _ _ (Below.refl _ _) (int_eq HW2.out)
    · intro t wq hbq hh K hK
      have e6 := hh.1
      simp only [pick] at e6
      replace e6 : t 6 = (.int .u64 (N2 : Int)) := e6
      clear hh
      simp only [filled, upd, Have, is, any, row, pick, Act.put, List.setIfInBounds_toArray, List.set_cons_zero, List.set_cons_succ, Nat.reduceAdd, Nat.reduceEqDiff, reduceIte] at hK ⊢
      simp only [e6] at hK ⊢
      go_simp
      refine (AnsF.number_any N2 4 _ (by omega) (by omega)).mono ?_
      rintro e w5 ⟨rfl, hb5⟩
      exact hK _ _ hb5 rfl
    · intro t wq hbq hh K hK
      have e3 := hh.1
      simp only [pick] at e3
      replace e3 : t 3 = (.string (strOf (be N1 1))) := e3
      have e7 := hh.2.1
      simp only [pick] at e7
      replace e7 : t 7 = (.string (strOf (be N2 4))) := e7
      clear hh
      simp only [filled, upd, Have, is, any, row, pick, Act.put, List.setIfInBounds_toArray, List.set_cons_zero, List.set_cons_succ, Nat.reduceAdd, Nat.reduceEqDiff, reduceIte] at hK ⊢
      simp only [e3, e7] at hK ⊢
      have hadd : (Op.stringOp .add (strOf (be N1 1)) (strOf (be N2 4))).run Try.prog wq = .ok (.string (strOf ((be N1 1) ++ (be N2 4)))) wq := by have h := str_add (P := Try.prog) (be N1 1) (be N2 4) wq (by have := HKX.out; simp only [List.length_append, length_be, str]; omega); simpa only [List.append_assoc] using h
      go_simp
      exact hK _ _ (Below.refl _ _) rfl
    · intro t wq hbq hh K hK
      clear hh
      simp only [filled, upd, Have, is, any, row, pick, Act.put, List.setIfInBounds_toArray, List.set_cons_zero, List.set_cons_succ, Nat.reduceAdd, Nat.reduceEqDiff, reduceIte] at hK ⊢
      go_simp
      exact hK _ _ (Below.refl _ _) rfl
    · intro t wq hbq hh K hK
      have e9 := hh.1
      simp only [pick] at e9
      replace e9 : t 9 = (.pointer (some ⟨w.heap.size, 2, none⟩)) := e9
      clear hh
      simp only [filled, upd, Have, is, any, row, pick, Act.put, List.setIfInBounds_toArray, List.set_cons_zero, List.set_cons_succ, Nat.reduceAdd, Nat.reduceEqDiff, reduceIte] at hK ⊢
      simp only [e9] at hK ⊢
      have hq := (hbq.cell (p := ⟨w.heap.size, 2, none⟩) HLT.out).trans HX.out.facts.2.2.1
      go_simp
      exact hK _ _ (Below.refl _ _) rfl
    · intro t wq hbq hh K hK
      have e10 := hh.1
      simp only [pick] at e10
      replace e10 : t 10 = (.int .i64 z3) := e10
      clear hh
      simp only [filled, upd, Have, is, any, row, pick, Act.put, List.setIfInBounds_toArray, List.set_cons_zero, List.set_cons_succ, Nat.reduceAdd, Nat.reduceEqDiff, reduceIte] at hK ⊢
      simp only [e10] at hK ⊢
      go_simp
      exact hK _ _ (Below.refl _ _) (int_eq HW3.out)
    · intro t wq hbq hh K hK
      have e11 := hh.1
      simp only [pick] at e11
      replace e11 : t 11 = (.int .u64 (N3 : Int)) := e11
      clear hh
      simp only [filled, upd, Have, is, any, row, pick, Act.put, List.setIfInBounds_toArray, List.set_cons_zero, List.set_cons_succ, Nat.reduceAdd, Nat.reduceEqDiff, reduceIte] at hK ⊢
      simp only [e11] at hK ⊢
      go_simp
      refine (AnsF.number_any N3 8 _ (by omega) (by omega)).mono ?_
      rintro e w5 ⟨rfl, hb5⟩
      exact hK _ _ hb5 rfl
    · intro t wq hbq hh K hK
      have e8 := hh.1
      simp only [pick] at e8
      replace e8 : t 8 = (.string (strOf ((be N1 1) ++ (be N2 4)))) := e8
      have e12 := hh.2.1
      simp only [pick] at e12
      replace e12 : t 12 = (.string (strOf (be N3 8))) := e12
      clear hh
      simp only [filled, upd, Have, is, any, row, pick, Act.put, List.setIfInBounds_toArray, List.set_cons_zero, List.set_cons_succ, Nat.reduceAdd, Nat.reduceEqDiff, reduceIte] at hK ⊢
      simp only [e8, e12] at hK ⊢
      have hadd : (Op.stringOp .add (strOf ((be N1 1) ++ (be N2 4))) (strOf (be N3 8))).run Try.prog wq = .ok (.string (strOf ((be N1 1) ++ ((be N2 4) ++ (be N3 8))))) wq := by have h := str_add (P := Try.prog) ((be N1 1) ++ (be N2 4)) (be N3 8) wq (by have := HKX.out; simp only [List.length_append, length_be, str]; omega); simpa only [List.append_assoc] using h
      go_simp
      exact hK _ _ (Below.refl _ _) rfl
    · intro t wq hbq hh K hK
      clear hh
      simp only [filled, upd, Have, is, any, row, pick, Act.put, List.setIfInBounds_toArray, List.set_cons_zero, List.set_cons_succ, Nat.reduceAdd, Nat.reduceEqDiff, reduceIte] at hK ⊢
      go_simp
      exact hK _ _ (Below.refl _ _) rfl
    · intro t wq hbq hh K hK
      have e14 := hh.1
      simp only [pick] at e14
      replace e14 : t 14 = (.pointer (some ⟨w.heap.size, 3, none⟩)) := e14
      clear hh
      simp only [filled, upd, Have, is, any, row, pick, Act.put, List.setIfInBounds_toArray, List.set_cons_zero, List.set_cons_succ, Nat.reduceAdd, Nat.reduceEqDiff, reduceIte] at hK ⊢
      simp only [e14] at hK ⊢
      have hq := (hbq.cell (p := ⟨w.heap.size, 3, none⟩) HLT.out).trans HX.out.facts.2.2.2.1
      go_simp
      exact hK _ _ (Below.refl _ _) rfl
    · intro t wq hbq hh K hK
      have e15 := hh.1
      simp only [pick] at e15
      replace e15 : t 15 = (.int .i64 z4) := e15
      clear hh
      simp only [filled, upd, Have, is, any, row, pick, Act.put, List.setIfInBounds_toArray, List.set_cons_zero, List.set_cons_succ, Nat.reduceAdd, Nat.reduceEqDiff, reduceIte] at hK ⊢
      simp only [e15] at hK ⊢
      go_simp
      exact hK _ _ (Below.refl _ _) (int_eq HW4.out)
    · intro t wq hbq hh K hK
      have e16 := hh.1
      simp only [pick] at e16
      replace e16 : t 16 = (.int .u64 (N4 : Int)) := e16
      clear hh
      simp only [filled, upd, Have, is, any, row, pick, Act.put, List.setIfInBounds_toArray, List.set_cons_zero, List.set_cons_succ, Nat.reduceAdd, Nat.reduceEqDiff, reduceIte] at hK ⊢
      simp only [e16] at hK ⊢
      go_simp
      refine (AnsF.number_any N4 8 _ (by omega) (by omega)).mono ?_
      rintro e w5 ⟨rfl, hb5⟩
      exact hK _ _ hb5 rfl
    · intro t wq hbq hh K hK
      have e13 := hh.1
      simp only [pick] at e13
      replace e13 : t 13 = (.string (strOf ((be N1 1) ++ ((be N2 4) ++ (be N3 8))))) := e13
      have e17 := hh.2.1
      simp only [pick] at e17
      replace e17 : t 17 = (.string (strOf (be N4 8))) := e17
      clear hh
      simp only [filled, upd, Have, is, any, row, pick, Act.put, List.setIfInBounds_toArray, List.set_cons_zero, List.set_cons_succ, Nat.reduceAdd, Nat.reduceEqDiff, reduceIte] at hK ⊢
      simp only [e13, e17] at hK ⊢
      have hadd : (Op.stringOp .add (strOf ((be N1 1) ++ ((be N2 4) ++ (be N3 8)))) (strOf (be N4 8))).run Try.prog wq = .ok (.string (strOf ((be N1 1) ++ ((be N2 4) ++ ((be N3 8) ++ (be N4 8)))))) wq := by have h := str_add (P := Try.prog) ((be N1 1) ++ ((be N2 4) ++ (be N3 8))) (be N4 8) wq (by have := HKX.out; simp only [List.length_append, length_be, str]; omega); simpa only [List.append_assoc] using h
      go_simp
      exact hK _ _ (Below.refl _ _) rfl
    · intro t wq hbq hh K hK
      clear hh
      simp only [filled, upd, Have, is, any, row, pick, Act.put, List.setIfInBounds_toArray, List.set_cons_zero, List.set_cons_succ, Nat.reduceAdd, Nat.reduceEqDiff, reduceIte] at hK ⊢
      go_simp
      exact hK _ _ (Below.refl _ _) rfl
    · intro t wq hbq hh K hK
      have e19 := hh.1
      simp only [pick] at e19
      replace e19 : t 19 = (.pointer (some ⟨w.heap.size, 4, none⟩)) := e19
      clear hh
      simp only [filled, upd, Have, is, any, row, pick, Act.put, List.setIfInBounds_toArray, List.set_cons_zero, List.set_cons_succ, Nat.reduceAdd, Nat.reduceEqDiff, reduceIte] at hK ⊢
      simp only [e19] at hK ⊢
      have hq := (hbq.cell (p := ⟨w.heap.size, 4, none⟩) HLT.out).trans HX.out.facts.2.2.2.2.1
      go_simp
      exact hK _ _ (Below.refl _ _) rfl
    · intro t wq hbq hh K hK
      have e20 := hh.1
      simp only [pick] at e20
      replace e20 : t 20 = (.string (strOf KK)) := e20
      clear hh
      simp only [filled, upd, Have, is, any, row, pick, Act.put, List.setIfInBounds_toArray, List.set_cons_zero, List.set_cons_succ, Nat.reduceAdd, Nat.reduceEqDiff, reduceIte] at hK ⊢
      simp only [e20] at hK ⊢
      go_simp
      refine (AnsF.string_any (strOf KK) _ (by rw [size_strOf]; have := HKX.out; omega)).mono ?_
      rintro e w5 ⟨rfl, hb5⟩
      exact hK _ _ hb5 rfl
    · intro t wq hbq hh K hK
      have e18 := hh.1
      simp only [pick] at e18
      replace e18 : t 18 = (.string (strOf ((be N1 1) ++ ((be N2 4) ++ ((be N3 8) ++ (be N4 8)))))) := e18
      have e21 := hh.2.1
      simp only [pick] at e21
      replace e21 : t 21 = (.string (strOf (str KK))) := e21
      clear hh
      simp only [filled, upd, Have, is, any, row, pick, Act.put, List.setIfInBounds_toArray, List.set_cons_zero, List.set_cons_succ, Nat.reduceAdd, Nat.reduceEqDiff, reduceIte] at hK ⊢
      simp only [e18, e21] at hK ⊢
      have hadd : (Op.stringOp .add (strOf ((be N1 1) ++ ((be N2 4) ++ ((be N3 8) ++ (be N4 8))))) (strOf (str KK))).run Try.prog wq = .ok (.string (strOf ((be N1 1) ++ ((be N2 4) ++ ((be N3 8) ++ ((be N4 8) ++ (str KK))))))) wq := by have h := str_add (P := Try.prog) ((be N1 1) ++ ((be N2 4) ++ ((be N3 8) ++ (be N4 8)))) (str KK) wq (by have := HKX.out; simp only [List.length_append, length_be, str]; omega); simpa only [List.append_assoc] using h
      go_simp
      exact hK _ _ (Below.refl _ _) rfl
    · intro t wq hbq hh K hK
      clear hh
      simp only [filled, upd, Have, is, any, row, pick, Act.put, List.setIfInBounds_toArray, List.set_cons_zero, List.set_cons_succ, Nat.reduceAdd, Nat.reduceEqDiff, reduceIte] at hK ⊢
      go_simp
      exact hK _ _ (Below.refl _ _) rfl
    · intro t wq hbq hh K hK
      have e23 := hh.1
      simp only [pick] at e23
      replace e23 : t 23 = (.pointer (some ⟨w.heap.size, 5, none⟩)) := e23
      clear hh
      simp only [filled, upd, Have, is, any, row, pick, Act.put, List.setIfInBounds_toArray, List.set_cons_zero, List.set_cons_succ, Nat.reduceAdd, Nat.reduceEqDiff, reduceIte] at hK ⊢
      simp only [e23] at hK ⊢
      have hq := (hbq.cell (p := ⟨w.heap.size, 5, none⟩) HLT.out).trans HX.out.facts.2.2.2.2.2
      go_simp
      exact hK _ _ (Below.refl _ _) rfl
    · intro t wq hbq hh K hK
      have e24 := hh.1
      simp only [pick] at e24
      replace e24 : t 24 = (.string (strOf XX)) := e24
      clear hh
      simp only [filled, upd, Have, is, any, row, pick, Act.put, List.setIfInBounds_toArray, List.set_cons_zero, List.set_cons_succ, Nat.reduceAdd, Nat.reduceEqDiff, reduceIte] at hK ⊢
      simp only [e24] at hK ⊢
      go_simp
      refine (AnsF.string_any (strOf XX) _ (by rw [size_strOf]; have := HKX.out; omega)).mono ?_
      rintro e w5 ⟨rfl, hb5⟩
      exact hK _ _ hb5 rfl
    · intro t wq hbq hh K hK
      have e22 := hh.1
      simp only [pick] at e22
      replace e22 : t 22 = (.string (strOf ((be N1 1) ++ ((be N2 4) ++ ((be N3 8) ++ ((be N4 8) ++ (str KK))))))) := e22
      have e25 := hh.2.1
      simp only [pick] at e25
      replace e25 : t 25 = (.string (strOf (str XX))) := e25
      clear hh
      simp only [filled, upd, Have, is, any, row, pick, Act.put, List.setIfInBounds_toArray, List.set_cons_zero, List.set_cons_succ, Nat.reduceAdd, Nat.reduceEqDiff, reduceIte] at hK ⊢
      simp only [e22, e25] at hK ⊢
      have hadd : (Op.stringOp .add (strOf ((be N1 1) ++ ((be N2 4) ++ ((be N3 8) ++ ((be N4 8) ++ (str KK)))))) (strOf (str XX))).run Try.prog wq = .ok (.string (strOf ((be N1 1) ++ ((be N2 4) ++ ((be N3 8) ++ ((be N4 8) ++ ((str KK) ++ (str XX)))))))) wq := by have h := str_add (P := Try.prog) ((be N1 1) ++ ((be N2 4) ++ ((be N3 8) ++ ((be N4 8) ++ (str KK))))) (str XX) wq (by have := HKX.out; simp only [List.length_append, length_be, str]; omega); simpa only [List.append_assoc] using h
      go_simp
      exact hK _ _ (Below.refl _ _) rfl
    · intro t wq hbq hh K hK
      have e26 := hh.1
      simp only [pick] at e26
      replace e26 : t 26 = (.string (strOf ((be N1 1) ++ ((be N2 4) ++ ((be N3 8) ++ ((be N4 8) ++ ((str KK) ++ (str XX)))))))) := e26
      clear hh
      simp only [filled, upd, Have, is, any, row, pick, Act.put, List.setIfInBounds_toArray, List.set_cons_zero, List.set_cons_succ, Nat.reduceAdd, Nat.reduceEqDiff, reduceIte] at hK ⊢
      simp only [e26] at hK ⊢
      go_simp
      exact hK _ _ (Below.refl _ _) rfl
  · intro t wq hbq hh
    have f27 := have_get hh 27 (by decide)
    simp only [pick] at f27
    replace f27 : t 27 = (.string (strOf ((be N1 1) ++ ((be N2 4) ++ ((be N3 8) ++ ((be N4 8) ++ ((str KK) ++ (str XX)))))))) := f27
    clear hh
    simp only [filled, upd, Have, is, any, row, pick, Act.put, List.setIfInBounds_toArray, List.set_cons_zero, List.set_cons_succ, Nat.reduceAdd, Nat.reduceEqDiff, reduceIte]
    simp only [f27]
    go_wp2
    go_ret
    exact ⟨rfl, HB.out.trans (hbq.mono HB.out.size)⟩
end Go.Proofs.Ytafnekilnbhhlaa.AnsG
