/- Scripts: answers and results as the document has them. -/
import Derived.Test.YtafnekilnbhhlaaScrY
namespace Go.Proofs.Ytafnekilnbhhlaa.ScrZ
open Go.RowKit Go.Proofs.Ytafnekilnbhhlaa.Base Go.Proofs.Ytafnekilnbhhlaa.Base2 Go.Proofs.Ytafnekilnbhhlaa.Base3 Go.Proofs.Ytafnekilnbhhlaa.Regs Go.Proofs.Ytafnekilnbhhlaa.AnsP Go.Proofs.Ytafnekilnbhhlaa.AnsB Go.Proofs.Ytafnekilnbhhlaa.ScrY

theorem res_of {w : World} {g : Nat} {a b c d e f : Value} (h : B6 49 w g a b c d e f) (tmps : Array Value) (h2 : tmps.getD 2 undef = .pointer (some ⟨g, 0, none⟩)) :
    (results Try.f32 tmps).run Try.prog w = .ok (.agg #[a, b, c, d, e, f]) w := by
  have hp' : tmps[2]?.getD undef = .pointer (some ⟨g, 0, none⟩) := by simpa using h2
  simp [results, Try.results32, hp', asAddr, h.load33]
set_option maxHeartbeats 1000000 in
theorem of_any (so st f t : Int) (k : ByteArray) (A : Option Addr) (n c : Nat) (L : List UInt8) (w : World) (h : Rds w A n (bcells L)) :
    Calls Try.prog 32 #[.agg #[.int .i64 so, .int .i64 st, .int .i64 f, .int .i64 t, .string k, .slice A n c]] w fun e w' => e = .returned (.agg #[.int .i64 so, .int .i64 st, .int .i64 f, .int .i64 t, .string k, .string (strOf L)]) ∧ Below w.heap.size w w' := by
  have hb : Below w.heap.size w ((w.alloc (.cells #[.int .i64 so, .int .i64 st, .int .i64 f, .int .i64 t, .string k, .slice A n c] 43)).alloc (.cells #[.int .i64 0, .int .i64 0, .int .i64 0, .int .i64 0, .string ⟨#[]⟩, .string ⟨#[]⟩] 49)) := ((Below.refl _ _).alloc (Nat.le_refl _) _).alloc (by simp) _
  have hs := run_string_of (P := Try.prog) 25 9 5 Try.underlying25 Try.underlying5 Try.underlying9 _ c (h.below hb)
  clear h
  go_enter Try.func32, Try.ntmps32
  have hx : B6 49 ((w.alloc (.cells #[.int .i64 so, .int .i64 st, .int .i64 f, .int .i64 t, .string k, .slice A n c] 43)).alloc (.cells #[.int .i64 so, .int .i64 st, .int .i64 f, .int .i64 t, .string k, .string (strOf L)] 49)) (w.heap.size + 1) (.int .i64 so) (.int .i64 st) (.int .i64 f) (.int .i64 t) (.string k) (.string (strOf L)) := by
    have hsz : (w.alloc (.cells #[.int .i64 so, .int .i64 st, .int .i64 f, .int .i64 t, .string k, .slice A n c] 43)).heap.size = w.heap.size + 1 := by simp
    rw [← hsz]
    exact heap_alloc_new _ _
  have HX := hid hx
  have hb2 : Below w.heap.size w ((w.alloc (.cells #[.int .i64 so, .int .i64 st, .int .i64 f, .int .i64 t, .string k, .slice A n c] 43)).alloc (.cells #[.int .i64 so, .int .i64 st, .int .i64 f, .int .i64 t, .string k, .string (strOf L)] 49)) := ((Below.refl _ _).alloc (Nat.le_refl _) _).alloc (by simp) _
  have HB := hid hb2
  clear hx hb hb2
  go_wp2_with fail
  exact bodyPost_ret (res_of HX.out _ rfl) rfl ⟨rfl, HB.out⟩
theorem res_result {w : World} {g : Nat} {C : Array Value} (h : B9 51 w g C) (hC : C.size = 9) (tmps : Array Value) (h2 : tmps.getD 2 undef = .pointer (some ⟨g, 0, none⟩)) :
    (results Try.f16 tmps).run Try.prog w = .ok (.agg C) w :=
  results_cell_row Try.results16 tmps w g _ _ (0, 0) _ h2 h Try.underlying51 rfl (by rw [hC]; kernel_rfl)
set_option linter.unusedSimpArgs false in
set_option maxRecDepth 100000 in
set_option maxHeartbeats 8000000 in
theorem result_any (er hz so st f t0 : Int) (S KK L : List UInt8) (A : Option Addr) (n c : Nat) (w : World) (hr : Rds w A n (bcells L)) :
    Calls Try.prog 16 #[.agg #[.int .i64 er, .int .i64 hz, .string (strOf S), .int .i64 so, .int .i64 st, .int .i64 f, .int .i64 t0, .string (strOf KK), .slice A n c]] w fun e w' => e = .returned (.agg #[.int .i64 er, .int .i64 hz, .string (strOf S), .int .i64 so, .int .i64 st, .int .i64 f, .int .i64 t0, .string (strOf KK), .string (strOf L)]) ∧ Below w.heap.size w w' := by
  have HTN := hid (two_new (T := 45) (S := 51) (C := #[.int .i64 er, .int .i64 hz, .string (strOf S), .int .i64 so, .int .i64 st, .int .i64 f, .int .i64 t0, .string (strOf KK), .slice A n c]) (D := #[.int .i64 0, .int .i64 0, .string ⟨#[]⟩, .int .i64 0, .int .i64 0, .int .i64 0, .int .i64 0, .string ⟨#[]⟩, .string ⟨#[]⟩]) w)
  have HR0 := hid hr
  clear hr
  go_enter Try.func16, Try.ntmps16
  go_upto_region 1 with (fail)
  generalize hw : World.alloc (World.alloc w _) _ = W0
  have h1 : B9 45 W0 w.heap.size #[.int .i64 er, .int .i64 hz, .string (strOf S), .int .i64 so, .int .i64 st, .int .i64 f, .int .i64 t0, .string (strOf KK), .slice A n c] ∧ B9 51 W0 (w.heap.size + 1) #[.int .i64 0, .int .i64 0, .string ⟨#[]⟩, .int .i64 0, .int .i64 0, .int .i64 0, .int .i64 0, .string ⟨#[]⟩, .string ⟨#[]⟩] ∧ Below w.heap.size w W0 := by subst hw; exact HTN.out
  have HX := hid h1.1
  have HZ := hid h1.2.1
  have HB := hid h1.2.2
  have HR := hid (HR0.out.below h1.2.2)
  have HLT : Hid (w.heap.size < W0.heap.size ∧ w.heap.size + 1 < W0.heap.size) := by have := (Array.getElem?_eq_some_iff.1 h1.2.1).1; exact ⟨by omega, this⟩
  have HLT2 := HLT
  clear h1 hw HTN HR0 HLT
  have HLT : Hid (w.heap.size < W0.heap.size) := HLT2.out.1
  refine wp_region_rel_tail (by kernel_rfl) 10 [is (.pointer (some ⟨w.heap.size, 0, none⟩)), is (.int .i64 er), is (.pointer (some ⟨w.heap.size, 1, none⟩)), is (.int .i64 hz), is (.pointer (some ⟨w.heap.size, 2, none⟩)), is (.string (strOf S)), is (.pointer (some ⟨w.heap.size, 3, none⟩)), is (.agg #[.int .i64 so, .int .i64 st, .int .i64 f, .int .i64 t0, .string (strOf KK), .slice A n c]), is (.agg #[.int .i64 so, .int .i64 st, .int .i64 f, .int .i64 t0, .string (strOf KK), .string (strOf L)]), is (.agg #[.int .i64 er, .int .i64 hz, .string (strOf S), .int .i64 so, .int .i64 st, .int .i64 f, .int .i64 t0, .string (strOf KK), .string (strOf L)])] [[], [0], [], [2], [], [4], [], [6], [6, 7], [0, 1, 2, 3, 4, 5, 6, 7, 8], [0, 1, 2, 3, 4, 5, 6, 7, 8, 9]] (by kernel_rfl) ?_ ?_
  · refine ⟨?_, ?_, ?_, ?_, ?_, ?_, ?_, ?_, ?_, ?_, trivial⟩
    · intro t wq hbq hh K hK
      clear hh
      simp only [filled, filledN, upd, Have, is, any, row, pick, Act.put, List.setIfInBounds_toArray, List.set_cons_zero, List.set_cons_succ, Nat.reduceAdd, Nat.reduceEqDiff, reduceIte] at hK ⊢
      go_simp
      exact hK _ _ (Below.refl _ _) rfl
    · intro t wq hbq hh K hK
      have e0 := hh.1
      simp only [pick] at e0
      replace e0 : t 0 = (.pointer (some ⟨w.heap.size, 0, none⟩)) := e0
      clear hh
      simp only [filled, filledN, upd, Have, is, any, row, pick, Act.put, List.setIfInBounds_toArray, List.set_cons_zero, List.set_cons_succ, Nat.reduceAdd, Nat.reduceEqDiff, reduceIte] at hK ⊢
      simp only [e0] at hK ⊢
      have hq := (HX.out.below hbq HLT.out).cell 0 (v := .int .i64 er) rfl
      go_simp
      exact hK _ _ (Below.refl _ _) rfl
    · intro t wq hbq hh K hK
      clear hh
      simp only [filled, filledN, upd, Have, is, any, row, pick, Act.put, List.setIfInBounds_toArray, List.set_cons_zero, List.set_cons_succ, Nat.reduceAdd, Nat.reduceEqDiff, reduceIte] at hK ⊢
      go_simp
      exact hK _ _ (Below.refl _ _) rfl
    · intro t wq hbq hh K hK
      have e2 := hh.1
      simp only [pick] at e2
      replace e2 : t 2 = (.pointer (some ⟨w.heap.size, 1, none⟩)) := e2
      clear hh
      simp only [filled, filledN, upd, Have, is, any, row, pick, Act.put, List.setIfInBounds_toArray, List.set_cons_zero, List.set_cons_succ, Nat.reduceAdd, Nat.reduceEqDiff, reduceIte] at hK ⊢
      simp only [e2] at hK ⊢
      have hq := (HX.out.below hbq HLT.out).cell 1 (v := .int .i64 hz) rfl
      go_simp
      exact hK _ _ (Below.refl _ _) rfl
    · intro t wq hbq hh K hK
      clear hh
      simp only [filled, filledN, upd, Have, is, any, row, pick, Act.put, List.setIfInBounds_toArray, List.set_cons_zero, List.set_cons_succ, Nat.reduceAdd, Nat.reduceEqDiff, reduceIte] at hK ⊢
      go_simp
      exact hK _ _ (Below.refl _ _) rfl
    · intro t wq hbq hh K hK
      have e4 := hh.1
      simp only [pick] at e4
      replace e4 : t 4 = (.pointer (some ⟨w.heap.size, 2, none⟩)) := e4
      clear hh
      simp only [filled, filledN, upd, Have, is, any, row, pick, Act.put, List.setIfInBounds_toArray, List.set_cons_zero, List.set_cons_succ, Nat.reduceAdd, Nat.reduceEqDiff, reduceIte] at hK ⊢
      simp only [e4] at hK ⊢
      have hq := (HX.out.below hbq HLT.out).cell 2 (v := .string (strOf S)) rfl
      go_simp
      exact hK _ _ (Below.refl _ _) rfl
    · intro t wq hbq hh K hK
      clear hh
      simp only [filled, filledN, upd, Have, is, any, row, pick, Act.put, List.setIfInBounds_toArray, List.set_cons_zero, List.set_cons_succ, Nat.reduceAdd, Nat.reduceEqDiff, reduceIte] at hK ⊢
      go_simp
      exact hK _ _ (Below.refl _ _) rfl
    · intro t wq hbq hh K hK
      have e6 := hh.1
      simp only [pick] at e6
      replace e6 : t 6 = (.pointer (some ⟨w.heap.size, 3, none⟩)) := e6
      clear hh
      simp only [filled, filledN, upd, Have, is, any, row, pick, Act.put, List.setIfInBounds_toArray, List.set_cons_zero, List.set_cons_succ, Nat.reduceAdd, Nat.reduceEqDiff, reduceIte] at hK ⊢
      simp only [e6] at hK ⊢
      have q0 := (HX.out.below hbq HLT.out).cell 3 (v := (.int .i64 so)) rfl
      have q1 := (HX.out.below hbq HLT.out).cell 4 (v := (.int .i64 st)) rfl
      have q2 := (HX.out.below hbq HLT.out).cell 5 (v := (.int .i64 f)) rfl
      have q3 := (HX.out.below hbq HLT.out).cell 6 (v := (.int .i64 t0)) rfl
      have q4 := (HX.out.below hbq HLT.out).cell 7 (v := (.string (strOf KK))) rfl
      have q5 := (HX.out.below hbq HLT.out).cell 8 (v := (.slice A n c)) rfl
      go_simp
      exact hK _ _ (Below.refl _ _) rfl
    · intro t wq hbq hh K hK
      have e7 := hh.2.1
      simp only [pick] at e7
      replace e7 : t 7 = (.agg #[.int .i64 so, .int .i64 st, .int .i64 f, .int .i64 t0, .string (strOf KK), .slice A n c]) := e7
      clear hh
      simp only [filled, filledN, upd, Have, is, any, row, pick, Act.put, List.setIfInBounds_toArray, List.set_cons_zero, List.set_cons_succ, Nat.reduceAdd, Nat.reduceEqDiff, reduceIte] at hK ⊢
      simp only [e7] at hK ⊢
      go_simp
      go_simp
      refine (of_any so st f t0 (strOf KK) A n c L _ (HR.out.below hbq)).mono ?_
      rintro e w9 ⟨rfl, hb9⟩
      exact hK _ _ hb9 rfl
    · intro t wq hbq hh K hK
      have e1 := hh.2.1
      simp only [pick] at e1
      replace e1 : t 1 = (.int .i64 er) := e1
      have e3 := hh.2.2.2.1
      simp only [pick] at e3
      replace e3 : t 3 = (.int .i64 hz) := e3
      have e5 := hh.2.2.2.2.2.1
      simp only [pick] at e5
      replace e5 : t 5 = (.string (strOf S)) := e5
      have e8 := hh.2.2.2.2.2.2.2.2.1
      simp only [pick] at e8
      replace e8 : t 8 = (.agg #[.int .i64 so, .int .i64 st, .int .i64 f, .int .i64 t0, .string (strOf KK), .string (strOf L)]) := e8
      clear hh
      simp only [filled, filledN, upd, Have, is, any, row, pick, Act.put, List.setIfInBounds_toArray, List.set_cons_zero, List.set_cons_succ, Nat.reduceAdd, Nat.reduceEqDiff, reduceIte] at hK ⊢
      simp only [e1, e3, e5, e8] at hK ⊢
      go_simp
      exact hK _ _ (Below.refl _ _) rfl
  · intro t wq hbq hh
    have f9 := have_get hh 9 (by decide)
    simp only [pick] at f9
    replace f9 : t 9 = (.agg #[.int .i64 er, .int .i64 hz, .string (strOf S), .int .i64 so, .int .i64 st, .int .i64 f, .int .i64 t0, .string (strOf KK), .string (strOf L)]) := f9
    clear hh
    simp only [filled, filledN, upd, Have, is, any, row, pick, Act.put, List.setIfInBounds_toArray, List.set_cons_zero, List.set_cons_succ, Nat.reduceAdd, Nat.reduceEqDiff, reduceIte]
    simp only [f9]
    have HBX := hid (HZ.out.below hbq HLT2.out.2)
    have HBW := hid (HB.out.trans (hbq.mono HB.out.size))
    clear hbq
    show wpList _ _ _ [_] _ _
    refine wpList_store_row rfl 51 (.tmp 2) (.tmp 12) rfl (w.heap.size + 1) #[.int .i64 er, .int .i64 hz, .string (strOf S), .int .i64 so, .int .i64 st, .int .i64 f, .int .i64 t0, .string (strOf KK), .string (strOf L)] rfl rfl 51 #[.int .i64 0, .int .i64 0, .string ⟨#[]⟩, .int .i64 0, .int .i64 0, .int .i64 0, .int .i64 0, .string ⟨#[]⟩, .string ⟨#[]⟩] HBX.out (by kernel_rfl) rfl (by simp [Value.oneCell']) ?_
    have HROW : Hid (B9 51 (wq.setRow (w.heap.size + 1) #[.int .i64 er, .int .i64 hz, .string (strOf S), .int .i64 so, .int .i64 st, .int .i64 f, .int .i64 t0, .string (strOf KK), .string (strOf L)]) (w.heap.size + 1) #[.int .i64 er, .int .i64 hz, .string (strOf S), .int .i64 so, .int .i64 st, .int .i64 f, .int .i64 t0, .string (strOf KK), .string (strOf L)]) := setRow_heap _ _ _ _ _ (0, 0) HBX.out
    have HBR : Hid (Below w.heap.size w (wq.setRow (w.heap.size + 1) #[.int .i64 er, .int .i64 hz, .string (strOf S), .int .i64 so, .int .i64 st, .int .i64 f, .int .i64 t0, .string (strOf KK), .string (strOf L)])) := ScrB.below_row HBW.out (Nat.le_succ _) _
    go_wp2_with fail
    exact bodyPost_ret (res_result HROW.out rfl _ rfl) rfl ⟨rfl, HBR.out⟩
end Go.Proofs.Ytafnekilnbhhlaa.ScrZ
