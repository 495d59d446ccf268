/- The law ScriptResults. -/
import Derived.Test.YtafnekilnbhhlaaScrZ
namespace Go.Proofs.Ytafnekilnbhhlaa.Laws
open Go.RowKit Go.Proofs.Ytafnekilnbhhlaa.Base Go.Proofs.Ytafnekilnbhhlaa.Base2 Go.Proofs.Ytafnekilnbhhlaa.Base3 Go.Proofs.Ytafnekilnbhhlaa.Regs Go.Proofs.Ytafnekilnbhhlaa.AnsP Go.Proofs.Ytafnekilnbhhlaa.AnsB Go.Proofs.Ytafnekilnbhhlaa.ScrX Go.Proofs.Ytafnekilnbhhlaa.ScrY

set_option linter.unusedSimpArgs false in
set_option maxRecDepth 100000 in
set_option maxHeartbeats 16000000 in
/-- The walk of the law ScriptResults. -/
theorem ScriptResults_any (er hz : Int) (s : ByteArray) (so st f t0 : Int) (k : ByteArray) (A : Option Addr) (n c : Nat) (L : List UInt8) (w : World) (h1 : I64 er) (h2 : I64 hz) (h3 : I64 f) (h4 : I64 t0) (zs : s.size ≤ 140737488351232) (zk : k.size ≤ 140737488351232) (hr : Rds w A n (bcells L)) (zn : n ≤ 140737488351232) :
    Calls Try.prog 5 #[.agg #[.int .i64 er, .int .i64 hz, .string s, .int .i64 so, .int .i64 st, .int .i64 f, .int .i64 t0, .string k, .slice A n c]] w fun e w' => e = .returned (.bool true) ∧ Below w.heap.size w w' := by
  obtain ⟨S, rfl⟩ : ∃ S, s = strOf S := ⟨_, (strOf_toList s).symm⟩
  obtain ⟨KK, rfl⟩ : ∃ KK, k = strOf KK := ⟨_, (strOf_toList k).symm⟩
  have q1 : (strOf S).size = S.length := size_strOf S
  have q2 : (strOf KK).size = KK.length := size_strOf KK
  rw [q1] at zs
  rw [q2] at zk
  have HX0 : Hid (B9 45 (w.alloc (.cells #[.int .i64 er, .int .i64 hz, .string (strOf S), .int .i64 so, .int .i64 st, .int .i64 f, .int .i64 t0, .string (strOf KK), .slice A n c] 45)) w.heap.size #[.int .i64 er, .int .i64 hz, .string (strOf S), .int .i64 so, .int .i64 st, .int .i64 f, .int .i64 t0, .string (strOf KK), .slice A n c]) := heap_alloc_new w _
  have HB0 : Hid (Below w.heap.size w (w.alloc (.cells #[.int .i64 er, .int .i64 hz, .string (strOf S), .int .i64 so, .int .i64 st, .int .i64 f, .int .i64 t0, .string (strOf KK), .slice A n c] 45))) := (Below.refl _ _).alloc (Nat.le_refl _) _
  have HLT0 : Hid (w.heap.size < (w.alloc (.cells #[.int .i64 er, .int .i64 hz, .string (strOf S), .int .i64 so, .int .i64 st, .int .i64 f, .int .i64 t0, .string (strOf KK), .slice A n c] 45)).heap.size) := by show _ < _; simp
  have HR0 := hid (hr.below HB0.out)
  have HI : Hid (I64 er ∧ I64 hz ∧ I64 f ∧ I64 t0) := ⟨h1, h2, h3, h4⟩
  clear hr h1 h2 h3 h4
  by_cases h : S.length + KK.length + n ≤ 1000
  · have hi : ¬ (1000 : Int) < (S.length : Int) + (KK.length : Int) + (n : Int) := by omega
    have HN : Hid (S.length ≤ 1000 ∧ KK.length ≤ 1000 ∧ n ≤ 1000) := ⟨by omega, by omega, by omega⟩
    have HL : Hid (L.length ≤ 1000) := by have := HR0.out.1; rw [length_bcells] at this; have := HN.out; show _ ≤ _; omega
    have HSM : Hid (same6 so st f t0 (strOf KK).data.toList L so st f t0 (strOf KK).data.toList L = true) := by show _ = _; simp [same6]
    obtain ⟨X, hX⟩ : ∃ X, X = encR er hz S (ans so st f t0 KK L) := ⟨_, rfl⟩
    have HX9 := hid hX
    clear h hX
    go_enter Try.func5, Try.ntmps5
    go_wp2_with fail
    refine (awake_any _).mono ?_
    rintro e w1 ⟨rfl, hb⟩
    have HX := hid (HX0.out.below hb HLT0.out)
    have HR := hid (HR0.out.below hb)
    have HB := hid (bel HB0.out hb)
    have HLT : Hid (w.heap.size < w1.heap.size) := Nat.lt_of_lt_of_le HLT0.out hb.size
    have c2 := HX.out.cell 2 (v := .string (strOf S)) rfl
    have c7 := HX.out.cell 7 (v := .string (strOf KK)) rfl
    have c8 := HX.out.cell 8 (v := .slice A n c) rfl
    clear hb HX0 HR0 HB0 HLT0
    go_wp2_with fail
    clear c2 c7 c8 hi
    refine wp_region_rel (by kernel_rfl) [is (.agg #[.int .i64 er, .int .i64 hz, .string (strOf S), .int .i64 so, .int .i64 st, .int .i64 f, .int .i64 t0, .string (strOf KK), .slice A n c]), row X.length (bcells X), is (.string (strOf X)), is (.agg #[.int .i64 er, .int .i64 hz, .string (strOf S), .int .i64 so, .int .i64 st, .int .i64 f, .int .i64 t0, .string (strOf KK), .slice A n c]), is (.agg #[.int .i64 er, .int .i64 hz, .string (strOf S), .int .i64 so, .int .i64 st, .int .i64 f, .int .i64 t0, .string (strOf KK), .string (strOf L)]), is (.string (strOf X)), is (.bool true), is (.bool true), is (.pointer (some ⟨w.heap.size, 3, none⟩)), is (.agg #[.int .i64 so, .int .i64 st, .int .i64 f, .int .i64 t0, .string (strOf KK), .slice A n c]), is (.pointer (some ⟨w.heap.size, 3, none⟩)), is (.agg #[.int .i64 so, .int .i64 st, .int .i64 f, .int .i64 t0, .string (strOf KK), .slice A n c]), is (.bool true), is (.bool true), is (.bool true)] [[], [0], [1], [], [3], [4], [2, 5], [6], [7], [7, 8], [7], [7, 10], [7, 9, 11], [7, 12], [13]] (by kernel_rfl) ?_ ?_
    · refine ⟨?_, ?_, ?_, ?_, ?_, ?_, ?_, ?_, ?_, ?_, ?_, ?_, ?_, ?_, ?_, trivial⟩
      · intro t wq hbq hh K hK
        clear hh
        simp only [filled, upd, Have, is, any, row, pick, Act.put, List.setIfInBounds_toArray, List.set_cons_zero, List.set_cons_succ, Nat.reduceAdd, Nat.reduceEqDiff, reduceIte] at hK ⊢
        have q0 := (HX.out.below hbq HLT.out).cell 0 (v := (.int .i64 er)) rfl
        have q1 := (HX.out.below hbq HLT.out).cell 1 (v := (.int .i64 hz)) rfl
        have q2 := (HX.out.below hbq HLT.out).cell 2 (v := (.string (strOf S))) rfl
        have q3 := (HX.out.below hbq HLT.out).cell 3 (v := (.int .i64 so)) rfl
        have q4 := (HX.out.below hbq HLT.out).cell 4 (v := (.int .i64 st)) rfl
        have q5 := (HX.out.below hbq HLT.out).cell 5 (v := (.int .i64 f)) rfl
        have q6 := (HX.out.below hbq HLT.out).cell 6 (v := (.int .i64 t0)) rfl
        have q7 := (HX.out.below hbq HLT.out).cell 7 (v := (.string (strOf KK))) rfl
        have q8 := (HX.out.below hbq HLT.out).cell 8 (v := (.slice A n c)) rfl
        go_simp
        exact hK _ _ (Below.refl _ _) rfl
      · intro t wq hbq hh K hK
        have e0 := hh.1
        simp only [pick] at e0
        replace e0 : t 0 = (.agg #[.int .i64 er, .int .i64 hz, .string (strOf S), .int .i64 so, .int .i64 st, .int .i64 f, .int .i64 t0, .string (strOf KK), .slice A n c]) := e0
        clear hh
        simp only [filled, upd, Have, is, any, row, pick, Act.put, List.setIfInBounds_toArray, List.set_cons_zero, List.set_cons_succ, Nat.reduceAdd, Nat.reduceEqDiff, reduceIte] at hK ⊢
        simp only [e0] at hK ⊢
        go_simp
        go_simp
        refine (ScrY.bytes_any er hz so st f t0 S KK L A n c _ HI.out.1 HI.out.2.1 HI.out.2.2.1 HI.out.2.2.2 (HR.out.below hbq) HN.out.1 HN.out.2.1 HN.out.2.2).mono ?_
        rintro e w9 ⟨v9, rfl, hown9, hb9⟩
        rw [← HX9.out] at hown9
        obtain ⟨A9, c9, rfl, h91, h92, h93⟩ := owns_form hown9
        exact hK _ _ hb9 ⟨A9, c9, rfl, h91, h92, h93⟩
      · intro t wq hbq hh K hK
        have e1 := hh.1
        simp only [pick] at e1
        clear hh
        simp only [filled, upd, Have, is, any, row, pick, Act.put, List.setIfInBounds_toArray, List.set_cons_zero, List.set_cons_succ, Nat.reduceAdd, Nat.reduceEqDiff, reduceIte] at hK ⊢
        obtain ⟨A1, c1, e1, hc1, hm1, hr1⟩ := e1
        simp only [e1] at hK ⊢
        have hs := run_string_of (P := Try.prog) 25 9 5 Try.underlying25 Try.underlying5 Try.underlying9 X c1 hr1
        go_simp
        exact hK _ _ (Below.refl _ _) rfl
      · intro t wq hbq hh K hK
        clear hh
        simp only [filled, upd, Have, is, any, row, pick, Act.put, List.setIfInBounds_toArray, List.set_cons_zero, List.set_cons_succ, Nat.reduceAdd, Nat.reduceEqDiff, reduceIte] at hK ⊢
        have q0 := (HX.out.below hbq HLT.out).cell 0 (v := (.int .i64 er)) rfl
        have q1 := (HX.out.below hbq HLT.out).cell 1 (v := (.int .i64 hz)) rfl
        have q2 := (HX.out.below hbq HLT.out).cell 2 (v := (.string (strOf S))) rfl
        have q3 := (HX.out.below hbq HLT.out).cell 3 (v := (.int .i64 so)) rfl
        have q4 := (HX.out.below hbq HLT.out).cell 4 (v := (.int .i64 st)) rfl
        have q5 := (HX.out.below hbq HLT.out).cell 5 (v := (.int .i64 f)) rfl
        have q6 := (HX.out.below hbq HLT.out).cell 6 (v := (.int .i64 t0)) rfl
        have q7 := (HX.out.below hbq HLT.out).cell 7 (v := (.string (strOf KK))) rfl
        have q8 := (HX.out.below hbq HLT.out).cell 8 (v := (.slice A n c)) rfl
        go_simp
        exact hK _ _ (Below.refl _ _) rfl
      · intro t wq hbq hh K hK
        have e3 := hh.1
        simp only [pick] at e3
        replace e3 : t 3 = (.agg #[.int .i64 er, .int .i64 hz, .string (strOf S), .int .i64 so, .int .i64 st, .int .i64 f, .int .i64 t0, .string (strOf KK), .slice A n c]) := e3
        clear hh
        simp only [filled, upd, Have, is, any, row, pick, Act.put, List.setIfInBounds_toArray, List.set_cons_zero, List.set_cons_succ, Nat.reduceAdd, Nat.reduceEqDiff, reduceIte] at hK ⊢
        simp only [e3] at hK ⊢
        go_simp
        go_simp
        refine (ScrZ.result_any er hz so st f t0 S KK L A n c _ (HR.out.below hbq)).mono ?_
        rintro e w9 ⟨rfl, hb9⟩
        exact hK _ _ hb9 rfl
      · intro t wq hbq hh K hK
        have e4 := hh.1
        simp only [pick] at e4
        replace e4 : t 4 = (.agg #[.int .i64 er, .int .i64 hz, .string (strOf S), .int .i64 so, .int .i64 st, .int .i64 f, .int .i64 t0, .string (strOf KK), .string (strOf L)]) := e4
        clear hh
        simp only [filled, upd, Have, is, any, row, pick, Act.put, List.setIfInBounds_toArray, List.set_cons_zero, List.set_cons_succ, Nat.reduceAdd, Nat.reduceEqDiff, reduceIte] at hK ⊢
        simp only [e4] at hK ⊢
        go_simp
        go_simp
        refine (ScrY.rbytes_any er hz so st f t0 S KK L _ HN.out.1 HN.out.2.1 HL.out).mono ?_
        rw [← HX9.out]
        rintro e w9 ⟨rfl, hb9⟩
        exact hK _ _ hb9 rfl
      · intro t wq hbq hh K hK
        have e2 := hh.1
        simp only [pick] at e2
        replace e2 : t 2 = (.string (strOf X)) := e2
        have e5 := hh.2.1
        simp only [pick] at e5
        replace e5 : t 5 = (.string (strOf X)) := e5
        clear hh
        simp only [filled, upd, Have, is, any, row, pick, Act.put, List.setIfInBounds_toArray, List.set_cons_zero, List.set_cons_succ, Nat.reduceAdd, Nat.reduceEqDiff, reduceIte] at hK ⊢
        simp only [e2, e5] at hK ⊢
        have hbe : ((strOf X).toList == (strOf X).toList) = true := by rw [Regs.str_beq]; simp
        go_simp
        exact hK _ _ (Below.refl _ _) rfl
      · intro t wq hbq hh K hK
        have e6 := hh.1
        simp only [pick] at e6
        replace e6 : t 6 = (.bool true) := e6
        clear hh
        simp only [filled, upd, Have, is, any, row, pick, Act.put, List.setIfInBounds_toArray, List.set_cons_zero, List.set_cons_succ, Nat.reduceAdd, Nat.reduceEqDiff, reduceIte] at hK ⊢
        simp only [e6] at hK ⊢
        go_simp
        exact hK _ _ (Below.refl _ _) rfl
      · intro t wq hbq hh K hK
        have e7 := hh.1
        simp only [pick] at e7
        replace e7 : t 7 = (.bool true) := e7
        clear hh
        simp only [filled, upd, Have, is, any, row, pick, Act.put, List.setIfInBounds_toArray, List.set_cons_zero, List.set_cons_succ, Nat.reduceAdd, Nat.reduceEqDiff, reduceIte] at hK ⊢
        simp only [e7] at hK ⊢
        go_simp
        exact hK _ _ (Below.refl _ _) rfl
      · intro t wq hbq hh K hK
        have e7 := hh.1
        simp only [pick] at e7
        replace e7 : t 7 = (.bool true) := e7
        have e8 := hh.2.1
        simp only [pick] at e8
        replace e8 : t 8 = (.pointer (some ⟨w.heap.size, 3, none⟩)) := e8
        clear hh
        simp only [filled, upd, Have, is, any, row, pick, Act.put, List.setIfInBounds_toArray, List.set_cons_zero, List.set_cons_succ, Nat.reduceAdd, Nat.reduceEqDiff, reduceIte] at hK ⊢
        simp only [e7, e8] at hK ⊢
        have q0 := (HX.out.below hbq HLT.out).cell 3 (v := (.int .i64 so)) rfl
        have q1 := (HX.out.below hbq HLT.out).cell 4 (v := (.int .i64 st)) rfl
        have q2 := (HX.out.below hbq HLT.out).cell 5 (v := (.int .i64 f)) rfl
        have q3 := (HX.out.below hbq HLT.out).cell 6 (v := (.int .i64 t0)) rfl
        have q4 := (HX.out.below hbq HLT.out).cell 7 (v := (.string (strOf KK))) rfl
        have q5 := (HX.out.below hbq HLT.out).cell 8 (v := (.slice A n c)) rfl
        go_simp
        exact hK _ _ (Below.refl _ _) rfl
      · intro t wq hbq hh K hK
        have e7 := hh.1
        simp only [pick] at e7
        replace e7 : t 7 = (.bool true) := e7
        clear hh
        simp only [filled, upd, Have, is, any, row, pick, Act.put, List.setIfInBounds_toArray, List.set_cons_zero, List.set_cons_succ, Nat.reduceAdd, Nat.reduceEqDiff, reduceIte] at hK ⊢
        simp only [e7] at hK ⊢
        go_simp
        exact hK _ _ (Below.refl _ _) rfl
      · intro t wq hbq hh K hK
        have e7 := hh.1
        simp only [pick] at e7
        replace e7 : t 7 = (.bool true) := e7
        have e10 := hh.2.1
        simp only [pick] at e10
        replace e10 : t 10 = (.pointer (some ⟨w.heap.size, 3, none⟩)) := e10
        clear hh
        simp only [filled, upd, Have, is, any, row, pick, Act.put, List.setIfInBounds_toArray, List.set_cons_zero, List.set_cons_succ, Nat.reduceAdd, Nat.reduceEqDiff, reduceIte] at hK ⊢
        simp only [e7, e10] at hK ⊢
        have q0 := (HX.out.below hbq HLT.out).cell 3 (v := (.int .i64 so)) rfl
        have q1 := (HX.out.below hbq HLT.out).cell 4 (v := (.int .i64 st)) rfl
        have q2 := (HX.out.below hbq HLT.out).cell 5 (v := (.int .i64 f)) rfl
        have q3 := (HX.out.below hbq HLT.out).cell 6 (v := (.int .i64 t0)) rfl
        have q4 := (HX.out.below hbq HLT.out).cell 7 (v := (.string (strOf KK))) rfl
        have q5 := (HX.out.below hbq HLT.out).cell 8 (v := (.slice A n c)) rfl
        go_simp
        exact hK _ _ (Below.refl _ _) rfl
      · intro t wq hbq hh K hK
        have e7 := hh.1
        simp only [pick] at e7
        replace e7 : t 7 = (.bool true) := e7
        have e9 := hh.2.1
        simp only [pick] at e9
        replace e9 : t 9 = (.agg #[.int .i64 so, .int .i64 st, .int .i64 f, .int .i64 t0, .string (strOf KK), .slice A n c]) := e9
        have e11 := hh.2.2.1
        simp only [pick] at e11
        replace e11 : t 11 = (.agg #[.int .i64 so, .int .i64 st, .int .i64 f, .int .i64 t0, .string (strOf KK), .slice A n c]) := e11
        clear hh
        simp only [filled, upd, Have, is, any, row, pick, Act.put, List.setIfInBounds_toArray, List.set_cons_zero, List.set_cons_succ, Nat.reduceAdd, Nat.reduceEqDiff, reduceIte] at hK ⊢
        simp only [e7, e9, e11] at hK ⊢
        go_simp
        go_simp
        refine (AnsB.same_any so st f t0 (strOf KK) A n c L so st f t0 (strOf KK) A n c L _ (HR.out.below hbq) (HR.out.below hbq)).mono ?_
        rintro e w9 ⟨rfl, hb9⟩
        exact hK _ _ hb9 (congrArg Value.bool HSM.out)
      · intro t wq hbq hh K hK
        have e7 := hh.1
        simp only [pick] at e7
        replace e7 : t 7 = (.bool true) := e7
        have e12 := hh.2.1
        simp only [pick] at e12
        replace e12 : t 12 = (.bool true) := e12
        clear hh
        simp only [filled, upd, Have, is, any, row, pick, Act.put, List.setIfInBounds_toArray, List.set_cons_zero, List.set_cons_succ, Nat.reduceAdd, Nat.reduceEqDiff, reduceIte] at hK ⊢
        simp only [e7, e12] at hK ⊢
        go_simp
        exact hK _ _ (Below.refl _ _) rfl
      · intro t wq hbq hh K hK
        have e13 := hh.1
        simp only [pick] at e13
        replace e13 : t 13 = (.bool true) := e13
        clear hh
        simp only [filled, upd, Have, is, any, row, pick, Act.put, List.setIfInBounds_toArray, List.set_cons_zero, List.set_cons_succ, Nat.reduceAdd, Nat.reduceEqDiff, reduceIte] at hK ⊢
        simp only [e13] at hK ⊢
        go_simp
        exact hK _ _ (Below.refl _ _) rfl
    · intro t wq hbq hh
      have f14 := have_get hh 14 (by decide)
      simp only [pick] at f14
      replace f14 : t 14 = (.bool true) := f14
      clear hh
      simp only [filled, upd, Have, is, any, row, pick, Act.put, List.setIfInBounds_toArray, List.set_cons_zero, List.set_cons_succ, Nat.reduceAdd, Nat.reduceEqDiff, reduceIte]
      simp only [f14]
      go_wp2
      go_ret
      exact ⟨rfl, HB.out.trans (hbq.mono HB.out.size)⟩
  · have hi : (1000 : Int) < (S.length : Int) + (KK.length : Int) + (n : Int) := by omega
    clear h
    go_enter Try.func5, Try.ntmps5
    go_wp2_with fail
    refine (awake_any _).mono ?_
    rintro e w1 ⟨rfl, hb⟩
    have HX := hid (HX0.out.below hb HLT0.out)
    have HB := hid (bel HB0.out hb)
    have c2 := HX.out.cell 2 (v := .string (strOf S)) rfl
    have c7 := HX.out.cell 7 (v := .string (strOf KK)) rfl
    have c8 := HX.out.cell 8 (v := .slice A n c) rfl
    clear hb
    go_wp2_with fail
    clear c2 c7 c8
    refine (awake_any _).mono ?_
    rintro e w3 ⟨rfl, hb⟩
    have HB3 := hid (bel HB.out hb)
    clear hb
    go_wp2
    go_ret
    exact ⟨rfl, HB3.out⟩
end Go.Proofs.Ytafnekilnbhhlaa.Laws
