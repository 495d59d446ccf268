/- Texts that belong together: StoJ. -/
import Derived.Test.YthajldjmplfnaaaGreatDoorNAD
import Derived.Test.YthajldjmplfnaaaGreatDoorNAA
import Derived.BigQuiet
import Derived.Deep.QuietTactic
import Derived.Deep.WholeRow
set_option linter.unusedSimpArgs false
set_option linter.unusedVariables false
namespace Go.Proofs.YthajldjmplfnaaaGreatDoor.StoJ
open Go.RowKit Base Base2 Regs TbK StoG StoI OrgA Ubx LdA
set_option linter.unusedSimpArgs false
set_option linter.unusedVariables false
set_option maxRecDepth 100000 in
set_option maxHeartbeats 4000000 in
theorem reg_ok (B g room : Nat) (l : List (Ent (Int))) (s h : ByteArray) (p n : Int) (x : Int) (RV : Array Value) (P N T : List UInt8) (w : World) (hS : IsS 114 121 (Value.int .i64) B g room l w) (hm : room ≤ 64) (hl : l.length ≤ 64) (hr : l.length < room) (hi : idx l (strOf T) = none) (hT : T = [98, 108, 111, 98, 58] ++ P ++ [47] ++ N) (hPl : P.length ≤ 100000) (hNl : N.length ≤ 1000) (hRV : RV.size = 16)
  (HR : Hid (∀ w', Below w.heap.size w w' → Calls Tryz.prog 51 #[.agg #[.string s, .string h, .int .i64 p, .int .i64 n]] w' fun e w'' => e = .returned (.bool true) ∧ Below w'.heap.size w' w''))
  (HP : Hid (∀ w', Below w.heap.size w w' → Calls Tryz.prog 52 #[.agg #[.string s, .string h, .int .i64 p, .int .i64 n]] w' fun e w'' => e = .returned (.string (strOf P)) ∧ Below w'.heap.size w' w''))
  (HN : Hid (∀ w', Below w.heap.size w w' → Calls Tryz.prog 53 #[.agg RV] w' fun e w'' => e = .returned (.string (strOf N)) ∧ Below w'.heap.size w' w'')) :
  Calls Tryz.prog 17 #[.pointer (some ⟨g, 0, none⟩), .agg #[.string s, .string h, .int .i64 p, .int .i64 n], .int .i64 x, .agg RV] w fun e w' => e = .returned (.tuple #[.string (strOf T), .int .i64 0]) ∧ IsS 114 121 (Value.int .i64) B g room (l ++ [⟨strOf T, s, h, p, n, x⟩]) w' ∧ Below B w w' ∧ Kp 114 121 w w' := by
 obtain ⟨i0, hi0, hz0, hz1, hz2⟩ := info_parts info_e3
 have HS0 := hid hS
 have hBw : B ≤ w.heap.size := by obtain ⟨_, _, _, h3⟩ := hS; exact Nat.le_trans h3 (Nat.le_of_lt HS0.out.lt)
 have HI := hid hi
 have HRV := hid hRV
 obtain ⟨T1, hT1⟩ : ∃ x, x = [98, 108, 111, 98, 58] ++ P := ⟨_, rfl⟩
 obtain ⟨T2, hT2⟩ : ∃ x, x = T1 ++ [47] := ⟨_, rfl⟩
 have hT3 : T = T2 ++ N := by rw [hT, hT2, hT1]
 have hl1 : T1.length ≤ 100005 := by rw [hT1]; simp only [List.length_append, List.length_cons, List.length_nil]; omega
 have hl2 : T2.length ≤ 100006 := by rw [hT2]; simp only [List.length_append, List.length_cons, List.length_nil]; omega
 have HA1 : Hid (∀ w : World, (Op.stringOp .add ⟨#[98, 108, 111, 98, 58]⟩ (strOf P)).run Tryz.prog w = .ok (.string (strOf T1)) w) := fun w => by rw [hT1]; exact str_add' ⟨#[98, 108, 111, 98, 58]⟩ (strOf P) w (by rw [size_strOf]; show 5 + _ ≤ _; omega)
 have HA2 : Hid (∀ w : World, (Op.stringOp .add (strOf T1) ⟨#[47]⟩).run Tryz.prog w = .ok (.string (strOf T2)) w) := fun w => by rw [hT2]; exact str_add' (strOf T1) ⟨#[47]⟩ w (by rw [size_strOf]; show _ + 1 ≤ _; omega)
 have HA3 : Hid (∀ w : World, (Op.stringOp .add (strOf T2) (strOf N)).run Tryz.prog w = .ok (.string (strOf T)) w) := fun w => by rw [hT3]; exact str_add' (strOf T2) (strOf N) w (by rw [size_strOf, size_strOf]; omega)
 clear hT hT1 hT2 hT3 hl1 hl2 hPl hNl hS hi hRV
 go_enter Tryz.func17, Tryz.ntmps17
 go_upto_region 1 with (fail)
 generalize hwa : World.alloc (World.alloc w _) _ = v1
 have h1_ : OB v1 w.heap.size s h p n ∧ v1.heap[w.heap.size + 1]? = some (.cells RV 31 (0, 0)) ∧ Below w.heap.size w v1 := by
  subst hwa
  exact laid2 w _ _ _ _
 clear hwa
 have X1 := hid h1_.1
 have X2 := hid h1_.2.1
 have HB1 := hid h1_.2.2
 clear h1_
 obtain ⟨d0, d1, d2, d3⟩ := X1.out.facts
 go_wp2_with fail
 refine (HR.out _ HB1.out).mono ?_
 rintro e v2 ⟨rfl, hb2⟩
 clear d0 d1 d2 d3
 have X1b := hid (X1.out.below hb2)
 have X2b := hid ((hb2.block _ (Array.getElem?_eq_some_iff.1 X2.out).1).trans X2.out)
 have HB2 := hid (bel HB1.out hb2)
 clear X1 X2 HB1 hb2
 go_upto_region 3 with (fail)
 refine wp_region_rel (by kernel_rfl) [is (.agg #[.string s, .string h, .int .i64 p, .int .i64 n]), is (.string (strOf P)), is (.string (strOf T1)), is (.string (strOf T2)), is (.agg RV), is (.string (strOf N)), is (.string (strOf T)), is (.string (strOf T))] [[], [0], [1], [2], [], [4], [3, 5], [6]] (by kernel_rfl) ?_ ?_
 ·refine ⟨?_, ?_, ?_, ?_, ?_, ?_, ?_, ?_, trivial⟩
  ·intro t wq hbq hh K hK
   clear hh
   simp only [filled, upd, Have, is, any, row, pick, Act.put, List.setIfInBounds_toArray, List.set_cons_zero, List.set_cons_succ, Nat.reduceAdd, Nat.reduceEqDiff, reduceIte] at hK ⊢
   refine step_load (ob_load (X1b.out.below hbq)) (.tmp 5) rfl rfl rfl ?_
   exact hK _ _ (Below.refl _ _) rfl
  ·intro t wq hbq hh K hK
   have e0 := hh.1
   simp only [pick] at e0
   replace e0 : t 0 = (.agg #[.string s, .string h, .int .i64 p, .int .i64 n]) := e0
   clear hh
   simp only [filled, upd, Have, is, any, row, pick, Act.put, List.setIfInBounds_toArray, List.set_cons_zero, List.set_cons_succ, Nat.reduceAdd, Nat.reduceEqDiff, reduceIte] at hK ⊢
   simp only [e0] at hK ⊢
   go_simp
   refine (HP.out _ (bel HB2.out hbq)).mono ?_
   rintro e w9 ⟨rfl, hb9⟩
   exact hK _ _ hb9 rfl
  ·intro t wq hbq hh K hK
   have e1 := hh.1
   simp only [pick] at e1
   replace e1 : t 1 = (.string (strOf P)) := e1
   clear hh
   simp only [filled, upd, Have, is, any, row, pick, Act.put, List.setIfInBounds_toArray, List.set_cons_zero, List.set_cons_succ, Nat.reduceAdd, Nat.reduceEqDiff, reduceIte] at hK ⊢
   simp only [e1] at hK ⊢
   have had := HA1.out wq
   go_simp
   exact hK _ _ (Below.refl _ _) rfl
  ·intro t wq hbq hh K hK
   have e2 := hh.1
   simp only [pick] at e2
   replace e2 : t 2 = (.string (strOf T1)) := e2
   clear hh
   simp only [filled, upd, Have, is, any, row, pick, Act.put, List.setIfInBounds_toArray, List.set_cons_zero, List.set_cons_succ, Nat.reduceAdd, Nat.reduceEqDiff, reduceIte] at hK ⊢
   simp only [e2] at hK ⊢
   have had := HA2.out wq
   go_simp
   exact hK _ _ (Below.refl _ _) rfl
  ·intro t wq hbq hh K hK
   clear hh
   simp only [filled, upd, Have, is, any, row, pick, Act.put, List.setIfInBounds_toArray, List.set_cons_zero, List.set_cons_succ, Nat.reduceAdd, Nat.reduceEqDiff, reduceIte] at hK ⊢
   refine step_load (arr_load HRV.out ((hbq.block _ (Array.getElem?_eq_some_iff.1 X2b.out).1).trans X2b.out)) (.tmp 7) rfl rfl rfl ?_
   exact hK _ _ (Below.refl _ _) rfl
  ·intro t wq hbq hh K hK
   have e4 := hh.1
   simp only [pick] at e4
   replace e4 : t 4 = (.agg RV) := e4
   clear hh
   simp only [filled, upd, Have, is, any, row, pick, Act.put, List.setIfInBounds_toArray, List.set_cons_zero, List.set_cons_succ, Nat.reduceAdd, Nat.reduceEqDiff, reduceIte] at hK ⊢
   simp only [e4] at hK ⊢
   go_simp
   refine (HN.out _ (bel HB2.out hbq)).mono ?_
   rintro e w9 ⟨rfl, hb9⟩
   exact hK _ _ hb9 rfl
  ·intro t wq hbq hh K hK
   have e3 := hh.1
   simp only [pick] at e3
   replace e3 : t 3 = (.string (strOf T2)) := e3
   have e5 := hh.2.1
   simp only [pick] at e5
   replace e5 : t 5 = (.string (strOf N)) := e5
   clear hh
   simp only [filled, upd, Have, is, any, row, pick, Act.put, List.setIfInBounds_toArray, List.set_cons_zero, List.set_cons_succ, Nat.reduceAdd, Nat.reduceEqDiff, reduceIte] at hK ⊢
   simp only [e3, e5] at hK ⊢
   have had := HA3.out wq
   go_simp
   exact hK _ _ (Below.refl _ _) rfl
  ·intro t wq hbq hh K hK
   have e6 := hh.1
   simp only [pick] at e6
   replace e6 : t 6 = (.string (strOf T)) := e6
   clear hh
   simp only [filled, upd, Have, is, any, row, pick, Act.put, List.setIfInBounds_toArray, List.set_cons_zero, List.set_cons_succ, Nat.reduceAdd, Nat.reduceEqDiff, reduceIte] at hK ⊢
   simp only [e6] at hK ⊢
   go_simp
   exact hK _ _ (Below.refl _ _) rfl
 ·intro t wq hbq hh
  have f7 := have_get hh 7 (by decide)
  simp only [pick] at f7
  replace f7 : t 7 = (.string (strOf T)) := f7
  clear hh
  simp only [filled, upd, Have, is, any, row, pick, Act.put, List.setIfInBounds_toArray, List.set_cons_zero, List.set_cons_succ, Nat.reduceAdd, Nat.reduceEqDiff, reduceIte]
  simp only [f7]
  have X1c := hid (X1b.out.below hbq)
  have HB3 := hid (bel HB2.out hbq)
  clear X1b X2b HB2 hbq
  have HS3 := hid (HS0.out.below HB3.out)
  go_wp2_with fail
  refine (find_any B g room l (strOf T) _ HS3.out hl).mono ?_
  rw [HI.out]
  rintro e w4 ⟨rfl, hb4⟩
  have X1d := hid (X1c.out.below hb4)
  have HB4 := hid (bel HB3.out hb4)
  clear X1c HB3 hb4
  rw [show plc none = -1 from rfl]
  have HS4 := hid (HS0.out.below HB4.out)
  obtain ⟨v, hv, hown, hBg⟩ := HS4.out
  obtain ⟨A, c, rfl, hnc, hcm, _⟩ := own_cells hown
  obtain ⟨c0, c1⟩ := cells2 hv
  have hlti := HS4.out.lt
  clear HS3
  have hroom : ¬ (room : Int) ≤ (l.length : Int) := by omega
  have hll : (l.length : Int) ≤ 64 := by omega
  go_wp2_with fail
  go_quiet (fail)
  have hv1 : (w4.drewN nq).heap[g]? = some (.cells #[.int .i64 (room : Int), .slice A l.length c] 114 (0, 0)) := by rw [World.heap_drewN]; exact hv
  have hb1 : Below w4.heap.size w4 (w4.drewN nq) := Base.below_drewN (Below.refl _ _) _
  have hown1 := owns_below hown hb1
  have HB5 := hid (bel HB4.out hb1)
  have X1e := hid (X1d.out.below hb1)
  generalize w4.drewN nq = w5 at hv1 hown1 hb1 HB5 X1e ⊢
  clear c0 c1 hv hown HS4 hb1 X1d HB4
  have HV := hid hv1
  have HO := hid hown1
  obtain ⟨c0, c1⟩ := cells2 HV.out
  have HLT : Hid (g < w5.heap.size) := (Array.getElem?_eq_some_iff.1 HV.out).1
  have HBL : Hid (B ≤ w5.heap.size) := Nat.le_trans hBw HB5.out.size
  clear hv1 hown1
  go_upto_region 9 with (fail)
  generalize decide (room ≤ l.length) = dd
  refine wp_region_any (by kernel_rfl) ?_
  change wpAny _ _ _ _ _ _ _ (World.drew _)
  refine wpAny_take (i := 0) (v := (.pointer (some ⟨g, 0, none⟩))) rfl (by kernel_rfl) (by kernel_rfl) (by kernel_rfl) (fun _ _ _ h => h) (Or.inl ⟨by rfl, ?yy0⟩) ?_
  case yy0 => (intro w; go_simp; try with_reducible rfl)
  simp only [List.getElem_toArray, List.getElem_cons_zero, List.getElem_cons_succ, Act.put, List.setIfInBounds_toArray, List.set_cons_zero, List.set_cons_succ]
  refine wpAny_go 10 [is (.pointer (some ⟨g, 0, none⟩)), is (.pointer (some ⟨g, 0, none⟩)), is (.pointer (some ⟨g, 0, none⟩)), is (.pointer (some ⟨g, 1, none⟩)), is (.slice A l.length c), is (.string (strOf T)), is (.agg #[.string s, .string h, .int .i64 p, .int .i64 n]), is (.int .i64 x), is (.agg #[.string (strOf T), .string s, .string h, .int .i64 p, .int .i64 n, .int .i64 x]), one6 [.string (strOf T), .string s, .string h, .int .i64 p, .int .i64 n, .int .i64 x]] [[], [], [1], [1, 2], [1, 2, 3], [], [], [], [5, 6, 7], [5, 6, 7, 8], [1, 2, 3, 4, 5, 6, 7, 8, 9]] [0] (by kernel_rfl) (by kernel_rfl) (by kernel_rfl) ?_ ?_ ?_
  ·intro k hk; simp only [List.mem_cons, List.not_mem_nil, or_false] at hk; subst hk; rfl
  ·refine ⟨?_, ?_, ?_, ?_, ?_, ?_, ?_, ?_, ?_, ?_, trivial⟩
   ·intro t wq hbq hh K hK
    clear hh
    simp only [filled, filledN, upd, Have, is, any, row, pick, Act.put, List.setIfInBounds_toArray, List.set_cons_zero, List.set_cons_succ, Nat.reduceAdd, Nat.reduceEqDiff, reduceIte] at hK ⊢
    go_simp
    exact hK _ _ (Below.refl _ _) rfl
   ·intro t wq hbq hh K hK
    clear hh
    simp only [filled, filledN, upd, Have, is, any, row, pick, Act.put, List.setIfInBounds_toArray, List.set_cons_zero, List.set_cons_succ, Nat.reduceAdd, Nat.reduceEqDiff, reduceIte] at hK ⊢
    go_simp
    exact hK _ _ (Below.refl _ _) rfl
   ·intro t wq hbq hh K hK
    have e1 := hh.1
    simp only [pick] at e1
    replace e1 : t 1 = (.pointer (some ⟨g, 0, none⟩)) := e1
    clear hh
    simp only [filled, filledN, upd, Have, is, any, row, pick, Act.put, List.setIfInBounds_toArray, List.set_cons_zero, List.set_cons_succ, Nat.reduceAdd, Nat.reduceEqDiff, reduceIte] at hK ⊢
    simp only [e1] at hK ⊢
    go_simp
    exact hK _ _ (Below.refl _ _) rfl
   ·intro t wq hbq hh K hK
    have e2 := hh.2.1
    simp only [pick] at e2
    replace e2 : t 2 = (.pointer (some ⟨g, 0, none⟩)) := e2
    clear hh
    simp only [filled, filledN, upd, Have, is, any, row, pick, Act.put, List.setIfInBounds_toArray, List.set_cons_zero, List.set_cons_succ, Nat.reduceAdd, Nat.reduceEqDiff, reduceIte] at hK ⊢
    simp only [e2] at hK ⊢
    go_simp
    exact hK _ _ (Below.refl _ _) rfl
   ·intro t wq hbq hh K hK
    have e3 := hh.2.2.1
    simp only [pick] at e3
    replace e3 : t 3 = (.pointer (some ⟨g, 1, none⟩)) := e3
    clear hh
    simp only [filled, filledN, upd, Have, is, any, row, pick, Act.put, List.setIfInBounds_toArray, List.set_cons_zero, List.set_cons_succ, Nat.reduceAdd, Nat.reduceEqDiff, reduceIte] at hK ⊢
    simp only [e3] at hK ⊢
    have hq := (hbq.cell (p := ⟨g, 1, none⟩) HLT.out).trans c1
    go_simp
    exact hK _ _ (Below.refl _ _) rfl
   ·intro t wq hbq hh K hK
    clear hh
    simp only [filled, filledN, upd, Have, is, any, row, pick, Act.put, List.setIfInBounds_toArray, List.set_cons_zero, List.set_cons_succ, Nat.reduceAdd, Nat.reduceEqDiff, reduceIte] at hK ⊢
    go_simp
    exact hK _ _ (Below.refl _ _) rfl
   ·intro t wq hbq hh K hK
    clear hh
    simp only [filled, filledN, upd, Have, is, any, row, pick, Act.put, List.setIfInBounds_toArray, List.set_cons_zero, List.set_cons_succ, Nat.reduceAdd, Nat.reduceEqDiff, reduceIte] at hK ⊢
    refine step_load (ob_load (OB.below (w := w5.drew) X1e.out hbq)) (.tmp 5) rfl rfl rfl ?_
    exact hK _ _ (Below.refl _ _) rfl
   ·intro t wq hbq hh K hK
    clear hh
    simp only [filled, filledN, upd, Have, is, any, row, pick, Act.put, List.setIfInBounds_toArray, List.set_cons_zero, List.set_cons_succ, Nat.reduceAdd, Nat.reduceEqDiff, reduceIte] at hK ⊢
    go_simp
    exact hK _ _ (Below.refl _ _) rfl
   ·intro t wq hbq hh K hK
    have e5 := hh.1
    simp only [pick] at e5
    replace e5 : t 5 = (.string (strOf T)) := e5
    have e6 := hh.2.1
    simp only [pick] at e6
    replace e6 : t 6 = (.agg #[.string s, .string h, .int .i64 p, .int .i64 n]) := e6
    have e7 := hh.2.2.1
    simp only [pick] at e7
    replace e7 : t 7 = (.int .i64 x) := e7
    clear hh
    simp only [filled, filledN, upd, Have, is, any, row, pick, Act.put, List.setIfInBounds_toArray, List.set_cons_zero, List.set_cons_succ, Nat.reduceAdd, Nat.reduceEqDiff, reduceIte] at hK ⊢
    simp only [e5, e6, e7] at hK ⊢
    go_simp
    exact hK _ _ (Below.refl _ _) rfl
   ·intro t wq hbq hh K hK
    have e8 := hh.2.2.2.1
    simp only [pick] at e8
    replace e8 : t 8 = (.agg #[.string (strOf T), .string s, .string h, .int .i64 p, .int .i64 n, .int .i64 x]) := e8
    clear hh
    simp only [filled, filledN, upd, Have, is, any, row, pick, Act.put, List.setIfInBounds_toArray, List.set_cons_zero, List.set_cons_succ, Nat.reduceAdd, Nat.reduceEqDiff, reduceIte] at hK ⊢
    simp only [e8] at hK ⊢
    go_simp
    go_simp
    exact hK _ _ ((Below.refl _ _).alloc (Nat.le_refl _) _) ⟨wq.heap.size, rfl, by simp, fun j v hv => by rw [cell_of_row _ wq.heap.size j _ _ _ (heap_alloc_new wq _)]; simpa using hv⟩
  ·intro t wq hbq hh
   have f0 := have_get hh 0 (by decide)
   simp only [pick] at f0
   replace f0 : t 0 = (.pointer (some ⟨g, 0, none⟩)) := f0
   have f4 := have_get hh 4 (by decide)
   simp only [pick] at f4
   replace f4 : t 4 = (.slice A l.length c) := f4
   have f9 := have_get hh 9 (by decide)
   simp only [pick] at f9
   clear hh
   simp only [filled, filledN, upd, Have, is, any, row, pick, Act.put, List.setIfInBounds_toArray, List.set_cons_zero, List.set_cons_succ, Nat.reduceAdd, Nat.reduceEqDiff, reduceIte]
   simp only [f0, f4]
   obtain ⟨b, f9, hbl, q0⟩ := f9
   simp only [f9]
   have hvq : wq.heap[g]? = some (.cells #[.int .i64 (room : Int), .slice A l.length c] 114 (0, 0)) := (hbq.block g HLT.out).trans HV.out
   have hoq : wq.ownsRow B 121 6 (.slice A l.length c) l.length (flat (Value.int .i64) l) := owns_below (w := w5.drew) HO.out hbq
   have hlq : g < wq.heap.size := Nat.lt_of_lt_of_le HLT.out hbq.size
   have HVQ := hid hvq
   have HLQ := hid hlq
   have Q0 := hid q0
   clear hvq hlq q0
   show wpList _ _ _ [_, _, _, _] _ _
   refine wpList_append_own _ rfl _ _ 112 rfl B 121 i0 _ 6 72 Tryz.underlying112 hi0 hz0 hz1 hz2 rfl (by decide) (.slice A l.length c) l.length (flat (Value.int .i64) l) rfl hoq ⟨b, 0, none⟩ 1 1 [.string (strOf T), .string s, .string h, .int .i64 p, .int .i64 n, .int .i64 x] rfl rfl ?d1 (by intro u hu; simp at hu; rcases hu with rfl | rfl | rfl | rfl | rfl | rfl <;> rfl) ?d2 ?d3 ?d4 ?_
   case d1 =>
    intro j u hj
    have ha : Addr.add ⟨b, 0, none⟩ j = ⟨b, j, none⟩ := by unfold Addr.add; split <;> simp_all
    rw [ha]
    exact Q0.out j u hj
   case d2 => unfold maxLen; omega
   case d3 => omega
   case d4 => have := HLQ.out; omega
   intro v' w6 hown' hgrow _
   have hv4 : w6.heap[g]? = some (.cells #[.int .i64 (room : Int), .slice A l.length c] 114 (0, 0)) := (hgrow.block g HLQ.out (fun e => own_ne (by decide) HVQ.out hoq e.symm)).trans HVQ.out
   have hbw4 : Below B w w6 := ((HB5.out.mono hBw).drew.trans (hbq.mono HBL.out)).grown hgrow (Nat.le_trans HBL.out hbq.size) (fun k hk => (hoq.lt k hk).1)
   have hkp4 : Kp 114 121 w w6 := (Kp.below ((HB5.out.drew.trans (hbq.mono HB5.out.size)))).trans (Kp.grown hoq hgrow)
   have hT5 := heap_setCell_same w6 g 1 _ _ v' hv4
   have hown5 : (w6.setCell ⟨g, 1, none⟩ v').ownsRow B 121 6 v' (l.length + 1) (flat (Value.int .i64) l ++ [.string (strOf T), .string s, .string h, .int .i64 p, .int .i64 n, .int .i64 x]) := own_set hown' (own_ne (by decide) hv4 hown')
   have H5 : Hid (IsS 114 121 (Value.int .i64) B g room (l ++ [⟨strOf T, s, h, p, n, x⟩]) (w6.setCell ⟨g, 1, none⟩ v')) := by
    refine ⟨v', by simpa using hT5, ?_, hBg⟩
    rw [List.length_append, StoG.flat_append]
    exact hown5
   have HB6 : Hid (Below B w (w6.setCell ⟨g, 1, none⟩ v')) := hbw4.setCell (p := ⟨g, 1, none⟩) hBg _
   have HK6 : Hid (Kp 114 121 w (w6.setCell ⟨g, 1, none⟩ v')) := hkp4.trans (Kp.set hv4 (.inl rfl))
   obtain ⟨k0, k1⟩ := cells2 hv4
   obtain ⟨m0, m1⟩ := thaw2 hv4
   obtain ⟨n0, n1⟩ := cells2 hT5
   obtain ⟨vA, vc, hvf, _⟩ := own_form hown'
   subst hvf
   clear hoq hown' hgrow hv4 hbw4 hkp4 hT5 hown5
   go_wp2
   go_ret2
   exact ⟨rfl, H5.out, HB6.out, HK6.out⟩
set_option maxRecDepth 100000 in
set_option maxHeartbeats 4000000 in
theorem reg_twice (B g room : Nat) (l : List (Ent (Int))) (s h : ByteArray) (p n : Int) (x : Int) (RV : Array Value) (P N T : List UInt8) (w : World) (hS : IsS 114 121 (Value.int .i64) B g room l w) (hm : room ≤ 64) (hl : l.length ≤ 64) (hi : (idx l (strOf T)).isSome = true) (hT : T = [98, 108, 111, 98, 58] ++ P ++ [47] ++ N) (hPl : P.length ≤ 100000) (hNl : N.length ≤ 1000) (hRV : RV.size = 16)
  (HR : Hid (∀ w', Below w.heap.size w w' → Calls Tryz.prog 51 #[.agg #[.string s, .string h, .int .i64 p, .int .i64 n]] w' fun e w'' => e = .returned (.bool true) ∧ Below w'.heap.size w' w''))
  (HP : Hid (∀ w', Below w.heap.size w w' → Calls Tryz.prog 52 #[.agg #[.string s, .string h, .int .i64 p, .int .i64 n]] w' fun e w'' => e = .returned (.string (strOf P)) ∧ Below w'.heap.size w' w''))
  (HN : Hid (∀ w', Below w.heap.size w w' → Calls Tryz.prog 53 #[.agg RV] w' fun e w'' => e = .returned (.string (strOf N)) ∧ Below w'.heap.size w' w'')) :
  Calls Tryz.prog 17 #[.pointer (some ⟨g, 0, none⟩), .agg #[.string s, .string h, .int .i64 p, .int .i64 n], .int .i64 x, .agg RV] w fun e w' => e = .returned (.tuple #[.string ⟨#[]⟩, .int .i64 5]) ∧ Below w.heap.size w w' := by
 have HS0 := hid hS
 have hBw : B ≤ w.heap.size := by obtain ⟨_, _, _, h3⟩ := hS; exact Nat.le_trans h3 (Nat.le_of_lt HS0.out.lt)
 have HI := hid hi
 have HRV := hid hRV
 obtain ⟨T1, hT1⟩ : ∃ x, x = [98, 108, 111, 98, 58] ++ P := ⟨_, rfl⟩
 obtain ⟨T2, hT2⟩ : ∃ x, x = T1 ++ [47] := ⟨_, rfl⟩
 have hT3 : T = T2 ++ N := by rw [hT, hT2, hT1]
 have hl1 : T1.length ≤ 100005 := by rw [hT1]; simp only [List.length_append, List.length_cons, List.length_nil]; omega
 have hl2 : T2.length ≤ 100006 := by rw [hT2]; simp only [List.length_append, List.length_cons, List.length_nil]; omega
 have HA1 : Hid (∀ w : World, (Op.stringOp .add ⟨#[98, 108, 111, 98, 58]⟩ (strOf P)).run Tryz.prog w = .ok (.string (strOf T1)) w) := fun w => by rw [hT1]; exact str_add' ⟨#[98, 108, 111, 98, 58]⟩ (strOf P) w (by rw [size_strOf]; show 5 + _ ≤ _; omega)
 have HA2 : Hid (∀ w : World, (Op.stringOp .add (strOf T1) ⟨#[47]⟩).run Tryz.prog w = .ok (.string (strOf T2)) w) := fun w => by rw [hT2]; exact str_add' (strOf T1) ⟨#[47]⟩ w (by rw [size_strOf]; show _ + 1 ≤ _; omega)
 have HA3 : Hid (∀ w : World, (Op.stringOp .add (strOf T2) (strOf N)).run Tryz.prog w = .ok (.string (strOf T)) w) := fun w => by rw [hT3]; exact str_add' (strOf T2) (strOf N) w (by rw [size_strOf, size_strOf]; omega)
 clear hT hT1 hT2 hT3 hl1 hl2 hPl hNl hS hi hRV
 go_enter Tryz.func17, Tryz.ntmps17
 go_upto_region 1 with (fail)
 generalize hwa : World.alloc (World.alloc w _) _ = v1
 have h1_ : OB v1 w.heap.size s h p n ∧ v1.heap[w.heap.size + 1]? = some (.cells RV 31 (0, 0)) ∧ Below w.heap.size w v1 := by
  subst hwa
  exact laid2 w _ _ _ _
 clear hwa
 have X1 := hid h1_.1
 have X2 := hid h1_.2.1
 have HB1 := hid h1_.2.2
 clear h1_
 obtain ⟨d0, d1, d2, d3⟩ := X1.out.facts
 go_wp2_with fail
 refine (HR.out _ HB1.out).mono ?_
 rintro e v2 ⟨rfl, hb2⟩
 clear d0 d1 d2 d3
 have X1b := hid (X1.out.below hb2)
 have X2b := hid ((hb2.block _ (Array.getElem?_eq_some_iff.1 X2.out).1).trans X2.out)
 have HB2 := hid (bel HB1.out hb2)
 clear X1 X2 HB1 hb2
 go_upto_region 3 with (fail)
 refine wp_region_rel (by kernel_rfl) [is (.agg #[.string s, .string h, .int .i64 p, .int .i64 n]), is (.string (strOf P)), is (.string (strOf T1)), is (.string (strOf T2)), is (.agg RV), is (.string (strOf N)), is (.string (strOf T)), is (.string (strOf T))] [[], [0], [1], [2], [], [4], [3, 5], [6]] (by kernel_rfl) ?_ ?_
 ·refine ⟨?_, ?_, ?_, ?_, ?_, ?_, ?_, ?_, trivial⟩
  ·intro t wq hbq hh K hK
   clear hh
   simp only [filled, upd, Have, is, any, row, pick, Act.put, List.setIfInBounds_toArray, List.set_cons_zero, List.set_cons_succ, Nat.reduceAdd, Nat.reduceEqDiff, reduceIte] at hK ⊢
   refine step_load (ob_load (X1b.out.below hbq)) (.tmp 5) rfl rfl rfl ?_
   exact hK _ _ (Below.refl _ _) rfl
  ·intro t wq hbq hh K hK
   have e0 := hh.1
   simp only [pick] at e0
   replace e0 : t 0 = (.agg #[.string s, .string h, .int .i64 p, .int .i64 n]) := e0
   clear hh
   simp only [filled, upd, Have, is, any, row, pick, Act.put, List.setIfInBounds_toArray, List.set_cons_zero, List.set_cons_succ, Nat.reduceAdd, Nat.reduceEqDiff, reduceIte] at hK ⊢
   simp only [e0] at hK ⊢
   go_simp
   refine (HP.out _ (bel HB2.out hbq)).mono ?_
   rintro e w9 ⟨rfl, hb9⟩
   exact hK _ _ hb9 rfl
  ·intro t wq hbq hh K hK
   have e1 := hh.1
   simp only [pick] at e1
   replace e1 : t 1 = (.string (strOf P)) := e1
   clear hh
   simp only [filled, upd, Have, is, any, row, pick, Act.put, List.setIfInBounds_toArray, List.set_cons_zero, List.set_cons_succ, Nat.reduceAdd, Nat.reduceEqDiff, reduceIte] at hK ⊢
   simp only [e1] at hK ⊢
   have had := HA1.out wq
   go_simp
   exact hK _ _ (Below.refl _ _) rfl
  ·intro t wq hbq hh K hK
   have e2 := hh.1
   simp only [pick] at e2
   replace e2 : t 2 = (.string (strOf T1)) := e2
   clear hh
   simp only [filled, upd, Have, is, any, row, pick, Act.put, List.setIfInBounds_toArray, List.set_cons_zero, List.set_cons_succ, Nat.reduceAdd, Nat.reduceEqDiff, reduceIte] at hK ⊢
   simp only [e2] at hK ⊢
   have had := HA2.out wq
   go_simp
   exact hK _ _ (Below.refl _ _) rfl
  ·intro t wq hbq hh K hK
   clear hh
   simp only [filled, upd, Have, is, any, row, pick, Act.put, List.setIfInBounds_toArray, List.set_cons_zero, List.set_cons_succ, Nat.reduceAdd, Nat.reduceEqDiff, reduceIte] at hK ⊢
   refine step_load (arr_load HRV.out ((hbq.block _ (Array.getElem?_eq_some_iff.1 X2b.out).1).trans X2b.out)) (.tmp 7) rfl rfl rfl ?_
   exact hK _ _ (Below.refl _ _) rfl
  ·intro t wq hbq hh K hK
   have e4 := hh.1
   simp only [pick] at e4
   replace e4 : t 4 = (.agg RV) := e4
   clear hh
   simp only [filled, upd, Have, is, any, row, pick, Act.put, List.setIfInBounds_toArray, List.set_cons_zero, List.set_cons_succ, Nat.reduceAdd, Nat.reduceEqDiff, reduceIte] at hK ⊢
   simp only [e4] at hK ⊢
   go_simp
   refine (HN.out _ (bel HB2.out hbq)).mono ?_
   rintro e w9 ⟨rfl, hb9⟩
   exact hK _ _ hb9 rfl
  ·intro t wq hbq hh K hK
   have e3 := hh.1
   simp only [pick] at e3
   replace e3 : t 3 = (.string (strOf T2)) := e3
   have e5 := hh.2.1
   simp only [pick] at e5
   replace e5 : t 5 = (.string (strOf N)) := e5
   clear hh
   simp only [filled, upd, Have, is, any, row, pick, Act.put, List.setIfInBounds_toArray, List.set_cons_zero, List.set_cons_succ, Nat.reduceAdd, Nat.reduceEqDiff, reduceIte] at hK ⊢
   simp only [e3, e5] at hK ⊢
   have had := HA3.out wq
   go_simp
   exact hK _ _ (Below.refl _ _) rfl
  ·intro t wq hbq hh K hK
   have e6 := hh.1
   simp only [pick] at e6
   replace e6 : t 6 = (.string (strOf T)) := e6
   clear hh
   simp only [filled, upd, Have, is, any, row, pick, Act.put, List.setIfInBounds_toArray, List.set_cons_zero, List.set_cons_succ, Nat.reduceAdd, Nat.reduceEqDiff, reduceIte] at hK ⊢
   simp only [e6] at hK ⊢
   go_simp
   exact hK _ _ (Below.refl _ _) rfl
 ·intro t wq hbq hh
  have f7 := have_get hh 7 (by decide)
  simp only [pick] at f7
  replace f7 : t 7 = (.string (strOf T)) := f7
  clear hh
  simp only [filled, upd, Have, is, any, row, pick, Act.put, List.setIfInBounds_toArray, List.set_cons_zero, List.set_cons_succ, Nat.reduceAdd, Nat.reduceEqDiff, reduceIte]
  simp only [f7]
  have X1c := hid (X1b.out.below hbq)
  have HB3 := hid (bel HB2.out hbq)
  clear X1b X2b HB2 hbq
  have HS3 := hid (HS0.out.below HB3.out)
  go_wp2_with fail
  refine (find_any B g room l (strOf T) _ HS3.out hl).mono ?_
  obtain ⟨k, hk⟩ : ∃ k, idx l (strOf T) = some k := Option.isSome_iff_exists.1 HI.out
  rw [hk]
  rintro e w4 ⟨rfl, hb4⟩
  have X1d := hid (X1c.out.below hb4)
  have HB4 := hid (bel HB3.out hb4)
  clear X1c HB3 hb4
  rw [show plc (some k) = (k : Int) from rfl]
  go_wp2
  go_ret2
  exact ⟨rfl, HB4.out⟩
set_option maxRecDepth 100000 in
set_option maxHeartbeats 4000000 in
theorem reg_full (B g room : Nat) (l : List (Ent (Int))) (s h : ByteArray) (p n : Int) (x : Int) (RV : Array Value) (P N T : List UInt8) (w : World) (hS : IsS 114 121 (Value.int .i64) B g room l w) (hm : room ≤ 64) (hl : l.length ≤ 64) (hr : room ≤ l.length) (hi : idx l (strOf T) = none) (hT : T = [98, 108, 111, 98, 58] ++ P ++ [47] ++ N) (hPl : P.length ≤ 100000) (hNl : N.length ≤ 1000) (hRV : RV.size = 16)
  (HR : Hid (∀ w', Below w.heap.size w w' → Calls Tryz.prog 51 #[.agg #[.string s, .string h, .int .i64 p, .int .i64 n]] w' fun e w'' => e = .returned (.bool true) ∧ Below w'.heap.size w' w''))
  (HP : Hid (∀ w', Below w.heap.size w w' → Calls Tryz.prog 52 #[.agg #[.string s, .string h, .int .i64 p, .int .i64 n]] w' fun e w'' => e = .returned (.string (strOf P)) ∧ Below w'.heap.size w' w''))
  (HN : Hid (∀ w', Below w.heap.size w w' → Calls Tryz.prog 53 #[.agg RV] w' fun e w'' => e = .returned (.string (strOf N)) ∧ Below w'.heap.size w' w'')) :
  Calls Tryz.prog 17 #[.pointer (some ⟨g, 0, none⟩), .agg #[.string s, .string h, .int .i64 p, .int .i64 n], .int .i64 x, .agg RV] w fun e w' => e = .returned (.tuple #[.string ⟨#[]⟩, .int .i64 4]) ∧ Below w.heap.size w w' := by
 have HS0 := hid hS
 have hBw : B ≤ w.heap.size := by obtain ⟨_, _, _, h3⟩ := hS; exact Nat.le_trans h3 (Nat.le_of_lt HS0.out.lt)
 have HI := hid hi
 have HRV := hid hRV
 obtain ⟨T1, hT1⟩ : ∃ x, x = [98, 108, 111, 98, 58] ++ P := ⟨_, rfl⟩
 obtain ⟨T2, hT2⟩ : ∃ x, x = T1 ++ [47] := ⟨_, rfl⟩
 have hT3 : T = T2 ++ N := by rw [hT, hT2, hT1]
 have hl1 : T1.length ≤ 100005 := by rw [hT1]; simp only [List.length_append, List.length_cons, List.length_nil]; omega
 have hl2 : T2.length ≤ 100006 := by rw [hT2]; simp only [List.length_append, List.length_cons, List.length_nil]; omega
 have HA1 : Hid (∀ w : World, (Op.stringOp .add ⟨#[98, 108, 111, 98, 58]⟩ (strOf P)).run Tryz.prog w = .ok (.string (strOf T1)) w) := fun w => by rw [hT1]; exact str_add' ⟨#[98, 108, 111, 98, 58]⟩ (strOf P) w (by rw [size_strOf]; show 5 + _ ≤ _; omega)
 have HA2 : Hid (∀ w : World, (Op.stringOp .add (strOf T1) ⟨#[47]⟩).run Tryz.prog w = .ok (.string (strOf T2)) w) := fun w => by rw [hT2]; exact str_add' (strOf T1) ⟨#[47]⟩ w (by rw [size_strOf]; show _ + 1 ≤ _; omega)
 have HA3 : Hid (∀ w : World, (Op.stringOp .add (strOf T2) (strOf N)).run Tryz.prog w = .ok (.string (strOf T)) w) := fun w => by rw [hT3]; exact str_add' (strOf T2) (strOf N) w (by rw [size_strOf, size_strOf]; omega)
 clear hT hT1 hT2 hT3 hl1 hl2 hPl hNl hS hi hRV
 go_enter Tryz.func17, Tryz.ntmps17
 go_upto_region 1 with (fail)
 generalize hwa : World.alloc (World.alloc w _) _ = v1
 have h1_ : OB v1 w.heap.size s h p n ∧ v1.heap[w.heap.size + 1]? = some (.cells RV 31 (0, 0)) ∧ Below w.heap.size w v1 := by
  subst hwa
  exact laid2 w _ _ _ _
 clear hwa
 have X1 := hid h1_.1
 have X2 := hid h1_.2.1
 have HB1 := hid h1_.2.2
 clear h1_
 obtain ⟨d0, d1, d2, d3⟩ := X1.out.facts
 go_wp2_with fail
 refine (HR.out _ HB1.out).mono ?_
 rintro e v2 ⟨rfl, hb2⟩
 clear d0 d1 d2 d3
 have X1b := hid (X1.out.below hb2)
 have X2b := hid ((hb2.block _ (Array.getElem?_eq_some_iff.1 X2.out).1).trans X2.out)
 have HB2 := hid (bel HB1.out hb2)
 clear X1 X2 HB1 hb2
 go_upto_region 3 with (fail)
 refine wp_region_rel (by kernel_rfl) [is (.agg #[.string s, .string h, .int .i64 p, .int .i64 n]), is (.string (strOf P)), is (.string (strOf T1)), is (.string (strOf T2)), is (.agg RV), is (.string (strOf N)), is (.string (strOf T)), is (.string (strOf T))] [[], [0], [1], [2], [], [4], [3, 5], [6]] (by kernel_rfl) ?_ ?_
 ·refine ⟨?_, ?_, ?_, ?_, ?_, ?_, ?_, ?_, trivial⟩
  ·intro t wq hbq hh K hK
   clear hh
   simp only [filled, upd, Have, is, any, row, pick, Act.put, List.setIfInBounds_toArray, List.set_cons_zero, List.set_cons_succ, Nat.reduceAdd, Nat.reduceEqDiff, reduceIte] at hK ⊢
   refine step_load (ob_load (X1b.out.below hbq)) (.tmp 5) rfl rfl rfl ?_
   exact hK _ _ (Below.refl _ _) rfl
  ·intro t wq hbq hh K hK
   have e0 := hh.1
   simp only [pick] at e0
   replace e0 : t 0 = (.agg #[.string s, .string h, .int .i64 p, .int .i64 n]) := e0
   clear hh
   simp only [filled, upd, Have, is, any, row, pick, Act.put, List.setIfInBounds_toArray, List.set_cons_zero, List.set_cons_succ, Nat.reduceAdd, Nat.reduceEqDiff, reduceIte] at hK ⊢
   simp only [e0] at hK ⊢
   go_simp
   refine (HP.out _ (bel HB2.out hbq)).mono ?_
   rintro e w9 ⟨rfl, hb9⟩
   exact hK _ _ hb9 rfl
  ·intro t wq hbq hh K hK
   have e1 := hh.1
   simp only [pick] at e1
   replace e1 : t 1 = (.string (strOf P)) := e1
   clear hh
   simp only [filled, upd, Have, is, any, row, pick, Act.put, List.setIfInBounds_toArray, List.set_cons_zero, List.set_cons_succ, Nat.reduceAdd, Nat.reduceEqDiff, reduceIte] at hK ⊢
   simp only [e1] at hK ⊢
   have had := HA1.out wq
   go_simp
   exact hK _ _ (Below.refl _ _) rfl
  ·intro t wq hbq hh K hK
   have e2 := hh.1
   simp only [pick] at e2
   replace e2 : t 2 = (.string (strOf T1)) := e2
   clear hh
   simp only [filled, upd, Have, is, any, row, pick, Act.put, List.setIfInBounds_toArray, List.set_cons_zero, List.set_cons_succ, Nat.reduceAdd, Nat.reduceEqDiff, reduceIte] at hK ⊢
   simp only [e2] at hK ⊢
   have had := HA2.out wq
   go_simp
   exact hK _ _ (Below.refl _ _) rfl
  ·intro t wq hbq hh K hK
   clear hh
   simp only [filled, upd, Have, is, any, row, pick, Act.put, List.setIfInBounds_toArray, List.set_cons_zero, List.set_cons_succ, Nat.reduceAdd, Nat.reduceEqDiff, reduceIte] at hK ⊢
   refine step_load (arr_load HRV.out ((hbq.block _ (Array.getElem?_eq_some_iff.1 X2b.out).1).trans X2b.out)) (.tmp 7) rfl rfl rfl ?_
   exact hK _ _ (Below.refl _ _) rfl
  ·intro t wq hbq hh K hK
   have e4 := hh.1
   simp only [pick] at e4
   replace e4 : t 4 = (.agg RV) := e4
   clear hh
   simp only [filled, upd, Have, is, any, row, pick, Act.put, List.setIfInBounds_toArray, List.set_cons_zero, List.set_cons_succ, Nat.reduceAdd, Nat.reduceEqDiff, reduceIte] at hK ⊢
   simp only [e4] at hK ⊢
   go_simp
   refine (HN.out _ (bel HB2.out hbq)).mono ?_
   rintro e w9 ⟨rfl, hb9⟩
   exact hK _ _ hb9 rfl
  ·intro t wq hbq hh K hK
   have e3 := hh.1
   simp only [pick] at e3
   replace e3 : t 3 = (.string (strOf T2)) := e3
   have e5 := hh.2.1
   simp only [pick] at e5
   replace e5 : t 5 = (.string (strOf N)) := e5
   clear hh
   simp only [filled, upd, Have, is, any, row, pick, Act.put, List.setIfInBounds_toArray, List.set_cons_zero, List.set_cons_succ, Nat.reduceAdd, Nat.reduceEqDiff, reduceIte] at hK ⊢
   simp only [e3, e5] at hK ⊢
   have had := HA3.out wq
   go_simp
   exact hK _ _ (Below.refl _ _) rfl
  ·intro t wq hbq hh K hK
   have e6 := hh.1
   simp only [pick] at e6
   replace e6 : t 6 = (.string (strOf T)) := e6
   clear hh
   simp only [filled, upd, Have, is, any, row, pick, Act.put, List.setIfInBounds_toArray, List.set_cons_zero, List.set_cons_succ, Nat.reduceAdd, Nat.reduceEqDiff, reduceIte] at hK ⊢
   simp only [e6] at hK ⊢
   go_simp
   exact hK _ _ (Below.refl _ _) rfl
 ·intro t wq hbq hh
  have f7 := have_get hh 7 (by decide)
  simp only [pick] at f7
  replace f7 : t 7 = (.string (strOf T)) := f7
  clear hh
  simp only [filled, upd, Have, is, any, row, pick, Act.put, List.setIfInBounds_toArray, List.set_cons_zero, List.set_cons_succ, Nat.reduceAdd, Nat.reduceEqDiff, reduceIte]
  simp only [f7]
  have X1c := hid (X1b.out.below hbq)
  have HB3 := hid (bel HB2.out hbq)
  clear X1b X2b HB2 hbq
  have HS3 := hid (HS0.out.below HB3.out)
  go_wp2_with fail
  refine (find_any B g room l (strOf T) _ HS3.out hl).mono ?_
  rw [HI.out]
  rintro e w4 ⟨rfl, hb4⟩
  have X1d := hid (X1c.out.below hb4)
  have HB4 := hid (bel HB3.out hb4)
  clear X1c HB3 hb4
  rw [show plc none = -1 from rfl]
  have HS4 := hid (HS0.out.below HB4.out)
  obtain ⟨v, hv, hown, hBg⟩ := HS4.out
  obtain ⟨A, c, rfl, hnc, hcm, _⟩ := own_cells hown
  obtain ⟨c0, c1⟩ := cells2 hv
  have hlti := HS4.out.lt
  clear HS3
  have hroom : (room : Int) ≤ (l.length : Int) := by omega
  have hll : (l.length : Int) ≤ 64 := by omega
  go_wp2_with fail
  go_quiet (fail)
  go_wp2
  go_ret2
  exact ⟨rfl, Base.below_drewN HB4.out _⟩
end Go.Proofs.YthajldjmplfnaaaGreatDoor.StoJ
