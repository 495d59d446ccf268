/- The law ScriptParts. -/
import Derived.Test.YtafnekilnbhhlaaLaw28b
namespace Go.Proofs.Ytafnekilnbhhlaa.Laws
open Go.RowKit Go.Proofs.Ytafnekilnbhhlaa.Base Go.Proofs.Ytafnekilnbhhlaa.Base2 Go.Proofs.Ytafnekilnbhhlaa.Base3 Go.Proofs.Ytafnekilnbhhlaa.Regs Go.Proofs.Ytafnekilnbhhlaa.AnsP Go.Proofs.Ytafnekilnbhhlaa.ScrP Go.Proofs.Ytafnekilnbhhlaa.ScrB Go.Proofs.Ytafnekilnbhhlaa.ScrW Go.Proofs.Ytafnekilnbhhlaa.ScrG Go.Proofs.Ytafnekilnbhhlaa.ScrO Go.Proofs.Ytafnekilnbhhlaa.ScrX

theorem step_slice {ops : Array Oper} {p : Oper} {a : Act} {w : World} {Q : Exit → Act → World → Prop} {K : Act → World → Prop} {E : Prop} {ys : Array Value} {ty : TypeId} {s v : Value} {vl vh : Option Value} (hl : (Instr.sliceAt ty s vl vh none).run Try.prog w = .ok v w) (x : Operand) (lo hi : Option Operand) (ho : p.op = .slice ty x lo hi none) (hgd : p.guard = none) (hx : a.eval x = s) (hlh : (lo.map a.eval, hi.map a.eval) = (vl, vh))
    (h : K (a.put p.dst v) w) : if Region.wanted p (yielded ops ys) = true then Oper.wp Try.prog p a w K Q else E := by
  rw [if_pos (by simp [Region.wanted, hgd])]
  injection hlh with h1 h2
  unfold Oper.wp execOp
  simp only [ho, hx, h1, h2, Option.map_none, Sem.run_bind, Sem.run_pure, Result.andThen_ok, hl]
  exact h
theorem cut_upto (A : Option Addr) (n cap m : Nat) (l : List O) (hm : m ≤ n) (hc : n ≤ cap) : ∃ A2 c2, (∀ W, (Instr.sliceAt 22 (.slice A n cap) none (some (.int .i64 (m : Int))) none).run Try.prog W = .ok (.slice A2 m c2) W) ∧ (∀ W, Ops W A n l → Ops W A2 m (l.take m)) := by
  have hs : ∀ W, (sizeOf 37).run Try.prog W = .ok 27 W := fun W => by
    have hi : (Try.prog.info? 37).map (·.size) = some 27 := by kernel_rfl
    cases hq : Try.prog.info? 37 with
    | none => simp [hq] at hi
    | some i =>
      have hs : i.size = 27 := by simpa [hq] using hi
      simp [sizeOf, typeInfo, hq, hs]
  have hu : Try.prog.underlying 22 = some (.slice 37) := Try.underlying22
  have hmc : m ≤ cap := by omega
  refine ⟨if cap = 0 then A else A.map (·.add (0 * 27)), cap, fun W => ?_, fun W h => ?_⟩
  · simp [Instr.sliceAt, Instr.slice, run_underlying hu, Instr.sliceBounds, Instr.sliceBound, asIntOf, hs, hmc, Sem.run_bind]
  · have e : Ops W A m (l.take m) := by
      refine ⟨by rw [List.length_take, h.1]; omega, ⟨?_, fun j hj => ?_⟩, fun o ho => h.2.2 o (List.mem_of_mem_take ho)⟩
      · rw [flat_len _ fun o ho => h.2.2 o (List.mem_of_mem_take ho), List.length_take, h.1]; congr 1; omega
      · have hsp : l.flatMap cells = (l.take m).flatMap cells ++ (l.drop m).flatMap cells := by rw [← List.flatMap_append, List.take_append_drop]
        obtain ⟨b, off, e1, e2, e3⟩ := h.2.1.2 j (by rw [hsp, List.length_append]; omega)
        refine ⟨b, off, e1, e2, e3.trans ?_⟩
        congr 1
        simp only [hsp]
        rw [List.getElem_append_left hj]
    split
    · exact e
    · cases A with
      | none => exact e
      | some ad =>
        have ha : ad.add (0 * 27) = ad := by rw [Nat.zero_mul]; unfold Addr.add; split <;> simp_all
        rw [Option.map_some, ha]
        exact e
theorem cut_from (A : Option Addr) (n cap m : Nat) (l : List O) (hm : m ≤ n) (hc : n ≤ cap) : ∃ A2 c2, (∀ W, (Instr.sliceAt 22 (.slice A n cap) (some (.int .i64 (m : Int))) none none).run Try.prog W = .ok (.slice A2 (n - m) c2) W) ∧ (∀ W, Ops W A n l → Ops W A2 (n - m) (l.drop m)) := by
  have hs : ∀ W, (sizeOf 37).run Try.prog W = .ok 27 W := fun W => by
    have hi : (Try.prog.info? 37).map (·.size) = some 27 := by kernel_rfl
    cases hq : Try.prog.info? 37 with
    | none => simp [hq] at hi
    | some i =>
      have hs : i.size = 27 := by simpa [hq] using hi
      simp [sizeOf, typeInfo, hq, hs]
  have hu : Try.prog.underlying 22 = some (.slice 37) := Try.underlying22
  refine ⟨if cap = m then A else A.map (·.add (m * 27)), cap - m, fun W => ?_, fun W h => ?_⟩
  · simp [Instr.sliceAt, Instr.slice, run_underlying hu, Instr.sliceBounds, Instr.sliceBound, asIntOf, hs, hm, Sem.run_bind]
  · by_cases hcm : cap = m
    · rw [if_pos hcm]
      have e : l.drop m = [] := List.drop_eq_nil_of_le (by rw [h.1]; omega)
      have e2 : n - m = 0 := by omega
      rw [e, e2]
      exact ⟨rfl, Rds.nil _, by simp⟩
    · rw [if_neg hcm]
      refine ⟨by rw [List.length_drop, h.1], ⟨?_, fun j hj => ?_⟩, fun o ho => h.2.2 o (List.mem_of_mem_drop ho)⟩
      · rw [flat_len _ fun o ho => h.2.2 o (List.mem_of_mem_drop ho), List.length_drop, h.1]
      · have hsp : l.flatMap cells = (l.take m).flatMap cells ++ (l.drop m).flatMap cells := by rw [← List.flatMap_append, List.take_append_drop]
        have hlt : ((l.take m).flatMap cells).length = m * 27 := by rw [flat_len _ fun o ho => h.2.2 o (List.mem_of_mem_take ho), List.length_take, h.1]; congr 1; omega
        obtain ⟨b, off, rfl, e2, e3⟩ := h.2.1.2 (m * 27 + j) (by rw [hsp, List.length_append, hlt]; omega)
        refine ⟨b, off + m * 27, by rw [Option.map_some, AnsW.add_at'], e2, ?_⟩
        rw [Nat.add_assoc, e3]
        congr 1
        simp only [hsp]
        rw [List.getElem_append_right (by rw [hlt]; omega)]
        simp only [hlt, Nat.add_sub_cancel_left]
set_option linter.unusedSimpArgs false in
set_option maxRecDepth 100000 in
set_option maxHeartbeats 16000000 in
/-- The walk of the law ScriptParts. -/
theorem ScriptParts_any (A : Option Addr) (n cap : Nat) (l : List O) (z : Int) (w : World) (h : In w A n cap l) (bz : 0 ≤ z ∧ z ≤ 255) :
    Calls Try.prog 6 #[.slice A n cap, .int .u8 z] w fun e w' => e = .returned (.bool true) ∧ Below w.heap.size w w' := by
  have hnm : n ≤ maxLen := Nat.le_trans h.le h.lm
  have HNM := hid hnm
  have HIN := hid h
  have HLN : Hid (l.length = n) := h.ops.1
  clear h hnm
  cases hf : fewB l with
  | false =>
    have HF := hid hf
    clear hf
    go_enter Try.func6, Try.ntmps6
    go_wp2_with fail
    refine (awake_any _).mono ?_
    rintro e w1 ⟨rfl, hb⟩
    have HB1 := hid hb
    clear hb
    go_wp2_with fail
    refine (few_any A n cap l _ (HIN.out.ops.below HB1.out) HIN.out.far HNM.out).mono ?_
    rw [HF.out]
    rintro e w2 ⟨rfl, hb⟩
    have HB2 := hid (bel HB1.out hb)
    clear hb
    go_wp2_with fail
    refine (awake_any _).mono ?_
    rintro e w3 ⟨rfl, hb⟩
    have HB3 := hid (bel HB2.out hb)
    clear hb
    go_wp2
    go_ret
    exact ⟨rfl, HB3.out⟩
  | true =>
    have HF := hid hf
    have HSM := hid (few_small hf HIN.out.bnd).1
    have hn30 : n ≤ 30 := by have := (few_small hf HIN.out.bnd).2; rw [HLN.out] at this; exact this
    have HN : Hid (n ≤ 30) := hn30
    obtain ⟨zn, rfl⟩ : ∃ k : Nat, z = (k : Int) := ⟨z.toNat, by omega⟩
    obtain ⟨m, hm⟩ : ∃ m, m = zn % (n + 1) := ⟨_, rfl⟩
    have hmn : m ≤ n := by have := Nat.mod_lt zn (show 0 < n + 1 by omega); omega
    have htm : (zn : Int).tmod ((n : Int) + 1) = (m : Int) := by
      rw [Int.tmod_eq_emod_of_nonneg (by omega), hm, Int.natCast_emod]
      congr 1
    have hzn : (zn : Int) ≤ 255 := bz.2
    have hni : (n : Int) ≤ 30 := by omega
    have hn0 : ¬ (n : Int) + 1 = 0 := by omega
    obtain ⟨Au, cu, hu1, hu2⟩ := cut_upto A n cap m l hmn HIN.out.le
    obtain ⟨Ad, cd, hd1, hd2⟩ := cut_from A n cap m l hmn HIN.out.le
    have HU1 := hid hu1
    have HU2 := hid hu2
    have HD1 := hid hd1
    have HD2 := hid hd2
    obtain ⟨X1, hx1⟩ : ∃ X, X = encs (l.take m) := ⟨_, rfl⟩
    obtain ⟨X2, hx2⟩ : ∃ X, X = encs (l.drop m) := ⟨_, rfl⟩
    obtain ⟨X3, hx3⟩ : ∃ X, X = encs l := ⟨_, rfl⟩
    have HX1 : Hid (encs (l.take m) = X1) := hx1.symm
    have HX2 : Hid (encs (l.drop m) = X2) := hx2.symm
    have HX3 : Hid (encs l = X3) := hx3.symm
    have HXX : Hid (X1 ++ X2 = X3) := by show _ = _; rw [hx1, hx2, hx3, ← encs_append, List.take_append_drop]
    have HXL : Hid (X3.length ≤ 32220) := by rw [hx3]; exact few_len hf HIN.out.bnd
    have HMN : Hid (m ≤ n) := hmn
    clear hf hn30 hm hmn bz hu1 hu2 hd1 hd2 hx1 hx2 hx3
    go_enter Try.func6, Try.ntmps6
    go_wp2_with fail
    refine (awake_any _).mono ?_
    rintro e w1 ⟨rfl, hb⟩
    have HB1 := hid hb
    clear hb
    go_wp2_with fail
    refine (few_any A n cap l _ (HIN.out.ops.below HB1.out) HIN.out.far HNM.out).mono ?_
    rw [HF.out]
    rintro e w3 ⟨rfl, hb⟩
    have HB3 := hid (bel HB1.out hb)
    have HO := hid (HIN.out.ops.below HB3.out)
    clear hb HB1
    go_wp2_with fail
    refine wp_region_rel (by kernel_rfl) [is (.slice A n cap), is (.int .i64 (m : Int)), is (.slice Au m cu), row X1.length (bcells X1), is (.slice A n cap), is (.int .i64 (m : Int)), is (.slice Ad (n - m) cd), row X2.length (bcells X2), is (.slice A n cap), row X3.length (bcells X3), row X1.length (bcells X1), row X2.length (bcells X2), row X3.length (bcells X3)] [[], [], [0, 1], [2], [], [], [4, 5], [6], [], [8], [3], [7], [9]] (by kernel_rfl) ?_ ?_
    · refine ⟨?_, ?_, ?_, ?_, ?_, ?_, ?_, ?_, ?_, ?_, ?_, ?_, ?_, trivial⟩
      · intro t wq hbq hh K hK
        clear hh
        simp only [filled, upd, Have, is, any, row, pick, Act.put, List.setIfInBounds_toArray, List.set_cons_zero, List.set_cons_succ, Nat.reduceAdd, Nat.reduceEqDiff, reduceIte] at hK ⊢
        go_simp
        exact hK _ _ (Below.refl _ _) rfl
      · intro t wq hbq hh K hK
        clear hh
        simp only [filled, upd, Have, is, any, row, pick, Act.put, List.setIfInBounds_toArray, List.set_cons_zero, List.set_cons_succ, Nat.reduceAdd, Nat.reduceEqDiff, reduceIte] at hK ⊢
        go_simp
        exact hK _ _ (Below.refl _ _) rfl
      · intro t wq hbq hh K hK
        have e0 := hh.1
        simp only [pick] at e0
        replace e0 : t 0 = (.slice A n cap) := e0
        have e1 := hh.2.1
        simp only [pick] at e1
        replace e1 : t 1 = (.int .i64 (m : Int)) := e1
        clear hh
        simp only [filled, upd, Have, is, any, row, pick, Act.put, List.setIfInBounds_toArray, List.set_cons_zero, List.set_cons_succ, Nat.reduceAdd, Nat.reduceEqDiff, reduceIte] at hK ⊢
        simp only [e0, e1] at hK ⊢
        refine step_slice (HU1.out wq) (.tmp 23) none (some (.tmp 24)) rfl rfl rfl rfl ?_
        exact hK _ _ (Below.refl _ _) rfl
      · intro t wq hbq hh K hK
        have e2 := hh.1
        simp only [pick] at e2
        replace e2 : t 2 = (.slice Au m cu) := e2
        clear hh
        simp only [filled, upd, Have, is, any, row, pick, Act.put, List.setIfInBounds_toArray, List.set_cons_zero, List.set_cons_succ, Nat.reduceAdd, Nat.reduceEqDiff, reduceIte] at hK ⊢
        simp only [e2] at hK ⊢
        go_simp
        go_simp
        refine (ScrE.encode_any Au m cu (l.take m) _ (HU2.out _ (HO.out.below hbq)) (fun o ho => HSM.out o (List.mem_of_mem_take ho)) (by have := HN.out; have := HMN.out; omega)).mono ?_
        rintro e w9 ⟨v9, rfl, hown9, hb9⟩
        rw [HX1.out] at hown9
        obtain ⟨A9, c9, rfl, h91, h92, h93⟩ := owns_form hown9
        exact hK _ _ hb9 ⟨A9, c9, rfl, h91, h92, h93⟩
      · intro t wq hbq hh K hK
        clear hh
        simp only [filled, upd, Have, is, any, row, pick, Act.put, List.setIfInBounds_toArray, List.set_cons_zero, List.set_cons_succ, Nat.reduceAdd, Nat.reduceEqDiff, reduceIte] at hK ⊢
        go_simp
        exact hK _ _ (Below.refl _ _) rfl
      · intro t wq hbq hh K hK
        clear hh
        simp only [filled, upd, Have, is, any, row, pick, Act.put, List.setIfInBounds_toArray, List.set_cons_zero, List.set_cons_succ, Nat.reduceAdd, Nat.reduceEqDiff, reduceIte] at hK ⊢
        go_simp
        exact hK _ _ (Below.refl _ _) rfl
      · intro t wq hbq hh K hK
        have e4 := hh.1
        simp only [pick] at e4
        replace e4 : t 4 = (.slice A n cap) := e4
        have e5 := hh.2.1
        simp only [pick] at e5
        replace e5 : t 5 = (.int .i64 (m : Int)) := e5
        clear hh
        simp only [filled, upd, Have, is, any, row, pick, Act.put, List.setIfInBounds_toArray, List.set_cons_zero, List.set_cons_succ, Nat.reduceAdd, Nat.reduceEqDiff, reduceIte] at hK ⊢
        simp only [e4, e5] at hK ⊢
        refine step_slice (HD1.out wq) (.tmp 27) (some (.tmp 28)) none rfl rfl rfl rfl ?_
        exact hK _ _ (Below.refl _ _) rfl
      · intro t wq hbq hh K hK
        have e6 := hh.1
        simp only [pick] at e6
        replace e6 : t 6 = (.slice Ad (n - m) cd) := e6
        clear hh
        simp only [filled, upd, Have, is, any, row, pick, Act.put, List.setIfInBounds_toArray, List.set_cons_zero, List.set_cons_succ, Nat.reduceAdd, Nat.reduceEqDiff, reduceIte] at hK ⊢
        simp only [e6] at hK ⊢
        go_simp
        go_simp
        refine (ScrE.encode_any Ad (n - m) cd (l.drop m) _ (HD2.out _ (HO.out.below hbq)) (fun o ho => HSM.out o (List.mem_of_mem_drop ho)) (by have := HN.out; have := HMN.out; omega)).mono ?_
        rintro e w9 ⟨v9, rfl, hown9, hb9⟩
        rw [HX2.out] at hown9
        obtain ⟨A9, c9, rfl, h91, h92, h93⟩ := owns_form hown9
        exact hK _ _ hb9 ⟨A9, c9, rfl, h91, h92, h93⟩
      · intro t wq hbq hh K hK
        clear hh
        simp only [filled, upd, Have, is, any, row, pick, Act.put, List.setIfInBounds_toArray, List.set_cons_zero, List.set_cons_succ, Nat.reduceAdd, Nat.reduceEqDiff, reduceIte] at hK ⊢
        go_simp
        exact hK _ _ (Below.refl _ _) rfl
      · intro t wq hbq hh K hK
        have e8 := hh.1
        simp only [pick] at e8
        replace e8 : t 8 = (.slice A n cap) := e8
        clear hh
        simp only [filled, upd, Have, is, any, row, pick, Act.put, List.setIfInBounds_toArray, List.set_cons_zero, List.set_cons_succ, Nat.reduceAdd, Nat.reduceEqDiff, reduceIte] at hK ⊢
        simp only [e8] at hK ⊢
        go_simp
        go_simp
        refine (ScrE.encode_any A n cap (l) _ (HO.out.below hbq) (fun o ho => HSM.out o (ho)) (by have := HN.out; have := HMN.out; omega)).mono ?_
        rintro e w9 ⟨v9, rfl, hown9, hb9⟩
        rw [HX3.out] at hown9
        obtain ⟨A9, c9, rfl, h91, h92, h93⟩ := owns_form hown9
        exact hK _ _ hb9 ⟨A9, c9, rfl, h91, h92, h93⟩
      · intro t wq hbq hh K hK
        have e3 := hh.1
        simp only [pick] at e3
        clear hh
        simp only [filled, upd, Have, is, any, row, pick, Act.put, List.setIfInBounds_toArray, List.set_cons_zero, List.set_cons_succ, Nat.reduceAdd, Nat.reduceEqDiff, reduceIte] at hK ⊢
        obtain ⟨A3, c3, e3, hc3, hm3, hr3⟩ := e3
        simp only [e3] at hK ⊢
        go_simp
        go_simp
        exact hK _ _ (Below.refl _ _) ⟨_, _, rfl, hc3, hm3, hr3⟩
      · intro t wq hbq hh K hK
        have e7 := hh.1
        simp only [pick] at e7
        clear hh
        simp only [filled, upd, Have, is, any, row, pick, Act.put, List.setIfInBounds_toArray, List.set_cons_zero, List.set_cons_succ, Nat.reduceAdd, Nat.reduceEqDiff, reduceIte] at hK ⊢
        obtain ⟨A7, c7, e7, hc7, hm7, hr7⟩ := e7
        simp only [e7] at hK ⊢
        go_simp
        go_simp
        exact hK _ _ (Below.refl _ _) ⟨_, _, rfl, hc7, hm7, hr7⟩
      · intro t wq hbq hh K hK
        have e9 := hh.1
        simp only [pick] at e9
        clear hh
        simp only [filled, upd, Have, is, any, row, pick, Act.put, List.setIfInBounds_toArray, List.set_cons_zero, List.set_cons_succ, Nat.reduceAdd, Nat.reduceEqDiff, reduceIte] at hK ⊢
        obtain ⟨A9, c9, e9, hc9, hm9, hr9⟩ := e9
        simp only [e9] at hK ⊢
        go_simp
        go_simp
        exact hK _ _ (Below.refl _ _) ⟨_, _, rfl, hc9, hm9, hr9⟩
    · intro t wq hbq hh
      have f10 := have_get hh 10 (by decide)
      simp only [pick] at f10
      have f11 := have_get hh 11 (by decide)
      simp only [pick] at f11
      have f12 := have_get hh 12 (by decide)
      simp only [pick] at f12
      clear hh
      simp only [filled, upd, Have, is, any, row, pick, Act.put, List.setIfInBounds_toArray, List.set_cons_zero, List.set_cons_succ, Nat.reduceAdd, Nat.reduceEqDiff, reduceIte]
      obtain ⟨A10, c10, f10, hc10, hm10, hr10⟩ := f10
      obtain ⟨A11, c11, f11, hc11, hm11, hr11⟩ := f11
      obtain ⟨A12, c12, f12, hc12, hm12, hr12⟩ := f12
      simp only [f10, f11, f12]
      have HB4 := hid (bel HB3.out hbq)
      have HE1 := hid hr10
      have HE2 := hid hr11
      have HE3 := hid hr12
      have hs1 := fun W (h : Rds W A10 X1.length (bcells X1)) => run_string_of (P := Try.prog) 25 9 5 Try.underlying25 Try.underlying5 Try.underlying9 X1 c10 h
      have hs2 := fun W (h : Rds W A11 X2.length (bcells X2)) => run_string_of (P := Try.prog) 25 9 5 Try.underlying25 Try.underlying5 Try.underlying9 X2 c11 h
      have hs3 := fun W (h : Rds W A12 X3.length (bcells X3)) => run_string_of (P := Try.prog) 25 9 5 Try.underlying25 Try.underlying5 Try.underlying9 X3 c12 h
      have hadd := fun (W : World) => str_add (P := Try.prog) X1 X2 W (by have h1 := congrArg List.length HXX.out; have h2 := HXL.out; rw [List.length_append] at h1; omega)
      rw [HXX.out] at hadd
      have hbe : ((strOf X3).toList == (strOf X3).toList) = true := by rw [Regs.str_beq]; simp
      have hr1 := hs1 _ hr10
      have hr2 := hs2 _ hr11
      have hr3 := hs3 _ hr12
      clear hs1 hs2 hs3 hr10 hr11 hr12 hbq
      go_wp2_with fail
      clear hr1 hr2 hr3 hadd hbe
      refine (ScrE.encode_any none 0 0 [] _ ⟨rfl, Rds.nil _, by simp⟩ (by simp) (by omega)).mono ?_
      rintro e w5 ⟨v5, rfl, hown5, hb5⟩
      have hown5' : w5.ownsRow wq.heap.size 5 1 v5 0 (bcells []) := hown5
      obtain ⟨A5, c5, rfl, _, _, _⟩ := owns_form hown5'
      have HB5 := hid (bel HB4.out hb5)
      clear hown5 hown5' hb5
      go_wp2
      go_ret
      exact ⟨rfl, HB5.out⟩
end Go.Proofs.Ytafnekilnbhhlaa.Laws
