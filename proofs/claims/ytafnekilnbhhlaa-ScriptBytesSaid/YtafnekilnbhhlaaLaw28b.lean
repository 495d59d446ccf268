/- The law ScriptBytes. -/
import Derived.Test.YtafnekilnbhhlaaScrX
namespace Go.Proofs.Ytafnekilnbhhlaa.Laws
open Go.RowKit Go.Proofs.Ytafnekilnbhhlaa.Base Go.Proofs.Ytafnekilnbhhlaa.Base2 Go.Proofs.Ytafnekilnbhhlaa.Base3 Go.Proofs.Ytafnekilnbhhlaa.Regs Go.Proofs.Ytafnekilnbhhlaa.AnsP Go.Proofs.Ytafnekilnbhhlaa.ScrP Go.Proofs.Ytafnekilnbhhlaa.ScrB Go.Proofs.Ytafnekilnbhhlaa.ScrW Go.Proofs.Ytafnekilnbhhlaa.ScrG Go.Proofs.Ytafnekilnbhhlaa.ScrO Go.Proofs.Ytafnekilnbhhlaa.ScrX

def mty (n : Nat) (l : List O) : Keep := ⟨fun u w => ∃ A c, u = .slice A n c ∧ Ops w A n l, fun _ _ _ hb ⟨A, c, h1, h2⟩ => ⟨A, c, h1, h2.below hb⟩⟩
theorem few_small {l : List O} (h : fewB l = true) (hb : ∀ o ∈ l, Bnd o ∧ o.r.length = 16) : (∀ o ∈ l, Small o) ∧ l.length ≤ 30 := by
  unfold fewB at h
  rw [Bool.and_eq_true, List.all_eq_true] at h
  refine ⟨fun o ho => ?_, of_decide_eq_true h.2⟩
  have h1 := of_decide_eq_true (h.1 o ho)
  obtain ⟨h2, h3⟩ := hb o ho
  exact ⟨⟨h2.k, h2.f, h2.h, h2.a, h2.b, by omega, by omega, by omega, by omega, h2.p, h2.n, h3⟩, by omega, by omega, by omega, by omega⟩
theorem few_len {l : List O} (h : fewB l = true) (hb : ∀ o ∈ l, Bnd o ∧ o.r.length = 16) : (encs l).length ≤ 32220 := by
  have h2 := (few_small h hb)
  unfold fewB at h
  rw [Bool.and_eq_true, List.all_eq_true] at h
  have := encs_len l fun o ho => ⟨(h2.1 o ho).fits, of_decide_eq_true (h.1 o ho)⟩
  omega
/-- What a law asks of operations that came in. -/
structure In (w : World) (A : Option Addr) (n cap : Nat) (l : List O) : Prop where
  ops : Ops w A n l
  far : ∀ o ∈ l, Far o
  bnd : ∀ o ∈ l, Bnd o ∧ o.r.length = 16
  le : n ≤ cap
  lm : cap ≤ maxLen

set_option linter.unusedSimpArgs false in
set_option maxRecDepth 100000 in
set_option maxHeartbeats 16000000 in
/-- The walk of the law ScriptBytes. -/
theorem ScriptBytes_any (A : Option Addr) (n cap : Nat) (l : List O) (w : World) (h : In w A n cap l) :
    Calls Try.prog 3 #[.slice A n cap] w fun e w' => e = .returned (.bool true) ∧ Below w.heap.size w w' := by
  have hnm : n ≤ maxLen := Nat.le_trans h.le h.lm
  have HNM := hid hnm
  have HIN := hid h
  have HLN : Hid (l.length = n) := h.ops.1
  clear h hnm
  cases hf : fewB l with
  | false =>
    have HF := hid hf
    clear hf
    go_enter Try.func3, Try.ntmps3
    go_wp2_with fail
    refine (awake_any _).mono ?_
    rintro e w1 ⟨rfl, hb⟩
    have HB1 := hid hb
    clear hb
    go_wp2_with fail
    refine (few_any A n cap l _ (HIN.out.ops.below HB1.out) HIN.out.far HNM.out).mono ?_
    rw [HF.out]
    rintro e w2 ⟨rfl, hb⟩
    have HB2 := hid (bel HB1.out hb)
    clear hb
    go_wp2_with fail
    refine (awake_any _).mono ?_
    rintro e w3 ⟨rfl, hb⟩
    have HB3 := hid (bel HB2.out hb)
    clear hb
    go_wp2
    go_ret
    exact ⟨rfl, HB3.out⟩
  | true =>
    have HF := hid hf
    have HSM := hid (few_small hf HIN.out.bnd).1
    have HN : Hid (n ≤ 30) := by have := (few_small hf HIN.out.bnd).2; rw [HLN.out] at this; exact this
    have HLE := hid (few_len hf HIN.out.bnd)
    have HDEC : Hid (decAll (encs l) = some l) := decAll_encs l fun o ho => (HSM.out o ho).fits
    clear hf
    go_enter Try.func3, Try.ntmps3
    go_wp2_with fail
    refine (awake_any _).mono ?_
    rintro e w1 ⟨rfl, hb⟩
    have HB1 := hid hb
    clear hb
    go_wp2_with fail
    refine (few_any A n cap l _ (HIN.out.ops.below HB1.out) HIN.out.far HNM.out).mono ?_
    rw [HF.out]
    rintro e w2 ⟨rfl, hb⟩
    have HB2 := hid (bel HB1.out hb)
    clear hb
    go_wp2_with fail
    refine (ScrE.encode_any A n cap l _ (HIN.out.ops.below HB2.out) HSM.out (by have := HN.out; omega)).mono ?_
    rintro e w3 ⟨v, rfl, hown, hb⟩
    have HB3 := hid (bel HB2.out hb)
    obtain ⟨A1, c1, rfl, hc1, hm1, hr1⟩ := owns_form hown
    have HE3 := hid hr1
    clear hb hown hr1
    go_wp2_with fail
    refine (ScrR.parse_any A1 _ c1 (encs l) _ HE3.out (by have := HLE.out; omega)).mono ?_
    rintro e w4 ⟨hb, hm⟩
    rw [HDEC.out] at hm
    obtain ⟨A2, c2, rfl, hc2, hm2, hop⟩ := hm
    rw [HLN.out] at hop ⊢
    have HB4 := hid (bel HB3.out hb)
    have HE := hid (HE3.out.below hb)
    have HM := hid hop
    have HO := hid (HIN.out.ops.below HB4.out)
    have hni : (n : Int) ≤ 30 := by have := HN.out; omega
    clear hb hop HB1 HB2 HB3 HE3 hc2 hm2
    go_wp2_with fail
    refine wp_region_rel (by kernel_rfl) [is (.slice A1 (encs l).length c1), is (.string (strOf (encs l))), is (.slice A n cap), mty n l, is (.string (strOf (encs l))), is (.bool false), is (.bool false), is (.int .i64 0), is (.bool false), is (.bool false), is (.bool false), is (.slice A2 n c2), is (.int .i64 (n : Int)), is (.slice A n cap), is (.int .i64 (n : Int)), is (.bool false), is (.bool false)] [[], [0], [], [2], [3], [1, 4], [5], [6], [6, 7], [6, 8], [9], [10], [10, 11], [10], [10, 13], [10, 12, 14], [10, 15]] (by kernel_rfl) ?_ ?_
    · refine ⟨?_, ?_, ?_, ?_, ?_, ?_, ?_, ?_, ?_, ?_, ?_, ?_, ?_, ?_, ?_, ?_, ?_, trivial⟩
      · intro t wq hbq hh K hK
        clear hh
        simp only [filled, upd, Have, is, any, row, pick, Act.put, List.setIfInBounds_toArray, List.set_cons_zero, List.set_cons_succ, Nat.reduceAdd, Nat.reduceEqDiff, reduceIte] at hK ⊢
        go_simp
        exact hK _ _ (Below.refl _ _) rfl
      · intro t wq hbq hh K hK
        have e0 := hh.1
        simp only [pick] at e0
        replace e0 : t 0 = (.slice A1 (encs l).length c1) := e0
        clear hh
        simp only [filled, upd, Have, is, any, row, pick, Act.put, List.setIfInBounds_toArray, List.set_cons_zero, List.set_cons_succ, Nat.reduceAdd, Nat.reduceEqDiff, reduceIte] at hK ⊢
        simp only [e0] at hK ⊢
        have hs := run_string_of (P := Try.prog) 25 9 5 Try.underlying25 Try.underlying5 Try.underlying9 (encs l) c1 (HE.out.below hbq)
        go_simp
        exact hK _ _ (Below.refl _ _) rfl
      · intro t wq hbq hh K hK
        clear hh
        simp only [filled, upd, Have, is, any, row, pick, Act.put, List.setIfInBounds_toArray, List.set_cons_zero, List.set_cons_succ, Nat.reduceAdd, Nat.reduceEqDiff, reduceIte] at hK ⊢
        go_simp
        exact hK _ _ (Below.refl _ _) rfl
      · intro t wq hbq hh K hK
        have e2 := hh.1
        simp only [pick] at e2
        replace e2 : t 2 = (.slice A n cap) := e2
        clear hh
        simp only [filled, upd, Have, is, any, row, pick, Act.put, List.setIfInBounds_toArray, List.set_cons_zero, List.set_cons_succ, Nat.reduceAdd, Nat.reduceEqDiff, reduceIte] at hK ⊢
        simp only [e2] at hK ⊢
        go_simp
        go_simp
        refine (ScrO.of_any A n cap l _ (HO.out.below hbq) (by have := HN.out; omega)).mono ?_
        rintro e w9 ⟨⟨A9, c9, rfl, h9⟩, hb9⟩
        exact hK _ _ hb9 ⟨A9, c9, rfl, h9⟩
      · intro t wq hbq hh K hK
        have e3 := hh.1
        simp only [pick] at e3
        clear hh
        simp only [filled, upd, Have, is, any, row, pick, Act.put, List.setIfInBounds_toArray, List.set_cons_zero, List.set_cons_succ, Nat.reduceAdd, Nat.reduceEqDiff, reduceIte] at hK ⊢
        obtain ⟨A3, c3, e3, hp3⟩ := e3
        simp only [e3] at hK ⊢
        go_simp
        go_simp
        refine (ScrF.encode_any A3 n c3 l _ hp3 HSM.out (by have := HN.out; omega)).mono ?_
        rintro e w9 ⟨rfl, hb9⟩
        exact hK _ _ hb9 rfl
      · intro t wq hbq hh K hK
        have e1 := hh.1
        simp only [pick] at e1
        replace e1 : t 1 = (.string (strOf (encs l))) := e1
        have e4 := hh.2.1
        simp only [pick] at e4
        replace e4 : t 4 = (.string (strOf (encs l))) := e4
        clear hh
        simp only [filled, upd, Have, is, any, row, pick, Act.put, List.setIfInBounds_toArray, List.set_cons_zero, List.set_cons_succ, Nat.reduceAdd, Nat.reduceEqDiff, reduceIte] at hK ⊢
        simp only [e1, e4] at hK ⊢
        have hbe : ((strOf (encs l)).toList == (strOf (encs l)).toList) = true := by rw [Regs.str_beq]; simp
        go_simp
        exact hK _ _ (Below.refl _ _) rfl
      · intro t wq hbq hh K hK
        have e5 := hh.1
        simp only [pick] at e5
        replace e5 : t 5 = (.bool false) := e5
        clear hh
        simp only [filled, upd, Have, is, any, row, pick, Act.put, List.setIfInBounds_toArray, List.set_cons_zero, List.set_cons_succ, Nat.reduceAdd, Nat.reduceEqDiff, reduceIte] at hK ⊢
        simp only [e5] at hK ⊢
        go_simp
        exact hK _ _ (Below.refl _ _) rfl
      · intro t wq hbq hh K hK
        have e6 := hh.1
        simp only [pick] at e6
        replace e6 : t 6 = (.bool false) := e6
        clear hh
        simp only [filled, upd, Have, is, any, row, pick, Act.put, List.setIfInBounds_toArray, List.set_cons_zero, List.set_cons_succ, Nat.reduceAdd, Nat.reduceEqDiff, reduceIte] at hK ⊢
        simp only [e6] at hK ⊢
        go_simp
        exact hK _ _ (Below.refl _ _) rfl
      · intro t wq hbq hh K hK
        have e6 := hh.1
        simp only [pick] at e6
        replace e6 : t 6 = (.bool false) := e6
        have e7 := hh.2.1
        simp only [pick] at e7
        replace e7 : t 7 = (.int .i64 0) := e7
        clear hh
        simp only [filled, upd, Have, is, any, row, pick, Act.put, List.setIfInBounds_toArray, List.set_cons_zero, List.set_cons_succ, Nat.reduceAdd, Nat.reduceEqDiff, reduceIte] at hK ⊢
        simp only [e6, e7] at hK ⊢
        go_simp
        first | exact hK _ _ (Below.refl _ _) rfl | exact hK _ _ (Below.refl _ _) (int_wrap (by omega) (by omega))
      · intro t wq hbq hh K hK
        have e6 := hh.1
        simp only [pick] at e6
        replace e6 : t 6 = (.bool false) := e6
        have e8 := hh.2.1
        simp only [pick] at e8
        replace e8 : t 8 = (.bool false) := e8
        clear hh
        simp only [filled, upd, Have, is, any, row, pick, Act.put, List.setIfInBounds_toArray, List.set_cons_zero, List.set_cons_succ, Nat.reduceAdd, Nat.reduceEqDiff, reduceIte] at hK ⊢
        simp only [e6, e8] at hK ⊢
        go_simp
        exact hK _ _ (Below.refl _ _) rfl
      · intro t wq hbq hh K hK
        have e9 := hh.1
        simp only [pick] at e9
        replace e9 : t 9 = (.bool false) := e9
        clear hh
        simp only [filled, upd, Have, is, any, row, pick, Act.put, List.setIfInBounds_toArray, List.set_cons_zero, List.set_cons_succ, Nat.reduceAdd, Nat.reduceEqDiff, reduceIte] at hK ⊢
        simp only [e9] at hK ⊢
        go_simp
        exact hK _ _ (Below.refl _ _) rfl
      · intro t wq hbq hh K hK
        have e10 := hh.1
        simp only [pick] at e10
        replace e10 : t 10 = (.bool false) := e10
        clear hh
        simp only [filled, upd, Have, is, any, row, pick, Act.put, List.setIfInBounds_toArray, List.set_cons_zero, List.set_cons_succ, Nat.reduceAdd, Nat.reduceEqDiff, reduceIte] at hK ⊢
        simp only [e10] at hK ⊢
        go_simp
        exact hK _ _ (Below.refl _ _) rfl
      · intro t wq hbq hh K hK
        have e10 := hh.1
        simp only [pick] at e10
        replace e10 : t 10 = (.bool false) := e10
        have e11 := hh.2.1
        simp only [pick] at e11
        replace e11 : t 11 = (.slice A2 n c2) := e11
        clear hh
        simp only [filled, upd, Have, is, any, row, pick, Act.put, List.setIfInBounds_toArray, List.set_cons_zero, List.set_cons_succ, Nat.reduceAdd, Nat.reduceEqDiff, reduceIte] at hK ⊢
        simp only [e10, e11] at hK ⊢
        go_simp
        exact hK _ _ (Below.refl _ _) rfl
      · intro t wq hbq hh K hK
        have e10 := hh.1
        simp only [pick] at e10
        replace e10 : t 10 = (.bool false) := e10
        clear hh
        simp only [filled, upd, Have, is, any, row, pick, Act.put, List.setIfInBounds_toArray, List.set_cons_zero, List.set_cons_succ, Nat.reduceAdd, Nat.reduceEqDiff, reduceIte] at hK ⊢
        simp only [e10] at hK ⊢
        go_simp
        exact hK _ _ (Below.refl _ _) rfl
      · intro t wq hbq hh K hK
        have e10 := hh.1
        simp only [pick] at e10
        replace e10 : t 10 = (.bool false) := e10
        have e13 := hh.2.1
        simp only [pick] at e13
        replace e13 : t 13 = (.slice A n cap) := e13
        clear hh
        simp only [filled, upd, Have, is, any, row, pick, Act.put, List.setIfInBounds_toArray, List.set_cons_zero, List.set_cons_succ, Nat.reduceAdd, Nat.reduceEqDiff, reduceIte] at hK ⊢
        simp only [e10, e13] at hK ⊢
        go_simp
        exact hK _ _ (Below.refl _ _) rfl
      · intro t wq hbq hh K hK
        have e10 := hh.1
        simp only [pick] at e10
        replace e10 : t 10 = (.bool false) := e10
        have e12 := hh.2.1
        simp only [pick] at e12
        replace e12 : t 12 = (.int .i64 (n : Int)) := e12
        have e14 := hh.2.2.1
        simp only [pick] at e14
        replace e14 : t 14 = (.int .i64 (n : Int)) := e14
        clear hh
        simp only [filled, upd, Have, is, any, row, pick, Act.put, List.setIfInBounds_toArray, List.set_cons_zero, List.set_cons_succ, Nat.reduceAdd, Nat.reduceEqDiff, reduceIte] at hK ⊢
        simp only [e10, e12, e14] at hK ⊢
        go_simp
        first | exact hK _ _ (Below.refl _ _) rfl | exact hK _ _ (Below.refl _ _) (int_wrap (by omega) (by omega))
      · intro t wq hbq hh K hK
        have e10 := hh.1
        simp only [pick] at e10
        replace e10 : t 10 = (.bool false) := e10
        have e15 := hh.2.1
        simp only [pick] at e15
        replace e15 : t 15 = (.bool false) := e15
        clear hh
        simp only [filled, upd, Have, is, any, row, pick, Act.put, List.setIfInBounds_toArray, List.set_cons_zero, List.set_cons_succ, Nat.reduceAdd, Nat.reduceEqDiff, reduceIte] at hK ⊢
        simp only [e10, e15] at hK ⊢
        go_simp
        exact hK _ _ (Below.refl _ _) rfl
    · intro t wq hbq hh
      have f16 := have_get hh 16 (by decide)
      simp only [pick] at f16
      replace f16 : t 16 = (.bool false) := f16
      clear hh
      simp only [filled, upd, Have, is, any, row, pick, Act.put, List.setIfInBounds_toArray, List.set_cons_zero, List.set_cons_succ, Nat.reduceAdd, Nat.reduceEqDiff, reduceIte]
      simp only [f16]
      have HB5 := hid (bel HB4.out hbq)
      have HM5 := hid (HM.out.below hbq)
      have HO5 := hid (HO.out.below hbq)
      clear hbq HM HO HE HB4
      go_wp2
      go_loopw [6, 41] (fun _ vk wr => ∃ k : Nat, k ≤ n ∧ vk = .int .i64 (k : Int) ∧ Hid (Ops wr A2 n l) ∧ Hid (Ops wr A n l) ∧ Hid (Below w.heap.size w wr)) (fun _ vk _ => n - (intOf vk).toNat)
      case atStart => exact ⟨0, Nat.zero_le _, rfl, HM5.out, HO5.out, HB5.out⟩
      case round =>
        clear HM5 HO5 HB5
        obtain ⟨k, hk, rfl, HM, HO, HB⟩ := hrel
        by_cases hlt : k < n
        · have HKL : Hid (k < l.length) := by show _ < _; rw [HLN.out]; exact hlt
          obtain ⟨ba, offba, rfl, _⟩ := HM.out.spot (by omega)
          obtain ⟨bb, offbb, rfl, _⟩ := HO.out.spot (by omega)
          obtain ⟨o, ho⟩ : ∃ o, o = l[k]'HKL.out := ⟨_, rfl⟩
          have HOK : Hid (l[k]'HKL.out = o) := ho.symm
          have HR16 : Hid (o.r.length = 16) := by show _ = _; rw [ho]; exact HM.out.2.2 _ (List.getElem_mem HKL.out)
          clear ho
          go_wp2_with fail
          refine wp_region_rel (by kernel_rfl) [is (.slice (some ⟨ba, offba, none⟩) n c2), is (.int .i64 (k : Int)), is (.pointer (some ⟨ba, offba + k * 27, none⟩)), is (ScrB.val o), is (.slice (some ⟨bb, offbb, none⟩) n cap), is (.int .i64 (k : Int)), is (.pointer (some ⟨bb, offbb + k * 27, none⟩)), is (ScrB.val o), is (.bool false)] [[], [], [0, 1], [2], [], [], [4, 5], [6], [3, 7]] (by kernel_rfl) ?_ ?_
          · refine ⟨?_, ?_, ?_, ?_, ?_, ?_, ?_, ?_, ?_, trivial⟩
            · intro t wq hbq hh K hK
              clear hh
              simp only [filled, upd, Have, is, any, row, pick, Act.put, List.setIfInBounds_toArray, List.set_cons_zero, List.set_cons_succ, Nat.reduceAdd, Nat.reduceEqDiff, reduceIte] at hK ⊢
              go_simp
              exact hK _ _ (Below.refl _ _) rfl
            · intro t wq hbq hh K hK
              clear hh
              simp only [filled, upd, Have, is, any, row, pick, Act.put, List.setIfInBounds_toArray, List.set_cons_zero, List.set_cons_succ, Nat.reduceAdd, Nat.reduceEqDiff, reduceIte] at hK ⊢
              go_simp
              exact hK _ _ (Below.refl _ _) rfl
            · intro t wq hbq hh K hK
              have e0 := hh.1
              simp only [pick] at e0
              replace e0 : t 0 = (.slice (some ⟨ba, offba, none⟩) n c2) := e0
              have e1 := hh.2.1
              simp only [pick] at e1
              replace e1 : t 1 = (.int .i64 (k : Int)) := e1
              clear hh
              simp only [filled, upd, Have, is, any, row, pick, Act.put, List.setIfInBounds_toArray, List.set_cons_zero, List.set_cons_succ, Nat.reduceAdd, Nat.reduceEqDiff, reduceIte] at hK ⊢
              simp only [e0, e1] at hK ⊢
              go_simp
              exact hK _ _ (Below.refl _ _) rfl
            · intro t wq hbq hh K hK
              have e2 := hh.1
              simp only [pick] at e2
              replace e2 : t 2 = (.pointer (some ⟨ba, offba + k * 27, none⟩)) := e2
              clear hh
              simp only [filled, upd, Have, is, any, row, pick, Act.put, List.setIfInBounds_toArray, List.set_cons_zero, List.set_cons_succ, Nat.reduceAdd, Nat.reduceEqDiff, reduceIte] at hK ⊢
              simp only [e2] at hK ⊢
              have hq := (HM.out.below hbq).load k HKL.out (S := 37) Try.underlying37 (by kernel_rfl)
              rw [HOK.out] at hq
              refine step_load hq (.tmp 46) rfl rfl rfl ?_
              exact hK _ _ (Below.refl _ _) rfl
            · intro t wq hbq hh K hK
              clear hh
              simp only [filled, upd, Have, is, any, row, pick, Act.put, List.setIfInBounds_toArray, List.set_cons_zero, List.set_cons_succ, Nat.reduceAdd, Nat.reduceEqDiff, reduceIte] at hK ⊢
              go_simp
              exact hK _ _ (Below.refl _ _) rfl
            · intro t wq hbq hh K hK
              clear hh
              simp only [filled, upd, Have, is, any, row, pick, Act.put, List.setIfInBounds_toArray, List.set_cons_zero, List.set_cons_succ, Nat.reduceAdd, Nat.reduceEqDiff, reduceIte] at hK ⊢
              go_simp
              exact hK _ _ (Below.refl _ _) rfl
            · intro t wq hbq hh K hK
              have e4 := hh.1
              simp only [pick] at e4
              replace e4 : t 4 = (.slice (some ⟨bb, offbb, none⟩) n cap) := e4
              have e5 := hh.2.1
              simp only [pick] at e5
              replace e5 : t 5 = (.int .i64 (k : Int)) := e5
              clear hh
              simp only [filled, upd, Have, is, any, row, pick, Act.put, List.setIfInBounds_toArray, List.set_cons_zero, List.set_cons_succ, Nat.reduceAdd, Nat.reduceEqDiff, reduceIte] at hK ⊢
              simp only [e4, e5] at hK ⊢
              go_simp
              exact hK _ _ (Below.refl _ _) rfl
            · intro t wq hbq hh K hK
              have e6 := hh.1
              simp only [pick] at e6
              replace e6 : t 6 = (.pointer (some ⟨bb, offbb + k * 27, none⟩)) := e6
              clear hh
              simp only [filled, upd, Have, is, any, row, pick, Act.put, List.setIfInBounds_toArray, List.set_cons_zero, List.set_cons_succ, Nat.reduceAdd, Nat.reduceEqDiff, reduceIte] at hK ⊢
              simp only [e6] at hK ⊢
              have hq := (HO.out.below hbq).load k HKL.out (S := 37) Try.underlying37 (by kernel_rfl)
              rw [HOK.out] at hq
              refine step_load hq (.tmp 50) rfl rfl rfl ?_
              exact hK _ _ (Below.refl _ _) rfl
            · intro t wq hbq hh K hK
              have e3 := hh.1
              simp only [pick] at e3
              replace e3 : t 3 = (ScrB.val o) := e3
              have e7 := hh.2.1
              simp only [pick] at e7
              replace e7 : t 7 = (ScrB.val o) := e7
              clear hh
              simp only [filled, upd, Have, is, any, row, pick, Act.put, List.setIfInBounds_toArray, List.set_cons_zero, List.set_cons_succ, Nat.reduceAdd, Nat.reduceEqDiff, reduceIte] at hK ⊢
              simp only [e3, e7] at hK ⊢
              have hq := ScrQ.neq_op o HR16.out
              have hg := ScrQ.guard_op o
              go_simp
              exact hK _ _ (Below.refl _ _) rfl
          · intro t wq hbq hh
            have f8 := have_get hh 8 (by decide)
            simp only [pick] at f8
            replace f8 : t 8 = (.bool false) := f8
            clear hh
            simp only [filled, upd, Have, is, any, row, pick, Act.put, List.setIfInBounds_toArray, List.set_cons_zero, List.set_cons_succ, Nat.reduceAdd, Nat.reduceEqDiff, reduceIte]
            simp only [f8]
            have HM2 := hid (HM.out.below hbq)
            have HO2 := hid (HO.out.below hbq)
            have HB2 := hid (bel HB.out hbq)
            clear hbq
            go_wp2
            go_roundw
            case rel => exact ⟨k + 1, by omega, by go_num, HM2.out, HO2.out, HB2.out⟩
            case measure => simp [intOf]; omega
        · obtain rfl : k = n := by omega
          go_wp2
          go_ret
          exact ⟨rfl, HB.out⟩
end Go.Proofs.Ytafnekilnbhhlaa.Laws
