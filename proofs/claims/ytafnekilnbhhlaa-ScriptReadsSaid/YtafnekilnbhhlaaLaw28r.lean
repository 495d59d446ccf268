/- The law ScriptReads. -/
import Derived.Test.YtafnekilnbhhlaaLaw28b
namespace Go.Proofs.Ytafnekilnbhhlaa.Laws
open Go.RowKit Go.Proofs.Ytafnekilnbhhlaa.Base Go.Proofs.Ytafnekilnbhhlaa.Base2 Go.Proofs.Ytafnekilnbhhlaa.Base3 Go.Proofs.Ytafnekilnbhhlaa.Regs Go.Proofs.Ytafnekilnbhhlaa.AnsP Go.Proofs.Ytafnekilnbhhlaa.ScrP Go.Proofs.Ytafnekilnbhhlaa.ScrB Go.Proofs.Ytafnekilnbhhlaa.ScrW Go.Proofs.Ytafnekilnbhhlaa.ScrG Go.Proofs.Ytafnekilnbhhlaa.ScrO Go.Proofs.Ytafnekilnbhhlaa.ScrX

set_option linter.unusedSimpArgs false in
set_option maxRecDepth 100000 in
set_option maxHeartbeats 16000000 in
/-- The walk of the law ScriptReads. -/
theorem ScriptReads_any (A : Option Addr) (n cap : Nat) (L : List UInt8) (w : World) (r : Rds w A n (bcells L)) (hc : n ≤ cap) (hm : cap ≤ maxLen) :
    Calls Try.prog 4 #[.slice A n cap] w fun e w' => e = .returned (.bool true) ∧ Below w.heap.size w w' := by
  have HR := hid r
  have hni : (n : Int) ≤ 9223372036854775807 := by have := Nat.le_trans hc hm; unfold maxLen at this; omega
  clear r hc hm
  by_cases h : n ≤ 5000
  · have hi : ¬ (5000 : Int) < (n : Int) := by omega
    have HN : Hid (n ≤ 5000) := h
    clear h
    go_enter Try.func4, Try.ntmps4
    go_wp2_with fail
    refine (awake_any _).mono ?_
    rintro e w1 ⟨rfl, hb⟩
    have HB1 := hid hb
    have HR1 := hid (HR.out.below hb)
    clear hb
    go_wp2_with fail
    refine (ScrR.parse_any A n cap L _ HR1.out (by have := HN.out; omega)).mono ?_
    rintro e w2 ⟨hb, hm⟩
    have HB2 := hid (bel HB1.out hb)
    have HR2 := hid (HR1.out.below hb)
    have HLN : Hid ((strOf L).size ≤ 1000000) := by have := HR2.out.1; rw [length_bcells] at this; have := HN.out; show _ ≤ _; rw [size_strOf]; omega
    have hs := run_string_of (P := Try.prog) 25 9 5 Try.underlying25 Try.underlying5 Try.underlying9 L cap HR2.out
    clear hb
    cases hd : decAll L with
    | none =>
      rw [hd] at hm
      obtain rfl := hm
      go_wp2_with fail
      clear hs
      refine (ScrH.parse_any (strOf L) _ HLN.out).mono ?_
      rw [show (strOf L).data.toList = L from rfl]
      rintro e w3 ⟨hb, hm⟩
      rw [hd] at hm
      obtain rfl := hm
      have HB3 := hid (bel HB2.out hb)
      clear hb hd
      go_wp2
      go_ret
      exact ⟨rfl, HB3.out⟩
    | some l =>
      rw [hd] at hm
      obtain ⟨A2, c2, rfl, hc2, hm2, hop⟩ := hm
      obtain ⟨m, hmm⟩ : ∃ m, m = l.length := ⟨_, rfl⟩
      have HM := hid hop
      have HMM : Hid (m = l.length) := hmm
      have HMI : Hid ((m : Int) ≤ 9223372036854775807) := by have := Nat.le_trans hc2 hm2; unfold maxLen at this; show _ ≤ _; omega
      rw [← hmm] at HM ⊢
      clear hc2 hm2 hop hmm
      go_wp2_with fail
      clear hs
      refine (ScrH.parse_any (strOf L) _ HLN.out).mono ?_
      rw [show (strOf L).data.toList = L from rfl]
      rintro e w3 ⟨hb, hm⟩
      rw [hd] at hm
      obtain ⟨A3, c3, rfl, hc3, hm3, hop⟩ := hm
      rw [← HMM.out] at hop ⊢
      have HB3 := hid (bel HB2.out hb)
      have HM3 := hid (HM.out.below hb)
      have HO3 := hid hop
      have hmi := HMI.out
      clear hb hd hop hc3 hm3 HM
      go_wp2
      go_loopw [7, 47] (fun _ vk wr => ∃ k : Nat, k ≤ m ∧ vk = .int .i64 (k : Int) ∧ Hid (Ops wr A2 m l) ∧ Hid (Ops wr A3 m l) ∧ Hid (Below w.heap.size w wr)) (fun _ vk _ => m - (intOf vk).toNat)
      case atStart => exact ⟨0, Nat.zero_le _, rfl, HM3.out, HO3.out, HB3.out⟩
      case round =>
        clear HM3 HO3 HB3
        obtain ⟨k, hk, rfl, HM, HO, HB⟩ := hrel
        by_cases hlt : k < m
        · have HKL : Hid (k < l.length) := by show _ < _; rw [← HMM.out]; exact hlt
          obtain ⟨ba, offba, rfl, _⟩ := HM.out.spot (by omega)
          obtain ⟨bb, offbb, rfl, _⟩ := HO.out.spot (by omega)
          obtain ⟨o, ho⟩ : ∃ o, o = l[k]'HKL.out := ⟨_, rfl⟩
          have HOK : Hid (l[k]'HKL.out = o) := ho.symm
          have HR16 : Hid (o.r.length = 16) := by show _ = _; rw [ho]; exact HM.out.2.2 _ (List.getElem_mem HKL.out)
          clear ho
          go_wp2_with fail
          refine wp_region_rel (by kernel_rfl) [is (.slice (some ⟨ba, offba, none⟩) m c2), is (.int .i64 (k : Int)), is (.pointer (some ⟨ba, offba + k * 27, none⟩)), is (ScrB.val o), is (.slice (some ⟨bb, offbb, none⟩) m c3), is (.int .i64 (k : Int)), is (.pointer (some ⟨bb, offbb + k * 27, none⟩)), is (ScrB.val o), is (.bool false)] [[], [], [0, 1], [2], [], [], [4, 5], [6], [3, 7]] (by kernel_rfl) ?_ ?_
          · refine ⟨?_, ?_, ?_, ?_, ?_, ?_, ?_, ?_, ?_, trivial⟩
            · intro t wq hbq hh K hK
              clear hh
              simp only [filled, upd, Have, is, any, row, pick, Act.put, List.setIfInBounds_toArray, List.set_cons_zero, List.set_cons_succ, Nat.reduceAdd, Nat.reduceEqDiff, reduceIte] at hK ⊢
              go_simp
              exact hK _ _ (Below.refl _ _) rfl
            · intro t wq hbq hh K hK
              clear hh
              simp only [filled, upd, Have, is, any, row, pick, Act.put, List.setIfInBounds_toArray, List.set_cons_zero, List.set_cons_succ, Nat.reduceAdd, Nat.reduceEqDiff, reduceIte] at hK ⊢
              go_simp
              exact hK _ _ (Below.refl _ _) rfl
            · intro t wq hbq hh K hK
              have e0 := hh.1
              simp only [pick] at e0
              replace e0 : t 0 = (.slice (some ⟨ba, offba, none⟩) m c2) := e0
              have e1 := hh.2.1
              simp only [pick] at e1
              replace e1 : t 1 = (.int .i64 (k : Int)) := e1
              clear hh
              simp only [filled, upd, Have, is, any, row, pick, Act.put, List.setIfInBounds_toArray, List.set_cons_zero, List.set_cons_succ, Nat.reduceAdd, Nat.reduceEqDiff, reduceIte] at hK ⊢
              simp only [e0, e1] at hK ⊢
              go_simp
              exact hK _ _ (Below.refl _ _) rfl
            · intro t wq hbq hh K hK
              have e2 := hh.1
              simp only [pick] at e2
              replace e2 : t 2 = (.pointer (some ⟨ba, offba + k * 27, none⟩)) := e2
              clear hh
              simp only [filled, upd, Have, is, any, row, pick, Act.put, List.setIfInBounds_toArray, List.set_cons_zero, List.set_cons_succ, Nat.reduceAdd, Nat.reduceEqDiff, reduceIte] at hK ⊢
              simp only [e2] at hK ⊢
              have hq := (HM.out.below hbq).load k HKL.out (S := 37) Try.underlying37 (by kernel_rfl)
              rw [HOK.out] at hq
              refine step_load hq (.tmp 52) rfl rfl rfl ?_
              exact hK _ _ (Below.refl _ _) rfl
            · intro t wq hbq hh K hK
              clear hh
              simp only [filled, upd, Have, is, any, row, pick, Act.put, List.setIfInBounds_toArray, List.set_cons_zero, List.set_cons_succ, Nat.reduceAdd, Nat.reduceEqDiff, reduceIte] at hK ⊢
              go_simp
              exact hK _ _ (Below.refl _ _) rfl
            · intro t wq hbq hh K hK
              clear hh
              simp only [filled, upd, Have, is, any, row, pick, Act.put, List.setIfInBounds_toArray, List.set_cons_zero, List.set_cons_succ, Nat.reduceAdd, Nat.reduceEqDiff, reduceIte] at hK ⊢
              go_simp
              exact hK _ _ (Below.refl _ _) rfl
            · intro t wq hbq hh K hK
              have e4 := hh.1
              simp only [pick] at e4
              replace e4 : t 4 = (.slice (some ⟨bb, offbb, none⟩) m c3) := e4
              have e5 := hh.2.1
              simp only [pick] at e5
              replace e5 : t 5 = (.int .i64 (k : Int)) := e5
              clear hh
              simp only [filled, upd, Have, is, any, row, pick, Act.put, List.setIfInBounds_toArray, List.set_cons_zero, List.set_cons_succ, Nat.reduceAdd, Nat.reduceEqDiff, reduceIte] at hK ⊢
              simp only [e4, e5] at hK ⊢
              go_simp
              exact hK _ _ (Below.refl _ _) rfl
            · intro t wq hbq hh K hK
              have e6 := hh.1
              simp only [pick] at e6
              replace e6 : t 6 = (.pointer (some ⟨bb, offbb + k * 27, none⟩)) := e6
              clear hh
              simp only [filled, upd, Have, is, any, row, pick, Act.put, List.setIfInBounds_toArray, List.set_cons_zero, List.set_cons_succ, Nat.reduceAdd, Nat.reduceEqDiff, reduceIte] at hK ⊢
              simp only [e6] at hK ⊢
              have hq := (HO.out.below hbq).load k HKL.out (S := 40) Try.underlying40 (by kernel_rfl)
              rw [HOK.out] at hq
              refine step_load hq (.tmp 56) rfl rfl rfl ?_
              exact hK _ _ (Below.refl _ _) rfl
            · intro t wq hbq hh K hK
              have e3 := hh.1
              simp only [pick] at e3
              replace e3 : t 3 = (ScrB.val o) := e3
              have e7 := hh.2.1
              simp only [pick] at e7
              replace e7 : t 7 = (ScrB.val o) := e7
              clear hh
              simp only [filled, upd, Have, is, any, row, pick, Act.put, List.setIfInBounds_toArray, List.set_cons_zero, List.set_cons_succ, Nat.reduceAdd, Nat.reduceEqDiff, reduceIte] at hK ⊢
              simp only [e3, e7] at hK ⊢
              have hq := ScrQ.neq_rop o HR16.out
              have hg := ScrQ.guard_rop o
              go_simp
              exact hK _ _ (Below.refl _ _) rfl
          · intro t wq hbq hh
            have f8 := have_get hh 8 (by decide)
            simp only [pick] at f8
            replace f8 : t 8 = (.bool false) := f8
            clear hh
            simp only [filled, upd, Have, is, any, row, pick, Act.put, List.setIfInBounds_toArray, List.set_cons_zero, List.set_cons_succ, Nat.reduceAdd, Nat.reduceEqDiff, reduceIte]
            simp only [f8]
            have HM2 := hid (HM.out.below hbq)
            have HO2 := hid (HO.out.below hbq)
            have HB2 := hid (bel HB.out hbq)
            clear hbq
            go_wp2
            go_roundw
            case rel => exact ⟨k + 1, by omega, by go_num, HM2.out, HO2.out, HB2.out⟩
            case measure => simp [intOf]; omega
        · obtain rfl : k = m := by omega
          go_wp2
          go_ret
          exact ⟨rfl, HB.out⟩
  · have hi : (5000 : Int) < (n : Int) := by omega
    clear h
    go_enter Try.func4, Try.ntmps4
    go_wp2_with fail
    refine (awake_any _).mono ?_
    rintro e w1 ⟨rfl, hb⟩
    have HB1 := hid hb
    clear hb
    go_wp2_with fail
    refine (awake_any _).mono ?_
    rintro e w3 ⟨rfl, hb⟩
    have HB3 := hid (bel HB1.out hb)
    clear hb
    go_wp2
    go_ret
    exact ⟨rfl, HB3.out⟩
end Go.Proofs.Ytafnekilnbhhlaa.Laws
