/- The walk of the law SpanMeans: it returns true, whatever it is called with. -/
import Derived.Test.YtiencfgmdikepaaDoorLaw20a
namespace Go.Proofs.YtiencfgmdikepaaDoor.Laws
open Go.RowKit Go.Proofs.YtiencfgmdikepaaDoor.Base Go.Proofs.YtiencfgmdikepaaDoor.Base2 Go.Proofs.YtiencfgmdikepaaDoor.SpnP Go.Proofs.YtiencfgmdikepaaDoor.SpnA Go.Proofs.YtiencfgmdikepaaDoor.SpnB Go.Proofs.YtiencfgmdikepaaDoor.SpnE

set_option maxHeartbeats 4000000 in
set_option maxRecDepth 100000 in
theorem SpanMeans_any (F T : Int) (hf ht : Bool) (n : Int) (w : World) (hF : I64 F) (hT : I64 T) (hn : I64 n) :
    Calls Tryd.prog 4 #[.agg #[.int .i64 F, .int .i64 T, .bool hf, .bool ht], .int .i64 n] w fun e w' => e = .returned (.bool true) ∧ Below w.heap.size w w' := by
  by_cases h5 : n ≤ 300
  · have p1 : ¬ (300 : Int) < n := by omega
    have Hof := fun w => of_any F T hf ht n w hF hT hn
    have hok := of_ok F T hf ht n
    have hno := of_no F T hf ht n
    have hat := of_at F T hf ht n
    have hlow : n < 1 → ofB F T hf ht n = (0, 0, false) := fun h => by unfold ofB; rw [if_pos (.inl h)]
    obtain ⟨a, b, ok, hO⟩ : ∃ a b ok, ofB F T hf ht n = (a, b, ok) := ⟨_, _, _, rfl⟩
    rw [hO] at hok hno hlow
    simp only [hO] at Hof hat
    have HOF := hid Hof
    have HOK := hid hok
    have HNO := hid hno
    have HAT := hid hat
    have HLOW := hid hlow
    obtain ⟨hF0, hF1⟩ := hF
    obtain ⟨hT0, hT1⟩ := hT
    obtain ⟨hn0, hn1⟩ := hn
    clear Hof hok hno hO hat hlow
    obtain ⟨N, hmax, hN⟩ : ∃ N : Nat, max n 0 = (N : Int) ∧ (n = (N : Int) ∨ n < 1 ∧ N = 0) := ⟨n.toNat, by omega, by omega⟩
    have HM := hid hN
    have hN300 : N ≤ 300 := by omega
    clear hN
    go_enter Tryd.func4, Tryd.ntmps4
    go_wp2_with fail
    refine (awake_any _).mono ?_
    rintro e w1 ⟨rfl, hb1⟩
    have hT4 := box_T4 _ _ _ _ _ _ hb1
    obtain ⟨⟨c0, c1, c2, c3⟩, f0, f1, f2, f3⟩ := hT4.facts
    have HB := hid (((Below.refl w.heap.size w).alloc (Nat.le_refl _) _).trans (hb1.mono (by simp)))
    have HT4 := hid hT4
    clear hb1 f0 f1 f2 f3 hT4
    go_wp2_with fail
    refine (HOF.out _).mono ?_
    rintro e w2 ⟨rfl, hb2⟩
    clear c0 c1 c2 c3
    obtain ⟨⟨c0, c1, c2, c3⟩, f0, f1, f2, f3⟩ := (HT4.out.below hb2).facts
    clear f0 f1 f2 f3
    have HB2 := hid (bel HB.out hb2)
    clear hb2 HB HT4
    go_wp2_with fail
    clear c0 c1 c2 c3
    go_loopw [9, 10, 11, 29] (fun va _ _ vk wr => ∃ (k : Nat) (y : Bool), k ≤ N ∧ va = .bool y ∧ vk = .int .i64 (k : Int) ∧ Hid (y = (ok && decide (a < (k : Int)))) ∧ Hid (SpnD.T4 wr w2.heap.size (.int .i64 F) (.int .i64 T) (.bool hf) (.bool ht)) ∧ Hid (Below w.heap.size w wr)) (fun _ _ _ vk _ => N - (intOf vk).toNat)
    case atStart => exact ⟨0, false, Nat.zero_le _, rfl, rfl, by
      show _ = _
      cases ok
      · rfl
      · have := (HOK.out rfl).1
        try simp only at this
        simp
        omega, heap_alloc_new w2 _, HB2.out.alloc HB2.out.size _⟩
    case round =>
      clear HB2
      obtain ⟨k, y, hk, rfl, rfl, HY, HT4, HB⟩ := hrel
      by_cases hlt : k < N
      · have hltI : (k : Int) < (N : Int) := by omega
        have hnN : n = (N : Int) := by rcases HM.out with h | ⟨_, h⟩; exact h; omega
        have Hin : Hid (at_ F T hf ht (k : Int) n = (ok && decide (a ≤ (k : Int)) && decide ((k : Int) ≤ b))) := HAT.out k (by omega) (by omega)
        have HNN := hid hnN
        have hkn : (k : Int) < n := by omega
        clear hnN
        obtain ⟨⟨c0, c1, c2, c3⟩, f0, f1, f2, f3⟩ := HT4.out.facts
        clear f0 f1 f2 f3
        have hcase : ok = false ∨ ok = true ∧ (k : Int) < a ∨ ok = true ∧ a ≤ (k : Int) ∧ (k : Int) ≤ b ∨ ok = true ∧ b < (k : Int) ∧ a < (k : Int) := by
          cases hh : ok
          · exact .inl rfl
          · have := (HOK.out hh).2.1
            try simp only at this
            by_cases h1 : (k : Int) < a
            · exact .inr (.inl ⟨rfl, h1⟩)
            · by_cases h2 : (k : Int) ≤ b
              · exact .inr (.inr (.inl ⟨rfl, by omega, h2⟩))
              · exact .inr (.inr (.inr ⟨rfl, by omega, by omega⟩))
        rcases hcase with h | ⟨h, h1⟩ | ⟨h, h1, h2⟩ | ⟨h, h1, h2⟩
        · subst h
          have HI : Hid (at_ F T hf ht (k : Int) n = false) := by rw [Hin.out]; exact rfl
          obtain rfl : y = false := by rw [HY.out]; rfl
          go_wp2_with fail
          refine (ref_of F T hf ht k n _ (by omega) hkn hn1).mono ?_
          rintro e w3 ⟨rfl, hb3⟩
          rw [HI.out]
          have HTN := hid (HT4.out.below hb3)
          have HBN := hid (bel HB.out hb3)
          clear hb3 HT4 HB
          go_wp2_with fail
          go_roundw
          case rel => exact ⟨k + 1, false, by omega, rfl, by go_num, rfl, HTN, HBN⟩
          case measure => simp [intOf]; omega
        · subst h
          have HI : Hid (at_ F T hf ht (k : Int) n = false) := by rw [Hin.out]; show _ = _; simp; omega
          obtain rfl : y = false := by rw [HY.out]; simp; omega
          go_wp2_with fail
          refine (ref_of F T hf ht k n _ (by omega) hkn hn1).mono ?_
          rintro e w3 ⟨rfl, hb3⟩
          rw [HI.out]
          have HTN := hid (HT4.out.below hb3)
          have HBN := hid (bel HB.out hb3)
          clear hb3 HT4 HB
          go_wp2_with fail
          go_roundw
          case rel => exact ⟨k + 1, false, by omega, rfl, by go_num, by show _ = _; simp; omega, HTN, HBN⟩
          case measure => simp [intOf]; omega
        · subst h
          have HI : Hid (at_ F T hf ht (k : Int) n = true) := by rw [Hin.out]; show _ = _; simp; omega
          cases y
          all_goals
            go_wp2_with fail
            refine (ref_of F T hf ht k n _ (by omega) hkn hn1).mono ?_
            rintro e w3 ⟨rfl, hb3⟩
            rw [HI.out]
            have HTN := hid (HT4.out.below hb3)
            have HBN := hid (bel HB.out hb3)
            clear hb3 HT4 HB
            go_wp2_with fail
            go_roundw
            case rel => exact ⟨k + 1, true, by omega, rfl, by go_num, by show _ = _; simp; omega, HTN, HBN⟩
            case measure => simp [intOf]; omega
        · subst h
          have HI : Hid (at_ F T hf ht (k : Int) n = false) := by rw [Hin.out]; show _ = _; simp; omega
          obtain rfl : y = true := by rw [HY.out]; simp; omega
          go_wp2_with fail
          refine (ref_of F T hf ht k n _ (by omega) hkn hn1).mono ?_
          rintro e w3 ⟨rfl, hb3⟩
          rw [HI.out]
          have HTN := hid (HT4.out.below hb3)
          have HBN := hid (bel HB.out hb3)
          clear hb3 HT4 HB
          go_wp2_with fail
          go_roundw
          case rel => exact ⟨k + 1, true, by omega, rfl, by go_num, by show _ = _; simp; omega, HTN, HBN⟩
          case measure => simp [intOf]; omega
      · obtain rfl : k = N := by omega
        have hy : y = ok := by
          rw [HY.out]
          cases hh : ok
          · rfl
          · have h1 := HOK.out hh
            try simp only at h1
            rcases HM.out with h | ⟨h, _⟩
            · simp; omega
            · have := HLOW.out h
              simp only [Prod.mk.injEq] at this
              rw [hh] at this
              cases this.2.2
        subst hy
        cases y
        · obtain ⟨h1, h2⟩ := HNO.out rfl
          try simp only at h1 h2
          subst h1 h2
          go_wp2_with fail
          go_ret
          exact ⟨rfl, HB.out⟩
        · go_wp2_with fail
          go_ret
          exact ⟨rfl, HB.out⟩
  · have p1 : (300 : Int) < n := by omega
    go_enter Tryd.func4, Tryd.ntmps4
    go_wp2_with fail
    refine (awake_any _).mono ?_
    rintro e w1 ⟨rfl, hb1⟩
    go_wp2_with fail
    refine (awake_any _).mono ?_
    rintro e w2 ⟨rfl, hb2⟩
    go_wp2_with fail
    go_ret
    exact ⟨rfl, bel (((Below.refl w.heap.size w).alloc (Nat.le_refl _) _).trans (hb1.mono (by simp))) hb2⟩
set_option maxHeartbeats 4000000 in
set_option maxRecDepth 100000 in
theorem SpanWhole_any (x y : Int) (w : World) (hx : 0 ≤ x ∧ x ≤ 18446744073709551615) (hy : 0 ≤ y ∧ y ≤ 18446744073709551615) :
    Calls Tryd.prog 7 #[.int .u64 x, .int .u64 y] w fun e w' => e = .returned (.bool true) ∧ Below w.heap.size w w' := by
  obtain ⟨hx0, hx1⟩ := hx
  obtain ⟨hy0, hy1⟩ := hy
  obtain ⟨p, hp⟩ : ∃ p : Int, p = x % 1099511627776 := ⟨_, rfl⟩
  obtain ⟨q, hq⟩ : ∃ p : Int, p = y % 1099511627776 := ⟨_, rfl⟩
  have hp0 : 0 ≤ p := by omega
  have hp1 : p < 1099511627776 := by omega
  have hq0 : 0 ≤ q := by omega
  have hq1 : q < 1099511627776 := by omega
  have e1 : x % 1099511627776 = p := hp.symm
  have e2 : y % 1099511627776 = q := hq.symm
  have e3 : x.tmod 1099511627776 = p := by rw [Int.tmod_eq_emod_of_nonneg hx0]; exact e1
  have e4 : y.tmod 1099511627776 = q := by rw [Int.tmod_eq_emod_of_nonneg hy0]; exact e2
  clear hp hq
  obtain ⟨n, hn⟩ : ∃ n : Int, n = 1 + p := ⟨_, rfl⟩
  have hn1 : 1 ≤ n := by omega
  have hn2 : n ≤ 1099511627776 := by omega
  have hsum : 1 + p = n := hn.symm
  have H1 : Hid (ofB 0 0 true false n = (0, n - 1, true)) := by
    show _ = _
    unfold ofB
    rw [if_neg (by simp; omega), if_pos rfl, if_neg (by simp), if_neg (by omega)]
  have H2 : Hid (ofB 0 (n - 1 + q) true true n = (0, n - 1, true)) := by
    show _ = _
    unfold ofB
    rw [if_neg (by simp; omega), if_pos rfl]
    by_cases h : q = 0
    · rw [if_pos ⟨rfl, by omega⟩, if_neg (by omega), h, Int.add_zero]
    · rw [if_neg (by rintro ⟨_, h'⟩; omega), if_neg (by omega)]
  have H3 : Hid (ofB 0 (n + q) false true n = (0, n - 1, true)) := by
    show _ = _
    unfold ofB
    rw [if_neg (by simp; omega), if_neg (by simp), if_neg (by omega)]
    by_cases h : q = 0
    · rw [if_pos (by omega), h, Int.add_zero, Int.sub_self]
    · rw [if_neg (by omega)]
  have H4 : Hid (ofB 0 1 false true n = (n - 1, n - 1, true)) := by
    show _ = _
    unfold ofB
    rw [if_neg (by simp; omega), if_neg (by simp), if_neg (by omega), if_pos (by omega)]
  have H5 : Hid (ofB (n + q) 0 true false n = (0, 0, false)) := by
    show _ = _
    unfold ofB
    rw [if_neg (by simp; omega), if_pos rfl, if_neg (by simp), if_pos (by omega)]
  clear hn
  have e5 : ((n - 1) == (n - 1)) = true := by simp
  go_enter Tryd.func7, Tryd.ntmps7
  go_wp2_with fail
  refine (awake_any _).mono ?_
  rintro e w1 ⟨rfl, hb1⟩
  go_wp2_with fail
  refine (of_any 0 0 true false n _ (by omega) (by omega) (by omega)).mono ?_
  rintro e w2 ⟨rfl, hb2⟩
  rw [H1.out]
  go_wp2_with fail
  refine (of_any 0 (n - 1 + q) true true n _ (by omega) (by omega) (by omega)).mono ?_
  rintro e w3 ⟨rfl, hb3⟩
  rw [H2.out]
  go_wp2_with fail
  refine (of_any 0 (n + q) false true n _ (by omega) (by omega) (by omega)).mono ?_
  rintro e w4 ⟨rfl, hb4⟩
  rw [H3.out]
  go_wp2_with fail
  refine (of_any 0 1 false true n _ (by omega) (by omega) (by omega)).mono ?_
  rintro e w5 ⟨rfl, hb5⟩
  rw [H4.out]
  go_wp2_with fail
  refine (of_any (n + q) 0 true false n _ (by omega) (by omega) (by omega)).mono ?_
  rintro e w6 ⟨rfl, hb6⟩
  rw [H5.out]
  go_wp2_with fail
  go_ret
  exact ⟨rfl, bel (bel (bel (bel (bel hb1 hb2) hb3) hb4) hb5) hb6⟩
end Go.Proofs.YtiencfgmdikepaaDoor.Laws
