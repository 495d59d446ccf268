/- The walk of the law BaseParts: it returns true, whatever it is called with. -/
import Derived.Test.YtflklgcnjliipaaB64W
namespace Go.Proofs.Ytflklgcnjliipaa.Laws
open Go.RowKit Go.Proofs.Ytflklgcnjliipaa.Base Go.Proofs.Ytflklgcnjliipaa.Base2 Go.Proofs.Ytflklgcnjliipaa.B64D Go.Proofs.Ytflklgcnjliipaa.B64E Go.Proofs.Ytflklgcnjliipaa.Regs

theorem e64_split : ∀ (j : Nat) (L : List UInt8), 3 * j ≤ L.length → e64 L = e64 (L.take (3 * j)) ++ e64 (L.drop (3 * j))
  | 0, L, _ => by simp [e64]
  | j + 1, L, h => by
    obtain ⟨a, b, c, t, rfl⟩ := three (M := L) (by omega)
    have ih := e64_split j t (by simp at h; omega)
    have e1 : 3 * (j + 1) = 3 * j + 1 + 1 + 1 := by omega
    rw [e1, List.take_succ_cons, List.take_succ_cons, List.take_succ_cons, List.drop_succ_cons, List.drop_succ_cons, List.drop_succ_cons]
    rw [e64, e64, ih, List.append_assoc]
set_option linter.unusedSimpArgs false in
set_option maxHeartbeats 4000000 in
set_option maxRecDepth 100000 in
theorem BaseParts_any (A : Option Addr) (n cap : Nat) (L : List UInt8) (z : Int) (w : World) (hr : Rds w A n (bcells L)) (hc : n ≤ cap) (hm : cap ≤ maxLen) (hz : 0 ≤ z ∧ z ≤ 255) :
    Calls Try.prog 6 #[.slice A n cap, .int .u8 z] w fun e w' => e = .returned (.bool true) ∧ Below w.heap.size w w' := by
  have hl : L.length = n := by rw [← length_bcells]; exact hr.1
  have HL := hid hl
  have HR := hid hr
  clear hl hr
  by_cases h1 : n ≤ 300
  · have p1 : ¬ (300 : Int) < (n : Int) := by omega
    obtain ⟨hz0, hz1⟩ := hz
    obtain ⟨y, rfl⟩ : ∃ y : Nat, z = (y : Int) := ⟨z.toNat, by omega⟩
    have hq : ((n : Int) + 2).tdiv 3 = (((n + 2) / 3 : Nat) : Int) := by rw [Int.tdiv_eq_ediv_of_nonneg (by omega)]; omega
    have hq2 : ((n : Int) + 2) / 3 = (((n + 2) / 3 : Nat) : Int) := by omega
    obtain ⟨q, hqq⟩ : ∃ q, q = (n + 2) / 3 := ⟨_, rfl⟩
    have HQ := hid hqq
    rw [← hqq] at hq hq2
    have hp : (n : Int).tdiv 3 = ((n / 3 : Nat) : Int) := by rw [Int.tdiv_eq_ediv_of_nonneg (by omega)]; omega
    have hp2 : (n : Int) / 3 = ((n / 3 : Nat) : Int) := by omega
    obtain ⟨p, hpp⟩ : ∃ p, p = n / 3 := ⟨_, rfl⟩
    have HP := hid hpp
    have hpn : p * 3 ≤ n := by omega
    have hqn : q ≤ 101 := by omega
    rw [← hpp] at hp hp2
    clear hqq hpp
    obtain ⟨k, hk, hk3⟩ : ∃ k : Nat, min (3 * (y : Int)) ((p : Int) * 3) = (k : Int) ∧ k = min (3 * y) (p * 3) := ⟨min (3 * y) (p * 3), by omega, rfl⟩
    have hkn : k ≤ n := by omega
    have hkc : k ≤ cap := by omega
    have hkj : ∃ j, k = 3 * j := ⟨min y p, by omega⟩
    have HSP : Hid (e64 L = e64 (L.take k) ++ e64 (L.drop k)) := by
      obtain ⟨j, hj⟩ := hkj
      rw [hj]
      exact e64_split j L (by have := HL.out; omega)
    have HLen : Hid (((e64 L).length : Int) = (q : Int) * 4) := by
      show _ = _
      rw [e64_len, HL.out]
      have := HQ.out
      omega
    have HLL : Hid ((e64 (L.take k)).length + (e64 (L.drop k)).length ≤ 9223372036854775807) := by
      show _ ≤ _
      rw [e64_len, e64_len, List.length_take, List.length_drop, HL.out]
      omega
    have hcase : (3 * (y : Int) = (k : Int) ∧ (k : Int) ≤ (p : Int) * 3) ∨ ((p : Int) * 3 = (k : Int) ∧ (k : Int) < 3 * (y : Int)) := by omega
    clear hkj hk3 hk
    rcases hcase with ⟨hk1, hk2⟩ | ⟨hk1, hk2⟩
    all_goals
      go_enter Try.func6, Try.ntmps6
      go_wp2_with fail
      refine (B64W.awake_any _).mono ?_
      rintro e w1 ⟨rfl, hb1⟩
      have HR1 := hid (HR.out.below hb1)
      go_wp2_with fail
      refine (encode_any A n cap L _ HR1.out hc (by omega)).mono ?_
      rintro e w2 ⟨rfl, hb2⟩
      have HR3 := hid (HR1.out.below hb2)
      have HNil : Hid (A = none → n = 0 ∧ k = 0) := by
        rintro rfl
        have : n = 0 := by
          rcases Nat.eq_zero_or_pos n with h | h
          · exact h
          · obtain ⟨_, _, e, _⟩ := HR3.out.spot h
            cases e
        omega
      go_wp2
      refine wp_region_rel (by kernel_rfl) [is (.string (strOf (e64 L))), is (.int .i64 ((e64 L).length : Int)), is (.slice A n cap), is (.int .i64 (n : Int)), is (.int .i64 ((n : Int) + 2)), is (.int .i64 (q : Int)), is (.int .i64 ((q : Int) * 4)), is (.bool true), is (.bool true), is (.string (strOf (e64 L))), is (.slice A n cap), is (.int .i64 (k : Int)), row k (bcells (L.take k)), is (.string (strOf (e64 (L.take k)))), is (.slice A n cap), is (.int .i64 (k : Int)), row (n - k) (bcells (L.drop k)), is (.string (strOf (e64 (L.drop k)))), is (.string (strOf (e64 L))), is (.bool true), is (.bool true), is (.bool true)] [[], [0], [], [2], [3], [4], [5], [1, 6], [7], [8], [8], [8], [8, 10, 11], [8, 12], [8], [8], [8, 14, 15], [8, 16], [8, 13, 17], [8, 9, 18], [8, 19], [20]] (by kernel_rfl) ?_ ?_
      · refine ⟨?_, ?_, ?_, ?_, ?_, ?_, ?_, ?_, ?_, ?_, ?_, ?_, ?_, ?_, ?_, ?_, ?_, ?_, ?_, ?_, ?_, ?_, trivial⟩
        · intro t wq hbq hh K hK
          clear hh
          simp only [filled, upd, Have, is, any, row, pick, Act.put, List.setIfInBounds_toArray, List.set_cons_zero, List.set_cons_succ, Nat.reduceAdd, Nat.reduceEqDiff, reduceIte] at hK ⊢
          go_simp
          exact hK _ _ (Below.refl _ _) rfl
        · intro t wq hbq hh K hK
          have e0 := hh.1
          simp only [pick] at e0
          replace e0 : t 0 = (.string (strOf (e64 L))) := e0
          clear hh
          simp only [filled, upd, Have, is, any, row, pick, Act.put, List.setIfInBounds_toArray, List.set_cons_zero, List.set_cons_succ, Nat.reduceAdd, Nat.reduceEqDiff, reduceIte] at hK ⊢
          simp only [e0] at hK ⊢
          go_simp
          exact hK _ _ (Below.refl _ _) (by simp [is, pick, size_strOf])
        · intro t wq hbq hh K hK
          clear hh
          simp only [filled, upd, Have, is, any, row, pick, Act.put, List.setIfInBounds_toArray, List.set_cons_zero, List.set_cons_succ, Nat.reduceAdd, Nat.reduceEqDiff, reduceIte] at hK ⊢
          go_simp
          exact hK _ _ (Below.refl _ _) rfl
        · intro t wq hbq hh K hK
          have e2 := hh.1
          simp only [pick] at e2
          replace e2 : t 2 = (.slice A n cap) := e2
          clear hh
          simp only [filled, upd, Have, is, any, row, pick, Act.put, List.setIfInBounds_toArray, List.set_cons_zero, List.set_cons_succ, Nat.reduceAdd, Nat.reduceEqDiff, reduceIte] at hK ⊢
          simp only [e2] at hK ⊢
          go_simp
          exact hK _ _ (Below.refl _ _) rfl
        · intro t wq hbq hh K hK
          have e3 := hh.1
          simp only [pick] at e3
          replace e3 : t 3 = (.int .i64 (n : Int)) := e3
          clear hh
          simp only [filled, upd, Have, is, any, row, pick, Act.put, List.setIfInBounds_toArray, List.set_cons_zero, List.set_cons_succ, Nat.reduceAdd, Nat.reduceEqDiff, reduceIte] at hK ⊢
          simp only [e3] at hK ⊢
          go_simp
          first | exact hK _ _ (Below.refl _ _) rfl | exact hK _ _ (Below.refl _ _) (int_wrap (by omega) (by omega))
        · intro t wq hbq hh K hK
          have e4 := hh.1
          simp only [pick] at e4
          replace e4 : t 4 = (.int .i64 ((n : Int) + 2)) := e4
          clear hh
          simp only [filled, upd, Have, is, any, row, pick, Act.put, List.setIfInBounds_toArray, List.set_cons_zero, List.set_cons_succ, Nat.reduceAdd, Nat.reduceEqDiff, reduceIte] at hK ⊢
          simp only [e4] at hK ⊢
          go_simp
          first | exact hK _ _ (Below.refl _ _) rfl | exact hK _ _ (Below.refl _ _) (int_wrap (by omega) (by omega))
        · intro t wq hbq hh K hK
          have e5 := hh.1
          simp only [pick] at e5
          replace e5 : t 5 = (.int .i64 (q : Int)) := e5
          clear hh
          simp only [filled, upd, Have, is, any, row, pick, Act.put, List.setIfInBounds_toArray, List.set_cons_zero, List.set_cons_succ, Nat.reduceAdd, Nat.reduceEqDiff, reduceIte] at hK ⊢
          simp only [e5] at hK ⊢
          go_simp
          first | exact hK _ _ (Below.refl _ _) rfl | exact hK _ _ (Below.refl _ _) (int_wrap (by omega) (by omega))
        · intro t wq hbq hh K hK
          have e1 := hh.1
          simp only [pick] at e1
          replace e1 : t 1 = (.int .i64 ((e64 L).length : Int)) := e1
          have e6 := hh.2.1
          simp only [pick] at e6
          replace e6 : t 6 = (.int .i64 ((q : Int) * 4)) := e6
          clear hh
          simp only [filled, upd, Have, is, any, row, pick, Act.put, List.setIfInBounds_toArray, List.set_cons_zero, List.set_cons_succ, Nat.reduceAdd, Nat.reduceEqDiff, reduceIte] at hK ⊢
          simp only [e1, e6] at hK ⊢
          go_simp
          exact hK _ _ (Below.refl _ _) (by simp [is, pick]; exact HLen.out)
        · intro t wq hbq hh K hK
          have e7 := hh.1
          simp only [pick] at e7
          replace e7 : t 7 = (.bool true) := e7
          clear hh
          simp only [filled, upd, Have, is, any, row, pick, Act.put, List.setIfInBounds_toArray, List.set_cons_zero, List.set_cons_succ, Nat.reduceAdd, Nat.reduceEqDiff, reduceIte] at hK ⊢
          simp only [e7] at hK ⊢
          go_simp
          exact hK _ _ (Below.refl _ _) rfl
        · intro t wq hbq hh K hK
          have e8 := hh.1
          simp only [pick] at e8
          replace e8 : t 8 = (.bool true) := e8
          clear hh
          simp only [filled, upd, Have, is, any, row, pick, Act.put, List.setIfInBounds_toArray, List.set_cons_zero, List.set_cons_succ, Nat.reduceAdd, Nat.reduceEqDiff, reduceIte] at hK ⊢
          simp only [e8] at hK ⊢
          go_simp
          exact hK _ _ (Below.refl _ _) rfl
        · intro t wq hbq hh K hK
          have e8 := hh.1
          simp only [pick] at e8
          replace e8 : t 8 = (.bool true) := e8
          clear hh
          simp only [filled, upd, Have, is, any, row, pick, Act.put, List.setIfInBounds_toArray, List.set_cons_zero, List.set_cons_succ, Nat.reduceAdd, Nat.reduceEqDiff, reduceIte] at hK ⊢
          simp only [e8] at hK ⊢
          go_simp
          exact hK _ _ (Below.refl _ _) rfl
        · intro t wq hbq hh K hK
          have e8 := hh.1
          simp only [pick] at e8
          replace e8 : t 8 = (.bool true) := e8
          clear hh
          simp only [filled, upd, Have, is, any, row, pick, Act.put, List.setIfInBounds_toArray, List.set_cons_zero, List.set_cons_succ, Nat.reduceAdd, Nat.reduceEqDiff, reduceIte] at hK ⊢
          simp only [e8] at hK ⊢
          go_simp
          exact hK _ _ (Below.refl _ _) rfl
        · intro t wq hbq hh K hK
          have e8 := hh.1
          simp only [pick] at e8
          replace e8 : t 8 = (.bool true) := e8
          have e10 := hh.2.1
          simp only [pick] at e10
          replace e10 : t 10 = (.slice A n cap) := e10
          have e11 := hh.2.2.1
          simp only [pick] at e11
          replace e11 : t 11 = (.int .i64 (k : Int)) := e11
          clear hh
          simp only [filled, upd, Have, is, any, row, pick, Act.put, List.setIfInBounds_toArray, List.set_cons_zero, List.set_cons_succ, Nat.reduceAdd, Nat.reduceEqDiff, reduceIte] at hK ⊢
          simp only [e8, e10, e11] at hK ⊢
          have hrq := HR3.out.below hbq
          cases A with
          | none =>
            obtain ⟨rfl, rfl⟩ := HNil.out rfl
            go_simp
            exact hK _ _ (Below.refl _ _) ⟨_, _, rfl, by omega, by omega, Rds.nil _⟩
          | some ad =>
            rcases Nat.eq_zero_or_pos n with h0 | h0
            · subst h0
              obtain rfl : k = 0 := by omega
              go_simp
              exact hK _ _ (Below.refl _ _) ⟨_, _, rfl, by omega, by omega, Rds.nil _⟩
            · obtain ⟨g, off, e, _⟩ := hrq.spot h0
              cases e
              go_simp
              exact hK _ _ (Below.refl _ _) ⟨_, _, rfl, by omega, by omega, by rw [bcells_take]; exact hrq.upto k (by omega)⟩
        · intro t wq hbq hh K hK
          have e8 := hh.1
          simp only [pick] at e8
          replace e8 : t 8 = (.bool true) := e8
          have e12 := hh.2.1
          simp only [pick] at e12
          clear hh
          simp only [filled, upd, Have, is, any, row, pick, Act.put, List.setIfInBounds_toArray, List.set_cons_zero, List.set_cons_succ, Nat.reduceAdd, Nat.reduceEqDiff, reduceIte] at hK ⊢
          obtain ⟨A12, c12, e12, hc12, hm12, hr12⟩ := e12
          simp only [e8, e12] at hK ⊢
          go_simp
          refine (encode_any A12 k c12 (L.take k) _ hr12 hc12 (by omega)).mono ?_
          rintro e w5 ⟨rfl, hb5⟩
          exact hK _ _ hb5 rfl
        · intro t wq hbq hh K hK
          have e8 := hh.1
          simp only [pick] at e8
          replace e8 : t 8 = (.bool true) := e8
          clear hh
          simp only [filled, upd, Have, is, any, row, pick, Act.put, List.setIfInBounds_toArray, List.set_cons_zero, List.set_cons_succ, Nat.reduceAdd, Nat.reduceEqDiff, reduceIte] at hK ⊢
          simp only [e8] at hK ⊢
          go_simp
          exact hK _ _ (Below.refl _ _) rfl
        · intro t wq hbq hh K hK
          have e8 := hh.1
          simp only [pick] at e8
          replace e8 : t 8 = (.bool true) := e8
          clear hh
          simp only [filled, upd, Have, is, any, row, pick, Act.put, List.setIfInBounds_toArray, List.set_cons_zero, List.set_cons_succ, Nat.reduceAdd, Nat.reduceEqDiff, reduceIte] at hK ⊢
          simp only [e8] at hK ⊢
          go_simp
          exact hK _ _ (Below.refl _ _) rfl
        · intro t wq hbq hh K hK
          have e8 := hh.1
          simp only [pick] at e8
          replace e8 : t 8 = (.bool true) := e8
          have e14 := hh.2.1
          simp only [pick] at e14
          replace e14 : t 14 = (.slice A n cap) := e14
          have e15 := hh.2.2.1
          simp only [pick] at e15
          replace e15 : t 15 = (.int .i64 (k : Int)) := e15
          clear hh
          simp only [filled, upd, Have, is, any, row, pick, Act.put, List.setIfInBounds_toArray, List.set_cons_zero, List.set_cons_succ, Nat.reduceAdd, Nat.reduceEqDiff, reduceIte] at hK ⊢
          simp only [e8, e14, e15] at hK ⊢
          have hrq := HR3.out.below hbq
          cases A with
          | none =>
            obtain ⟨rfl, rfl⟩ := HNil.out rfl
            go_simp
            exact hK _ _ (Below.refl _ _) ⟨_, _, rfl, by omega, by omega, by rw [List.drop_eq_nil_of_le (by have := HL.out; omega)]; exact Rds.nil _⟩
          | some ad =>
            rcases Nat.eq_zero_or_pos n with h0 | h0
            · subst h0
              obtain rfl : k = 0 := by omega
              by_cases hcap : cap = 0
              · subst hcap
                go_simp
                exact hK _ _ (Below.refl _ _) ⟨_, _, rfl, by omega, by omega, by rw [List.drop_eq_nil_of_le (by have := HL.out; omega)]; exact Rds.nil _⟩
              · go_simp
                exact hK _ _ (Below.refl _ _) ⟨_, _, rfl, by omega, by omega, by rw [List.drop_eq_nil_of_le (by have := HL.out; omega)]; exact Rds.nil _⟩
            · obtain ⟨g, off, e, _⟩ := hrq.spot h0
              cases e
              by_cases hcap : cap = k
              · subst hcap
                obtain rfl : n = cap := by omega
                go_simp
                refine hK _ _ (Below.refl _ _) ?_
                simp only [pick, Nat.sub_self]
                rw [List.drop_eq_nil_of_le (by have := HL.out; omega)]
                exact ⟨_, _, rfl, by omega, by unfold maxLen; omega, Rds.nil _⟩
              · go_simp
                exact hK _ _ (Below.refl _ _) ⟨_, _, rfl, by omega, by omega, by rw [bcells_drop]; exact hrq.cut k (by omega)⟩
        · intro t wq hbq hh K hK
          have e8 := hh.1
          simp only [pick] at e8
          replace e8 : t 8 = (.bool true) := e8
          have e16 := hh.2.1
          simp only [pick] at e16
          clear hh
          simp only [filled, upd, Have, is, any, row, pick, Act.put, List.setIfInBounds_toArray, List.set_cons_zero, List.set_cons_succ, Nat.reduceAdd, Nat.reduceEqDiff, reduceIte] at hK ⊢
          obtain ⟨A16, c16, e16, hc16, hm16, hr16⟩ := e16
          simp only [e8, e16] at hK ⊢
          go_simp
          refine (encode_any A16 (n - k) c16 (L.drop k) _ hr16 hc16 (by omega)).mono ?_
          rintro e w5 ⟨rfl, hb5⟩
          exact hK _ _ hb5 rfl
        · intro t wq hbq hh K hK
          have e8 := hh.1
          simp only [pick] at e8
          replace e8 : t 8 = (.bool true) := e8
          have e13 := hh.2.1
          simp only [pick] at e13
          replace e13 : t 13 = (.string (strOf (e64 (L.take k)))) := e13
          have e17 := hh.2.2.1
          simp only [pick] at e17
          replace e17 : t 17 = (.string (strOf (e64 (L.drop k)))) := e17
          clear hh
          simp only [filled, upd, Have, is, any, row, pick, Act.put, List.setIfInBounds_toArray, List.set_cons_zero, List.set_cons_succ, Nat.reduceAdd, Nat.reduceEqDiff, reduceIte] at hK ⊢
          simp only [e8, e13, e17] at hK ⊢
          have hadd := str_add (P := Try.prog) (e64 (L.take k)) (e64 (L.drop k)) wq (by have := HLL.out; omega)
          rw [← HSP.out] at hadd
          go_simp
          exact hK _ _ (Below.refl _ _) rfl
        · intro t wq hbq hh K hK
          have e8 := hh.1
          simp only [pick] at e8
          replace e8 : t 8 = (.bool true) := e8
          have e9 := hh.2.1
          simp only [pick] at e9
          replace e9 : t 9 = (.string (strOf (e64 L))) := e9
          have e18 := hh.2.2.1
          simp only [pick] at e18
          replace e18 : t 18 = (.string (strOf (e64 L))) := e18
          clear hh
          simp only [filled, upd, Have, is, any, row, pick, Act.put, List.setIfInBounds_toArray, List.set_cons_zero, List.set_cons_succ, Nat.reduceAdd, Nat.reduceEqDiff, reduceIte] at hK ⊢
          simp only [e8, e9, e18] at hK ⊢
          go_simp
          exact hK _ _ (Below.refl _ _) (by simp [is, pick])
        · intro t wq hbq hh K hK
          have e8 := hh.1
          simp only [pick] at e8
          replace e8 : t 8 = (.bool true) := e8
          have e19 := hh.2.1
          simp only [pick] at e19
          replace e19 : t 19 = (.bool true) := e19
          clear hh
          simp only [filled, upd, Have, is, any, row, pick, Act.put, List.setIfInBounds_toArray, List.set_cons_zero, List.set_cons_succ, Nat.reduceAdd, Nat.reduceEqDiff, reduceIte] at hK ⊢
          simp only [e8, e19] at hK ⊢
          go_simp
          exact hK _ _ (Below.refl _ _) rfl
        · intro t wq hbq hh K hK
          have e20 := hh.1
          simp only [pick] at e20
          replace e20 : t 20 = (.bool true) := e20
          clear hh
          simp only [filled, upd, Have, is, any, row, pick, Act.put, List.setIfInBounds_toArray, List.set_cons_zero, List.set_cons_succ, Nat.reduceAdd, Nat.reduceEqDiff, reduceIte] at hK ⊢
          simp only [e20] at hK ⊢
          go_simp
          exact hK _ _ (Below.refl _ _) rfl
      · intro t wq hbq hh
        have f21 := have_get hh 21 (by decide)
        simp only [pick] at f21
        replace f21 : t 21 = (.bool true) := f21
        clear hh
        simp only [filled, upd, Have, is, any, row, pick, Act.put, List.setIfInBounds_toArray, List.set_cons_zero, List.set_cons_succ, Nat.reduceAdd, Nat.reduceEqDiff, reduceIte]
        simp only [f21]
        go_wp2
        go_ret
        exact ⟨rfl, bel (bel hb1 hb2) hbq⟩
  · have p1 : (300 : Int) < (n : Int) := by omega
    go_enter Try.func6, Try.ntmps6
    go_wp2_with fail
    refine (B64W.awake_any _).mono ?_
    rintro e w1 ⟨rfl, hb1⟩
    go_wp2_with fail
    refine (B64W.awake_any _).mono ?_
    rintro e w2 ⟨rfl, hb2⟩
    go_wp2_with fail
    go_ret
    exact ⟨rfl, bel hb1 hb2⟩
end Go.Proofs.Ytflklgcnjliipaa.Laws
