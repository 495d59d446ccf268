/- The walk of the law BaseOdd: it returns true, whatever it is called with. -/
import Derived.Test.YtflklgcnjliipaaB64W
import Derived.Test.YtflklgcnjliipaaB64F
namespace Go.Proofs.Ytflklgcnjliipaa.Laws
open Go.RowKit Go.Proofs.Ytflklgcnjliipaa.Base Go.Proofs.Ytflklgcnjliipaa.Base2 Go.Proofs.Ytflklgcnjliipaa.B64N Go.Proofs.Ytflklgcnjliipaa.B64D Go.Proofs.Ytflklgcnjliipaa.B64E Go.Proofs.Ytflklgcnjliipaa.Regs

theorem mem_strip {U : List UInt8} {c : UInt8} (h : c ∈ U) (hc : c ≠ 61) : c ∈ strip U := by
  unfold strip
  split
  · rename_i hl
    obtain ⟨ys, e⟩ := List.getLast?_eq_some_iff.1 hl
    subst e
    rw [List.dropLast_concat]
    rcases List.mem_append.1 h with h | h
    · exact h
    · simp at h
      exact absurd h hc
  · exact h
theorem mem_unp {U : List UInt8} {c : UInt8} (h : c ∈ U) (hc : c ≠ 61) : c ∈ unp U := by
  unfold unp
  split
  · exact mem_strip (mem_strip h hc) hc
  · exact h
theorem odd_not (X Y : List UInt8) (c : UInt8) (hb : B64N.blank c = false) (hc : c ≠ 61) (hn : num c < 0) : dOk (X ++ [c] ++ Y) = false := by
  unfold dOk
  rw [decide_eq_false_iff_not]
  rintro ⟨_, h⟩
  have hm : c ∈ unb (X ++ [c] ++ Y) := by
    unfold unb
    rw [List.mem_filter]
    exact ⟨by simp, by rw [hb]; rfl⟩
  have := h c (mem_unp hm hc)
  omega
theorem two_not (c : UInt8) (hb : B64N.blank c = false) (h : dOk [c, 65] = false) : num c < 0 := by
  have hu : txt [c, 65] = [c, 65] := by
    unfold txt unb
    rw [List.filter_cons_of_pos (by rw [hb]; rfl), List.filter_cons_of_pos (by decide), List.filter_nil]
    rfl
  unfold dOk at h
  rw [hu, decide_eq_false_iff_not] at h
  have hr := num_range c
  by_cases h0 : 0 ≤ num c
  · exact absurd ⟨by simp, by
      intro x hx
      simp at hx
      rcases hx with rfl | rfl
      · exact h0
      · decide⟩ h
  · omega
set_option linter.unusedSimpArgs false in
set_option maxHeartbeats 8000000 in
set_option maxRecDepth 100000 in
theorem BaseOdd_any (A : Option Addr) (n cap : Nat) (L : List UInt8) (za zc : Int) (w : World) (hr : Rds w A n (bcells L)) (hc : n ≤ cap) (_hm : cap ≤ maxLen) (ha : 0 ≤ za ∧ za ≤ 255) (hzc : 0 ≤ zc ∧ zc ≤ 255) :
    Calls Try.prog 7 #[.slice A n cap, .int .u8 za, .int .u8 zc] w fun e w' => e = .returned (.bool true) ∧ Below w.heap.size w w' := by
  have hl : L.length = n := by rw [← length_bcells]; exact hr.1
  have HL := hid hl
  have HR := hid hr
  clear hl hr
  by_cases h1 : n ≤ 100
  · have p1 : ¬ (100 : Int) < (n : Int) := by omega
    obtain ⟨ha0, ha1⟩ := ha
    obtain ⟨y, rfl⟩ : ∃ y : Nat, za = (y : Int) := ⟨za.toNat, by omega⟩
    obtain ⟨hc0, hc1⟩ := hzc
    obtain ⟨c, rfl⟩ : ∃ c : UInt8, zc = (c.toNat : Int) := ⟨UInt8.ofNat zc.toNat, by simp; omega⟩
    have hcase : dOk [c, 65] = true ∨ dOk [c, 65] = false ∧ ((c.toNat : Int) = 32 ∨ (c.toNat : Int) = 9 ∨ (c.toNat : Int) = 10 ∨ (c.toNat : Int) = 12 ∨ (c.toNat : Int) = 13 ∨ (c.toNat : Int) = 61) ∨
        dOk [c, 65] = false ∧ ¬ (c.toNat : Int) = 32 ∧ ¬ (c.toNat : Int) = 9 ∧ ¬ (c.toNat : Int) = 10 ∧ ¬ (c.toNat : Int) = 12 ∧ ¬ (c.toNat : Int) = 13 ∧ ¬ (c.toNat : Int) = 61 := by
      cases dOk [c, 65]
      · by_cases h : (c.toNat : Int) = 32 ∨ (c.toNat : Int) = 9 ∨ (c.toNat : Int) = 10 ∨ (c.toNat : Int) = 12 ∨ (c.toNat : Int) = 13 ∨ (c.toNat : Int) = 61
        · exact Or.inr (Or.inl ⟨rfl, h⟩)
        · exact Or.inr (Or.inr ⟨rfl, by omega, by omega, by omega, by omega, by omega, by omega⟩)
      · exact Or.inl rfl
    have hrow : ∀ w : World, (convert 22 9 (.slice (some ⟨w.heap.size, 0, none⟩) 2 2)).run Try.prog (w.alloc (.cells #[.int .u8 (c.toNat : Int), .int .u8 65] 5)) = .ok (.string (strOf [c, 65])) (w.alloc (.cells #[.int .u8 (c.toNat : Int), .int .u8 65] 5)) := fun w =>
      run_string_of 22 9 5 Try.underlying22 Try.underlying5 Try.underlying9 [c, 65] 2 (rds_const w [c, 65] 5 (0, 0))
    rcases hcase with ho | ⟨ho, h⟩ | ⟨ho, g1, g2, g3, g4, g5, g6⟩
    · have HO := hid ho
      clear ho
      go_enter Try.func7, Try.ntmps7
      go_wp2_with fail
      refine (B64W.awake_any _).mono ?_
      rintro e w1 ⟨rfl, hb1⟩
      go_wp2_with fail
      refine (B64F.ref_decode (strOf [c, 65]) _ (by rw [size_strOf]; simp)).mono ?_
      rintro e w3 ⟨A3, c3, rfl, hc3, hm3, hr3, hb3⟩
      rw [show (strOf [c, 65]).data.toList = [c, 65] from rfl, HO.out]
      go_wp2
      go_ret
      exact ⟨rfl, bel hb1 (((Below.refl _ _).alloc (Nat.le_refl _) _).trans (hb3.mono (by simp)))⟩
    · have HO := hid ho
      have HH := hid h
      clear ho h
      go_enter Try.func7, Try.ntmps7
      go_wp2_with fail
      refine (B64W.awake_any _).mono ?_
      rintro e w1 ⟨rfl, hb1⟩
      go_wp2_with fail
      refine (B64F.ref_decode (strOf [c, 65]) _ (by rw [size_strOf]; simp)).mono ?_
      rintro e w3 ⟨A3, c3, rfl, hc3, hm3, hr3, hb3⟩
      rw [show (strOf [c, 65]).data.toList = [c, 65] from rfl, HO.out]
      clear hrow hr3
      rcases HH.out with h | h | h | h | h | h
      all_goals
        first | have y1 : ¬ (c.toNat : Int) = 32 := by omega | skip
        first | have y2 : ¬ (c.toNat : Int) = 9 := by omega | skip
        first | have y3 : ¬ (c.toNat : Int) = 10 := by omega | skip
        first | have y4 : ¬ (c.toNat : Int) = 12 := by omega | skip
        first | have y5 : ¬ (c.toNat : Int) = 13 := by omega | skip
        go_wp2
        go_ret
        exact ⟨rfl, bel hb1 (((Below.refl _ _).alloc (Nat.le_refl _) _).trans (hb3.mono (by simp)))⟩
    · have n1 : ((c.toNat : Int) == 32) = false := by simpa using g1
      have n2 : ((c.toNat : Int) == 9) = false := by simpa using g2
      have n3 : ((c.toNat : Int) == 10) = false := by simpa using g3
      have n4 : ((c.toNat : Int) == 12) = false := by simpa using g4
      have n5 : ((c.toNat : Int) == 13) = false := by simpa using g5
      have n6 : ((c.toNat : Int) == 61) = false := by simpa using g6
      have hbl : B64N.blank c = false := by
        unfold B64N.blank
        simp
        omega
      have h61 : c ≠ 61 := fun e => g6 (by rw [e]; rfl)
      have hneg := two_not c hbl ho
      obtain ⟨E, hE⟩ : ∃ E, E = e64 L := ⟨_, rfl⟩
      have hEL : E.length ≤ 136 := by rw [hE, e64_len, HL.out]; omega
      obtain ⟨N, hN⟩ : ∃ N, (strOf E).size = N := ⟨_, rfl⟩
      have hNE : N = E.length := by rw [← hN, size_strOf]
      obtain ⟨k, hk⟩ : ∃ k, k = y % (N + 1) := ⟨_, rfl⟩
      have hkn : k ≤ N := by rw [hk]; have := Nat.mod_lt y (show 0 < N + 1 by omega); omega
      have hkn' : (k : Int) ≤ (N : Int) := by omega
      have hk2 : (y : Int) % ((N : Int) + 1) = (k : Int) := by rw [hk]; simp
      have hk1 : (y : Int).tmod ((N : Int) + 1) = (k : Int) := by rw [Int.tmod_eq_emod_of_nonneg (by omega)]; exact hk2
      have hk0 : ¬ ((N : Int) + 1 = 0) := by omega
      have hNs : N ≤ 136 := by omega
      obtain ⟨M, hM⟩ : ∃ M, M = E.take k ++ [c] := ⟨_, rfl⟩
      obtain ⟨J, hJ⟩ : ∃ J, J = M ++ E.drop k := ⟨_, rfl⟩
      have HO2 : Hid (dOk J = false) := by
        rw [hJ, hM]
        exact odd_not _ _ c hbl h61 hneg
      have HD2 : Hid (dB J = []) := by
        show dB J = []
        unfold dB
        rw [HO2.out]
        rfl
      have HJL : Hid (J.length ≤ 137) := by show _ ≤ _; rw [hJ, hM]; simp; omega
      have HM := hid hM
      have HJ := hid hJ
      have HEL := hid hEL
      have HE : Hid (e64 L = E) := hE.symm
      have HN := hid hN
      have HO := hid ho
      clear ho hbl h61 hneg hk hM hJ hE hEL hNE
      go_enter Try.func7, Try.ntmps7
      go_wp2_with fail
      refine (B64W.awake_any _).mono ?_
      rintro e w1 ⟨rfl, hb1⟩
      have HR1 := hid (HR.out.below hb1)
      go_wp2_with fail
      refine (B64F.ref_decode (strOf [c, 65]) _ (by rw [size_strOf]; simp)).mono ?_
      rintro e w2 ⟨A3, c3, rfl, hc3, hm3, hr3, hb2⟩
      rw [show (strOf [c, 65]).data.toList = [c, 65] from rfl, HO.out]
      have hb12 : Below w1.heap.size w1 w2 := ((Below.refl _ _).alloc (Nat.le_refl _) _).trans (hb2.mono (by simp))
      have HR2 := hid (HR1.out.below hb12)
      clear hr3 hc3 hm3
      go_wp2_with fail
      refine (encode_any A n cap L _ HR2.out hc (by omega)).mono ?_
      rintro e w3 ⟨rfl, hb3⟩
      rw [HE.out]
      clear hrow
      go_wp2
      clear g1 g2 g3 g4 g5 g6 n1 n2 n3 n4 n5 n6
      refine wp_region_rel (by kernel_rfl) [is (.string (strOf E)), is (.int .i64 (k : Int)), is (.string (strOf (E.take k))), is (.int .u8 (c.toNat : Int)), row 1 (bcells [c]), is (.string (strOf [c])), is (.string (strOf M)), is (.string (strOf E)), is (.int .i64 (k : Int)), is (.string (strOf (E.drop k))), is (.string (strOf J)), tup 0 [] false, tup 0 [] false, row 0 [], is (.bool false), row 0 [], is (.bool false)] [[], [], [0, 1], [], [3], [4], [2, 5], [], [], [7, 8], [6, 9], [10], [11], [12], [12], [13], [14]] (by kernel_rfl) ?_ ?_
      · refine ⟨?_, ?_, ?_, ?_, ?_, ?_, ?_, ?_, ?_, ?_, ?_, ?_, ?_, ?_, ?_, ?_, ?_, trivial⟩
        · intro t wq hbq hh K hK
          clear hh
          simp only [filled, upd, Have, is, any, row, pick, Act.put, List.setIfInBounds_toArray, List.set_cons_zero, List.set_cons_succ, Nat.reduceAdd, Nat.reduceEqDiff, reduceIte] at hK ⊢
          go_simp
          exact hK _ _ (Below.refl _ _) rfl
        · intro t wq hbq hh K hK
          clear hh
          simp only [filled, upd, Have, is, any, row, pick, Act.put, List.setIfInBounds_toArray, List.set_cons_zero, List.set_cons_succ, Nat.reduceAdd, Nat.reduceEqDiff, reduceIte] at hK ⊢
          go_simp
          exact hK _ _ (Below.refl _ _) rfl
        · intro t wq hbq hh K hK
          have e0 := hh.1
          simp only [pick] at e0
          replace e0 : t 0 = (.string (strOf E)) := e0
          have e1 := hh.2.1
          simp only [pick] at e1
          replace e1 : t 1 = (.int .i64 (k : Int)) := e1
          clear hh
          simp only [filled, upd, Have, is, any, row, pick, Act.put, List.setIfInBounds_toArray, List.set_cons_zero, List.set_cons_succ, Nat.reduceAdd, Nat.reduceEqDiff, reduceIte] at hK ⊢
          simp only [e0, e1] at hK ⊢
          go_simp
          exact hK _ _ (Below.refl _ _) (congrArg Value.string (ext_take (strOf E) k))
        · intro t wq hbq hh K hK
          clear hh
          simp only [filled, upd, Have, is, any, row, pick, Act.put, List.setIfInBounds_toArray, List.set_cons_zero, List.set_cons_succ, Nat.reduceAdd, Nat.reduceEqDiff, reduceIte] at hK ⊢
          go_simp
          exact hK _ _ (Below.refl _ _) rfl
        · intro t wq hbq hh K hK
          have e3 := hh.1
          simp only [pick] at e3
          replace e3 : t 3 = (.int .u8 (c.toNat : Int)) := e3
          clear hh
          simp only [filled, upd, Have, is, any, row, pick, Act.put, List.setIfInBounds_toArray, List.set_cons_zero, List.set_cons_succ, Nat.reduceAdd, Nat.reduceEqDiff, reduceIte] at hK ⊢
          simp only [e3] at hK ⊢
          go_simp
          exact hK _ _ ((Below.refl _ _).alloc (Nat.le_refl _) _) ⟨_, _, rfl, Nat.le_refl _, by decide, rds_const wq [c] 5 (0, 0)⟩
        · intro t wq hbq hh K hK
          have e4 := hh.1
          simp only [pick] at e4
          clear hh
          simp only [filled, upd, Have, is, any, row, pick, Act.put, List.setIfInBounds_toArray, List.set_cons_zero, List.set_cons_succ, Nat.reduceAdd, Nat.reduceEqDiff, reduceIte] at hK ⊢
          obtain ⟨A4, c4, e4, hc4, hm4, hr4⟩ := e4
          simp only [e4] at hK ⊢
          have hs := run_string_of 22 9 5 Try.underlying22 Try.underlying5 Try.underlying9 _ c4 hr4
          go_simp
          exact hK _ _ (Below.refl _ _) rfl
        · intro t wq hbq hh K hK
          have e2 := hh.1
          simp only [pick] at e2
          replace e2 : t 2 = (.string (strOf (E.take k))) := e2
          have e5 := hh.2.1
          simp only [pick] at e5
          replace e5 : t 5 = (.string (strOf [c])) := e5
          clear hh
          simp only [filled, upd, Have, is, any, row, pick, Act.put, List.setIfInBounds_toArray, List.set_cons_zero, List.set_cons_succ, Nat.reduceAdd, Nat.reduceEqDiff, reduceIte] at hK ⊢
          simp only [e2, e5] at hK ⊢
          have hadd : (Op.stringOp .add (strOf (E.take k)) (strOf [c])).run Try.prog wq = .ok (.string (strOf M)) wq := by rw [HM.out]; exact str_add (E.take k) [c] wq (by have := HEL.out; simp; omega)
          go_simp
          exact hK _ _ (Below.refl _ _) rfl
        · intro t wq hbq hh K hK
          clear hh
          simp only [filled, upd, Have, is, any, row, pick, Act.put, List.setIfInBounds_toArray, List.set_cons_zero, List.set_cons_succ, Nat.reduceAdd, Nat.reduceEqDiff, reduceIte] at hK ⊢
          go_simp
          exact hK _ _ (Below.refl _ _) rfl
        · intro t wq hbq hh K hK
          clear hh
          simp only [filled, upd, Have, is, any, row, pick, Act.put, List.setIfInBounds_toArray, List.set_cons_zero, List.set_cons_succ, Nat.reduceAdd, Nat.reduceEqDiff, reduceIte] at hK ⊢
          go_simp
          exact hK _ _ (Below.refl _ _) rfl
        · intro t wq hbq hh K hK
          have e7 := hh.1
          simp only [pick] at e7
          replace e7 : t 7 = (.string (strOf E)) := e7
          have e8 := hh.2.1
          simp only [pick] at e8
          replace e8 : t 8 = (.int .i64 (k : Int)) := e8
          clear hh
          simp only [filled, upd, Have, is, any, row, pick, Act.put, List.setIfInBounds_toArray, List.set_cons_zero, List.set_cons_succ, Nat.reduceAdd, Nat.reduceEqDiff, reduceIte] at hK ⊢
          simp only [e7, e8] at hK ⊢
          go_simp
          exact hK _ _ (Below.refl _ _) (congrArg Value.string (ext_drop (strOf E) k N HN.out.symm))
        · intro t wq hbq hh K hK
          have e6 := hh.1
          simp only [pick] at e6
          replace e6 : t 6 = (.string (strOf M)) := e6
          have e9 := hh.2.1
          simp only [pick] at e9
          replace e9 : t 9 = (.string (strOf (E.drop k))) := e9
          clear hh
          simp only [filled, upd, Have, is, any, row, pick, Act.put, List.setIfInBounds_toArray, List.set_cons_zero, List.set_cons_succ, Nat.reduceAdd, Nat.reduceEqDiff, reduceIte] at hK ⊢
          simp only [e6, e9] at hK ⊢
          have hadd : (Op.stringOp .add (strOf M) (strOf (E.drop k))).run Try.prog wq = .ok (.string (strOf J)) wq := by rw [HJ.out]; exact str_add M (E.drop k) wq (by have := HEL.out; rw [HM.out]; simp; omega)
          go_simp
          exact hK _ _ (Below.refl _ _) rfl
        · intro t wq hbq hh K hK
          have e10 := hh.1
          simp only [pick] at e10
          replace e10 : t 10 = (.string (strOf J)) := e10
          clear hh
          simp only [filled, upd, Have, is, any, row, pick, Act.put, List.setIfInBounds_toArray, List.set_cons_zero, List.set_cons_succ, Nat.reduceAdd, Nat.reduceEqDiff, reduceIte] at hK ⊢
          simp only [e10] at hK ⊢
          go_simp
          refine (decode_any (strOf J) _ (by have := HJL.out; rw [size_strOf]; omega)).mono ?_
          rintro e w5 ⟨v, rfl, hown, hb5⟩
          rw [show (strOf J).data.toList = J from rfl, HD2.out] at hown
          rw [show (strOf J).data.toList = J from rfl, HO2.out]
          obtain ⟨A5, c5, rfl, hc5, hm5, hr5⟩ := owns_form hown
          exact hK _ _ hb5 ⟨_, _, rfl, hc5, hm5, hr5⟩
        · intro t wq hbq hh K hK
          have e11 := hh.1
          simp only [pick] at e11
          clear hh
          simp only [filled, upd, Have, is, any, row, pick, Act.put, List.setIfInBounds_toArray, List.set_cons_zero, List.set_cons_succ, Nat.reduceAdd, Nat.reduceEqDiff, reduceIte] at hK ⊢
          obtain ⟨A11, c11, e11, hc11, hm11, hr11⟩ := e11
          simp only [e11] at hK ⊢
          go_simp
          exact hK _ _ (Below.refl _ _) ⟨_, _, rfl, hc11, hm11, hr11⟩
        · intro t wq hbq hh K hK
          have e12 := hh.1
          simp only [pick] at e12
          clear hh
          simp only [filled, upd, Have, is, any, row, pick, Act.put, List.setIfInBounds_toArray, List.set_cons_zero, List.set_cons_succ, Nat.reduceAdd, Nat.reduceEqDiff, reduceIte] at hK ⊢
          obtain ⟨A12, c12, e12, hc12, hm12, hr12⟩ := e12
          simp only [e12] at hK ⊢
          go_simp
          exact hK _ _ (Below.refl _ _) ⟨_, _, rfl, hc12, hm12, hr12⟩
        · intro t wq hbq hh K hK
          have e12 := hh.1
          simp only [pick] at e12
          clear hh
          simp only [filled, upd, Have, is, any, row, pick, Act.put, List.setIfInBounds_toArray, List.set_cons_zero, List.set_cons_succ, Nat.reduceAdd, Nat.reduceEqDiff, reduceIte] at hK ⊢
          obtain ⟨A12, c12, e12, hc12, hm12, hr12⟩ := e12
          simp only [e12] at hK ⊢
          go_simp
          exact hK _ _ (Below.refl _ _) rfl
        · intro t wq hbq hh K hK
          have e13 := hh.1
          simp only [pick] at e13
          clear hh
          simp only [filled, upd, Have, is, any, row, pick, Act.put, List.setIfInBounds_toArray, List.set_cons_zero, List.set_cons_succ, Nat.reduceAdd, Nat.reduceEqDiff, reduceIte] at hK ⊢
          obtain ⟨A13, c13, e13, hc13, hm13, hr13⟩ := e13
          simp only [e13] at hK ⊢
          go_simp
          exact hK _ _ (Below.refl _ _) ⟨_, _, rfl, hc13, hm13, hr13⟩
        · intro t wq hbq hh K hK
          have e14 := hh.1
          simp only [pick] at e14
          replace e14 : t 14 = (.bool false) := e14
          clear hh
          simp only [filled, upd, Have, is, any, row, pick, Act.put, List.setIfInBounds_toArray, List.set_cons_zero, List.set_cons_succ, Nat.reduceAdd, Nat.reduceEqDiff, reduceIte] at hK ⊢
          simp only [e14] at hK ⊢
          go_simp
          exact hK _ _ (Below.refl _ _) rfl
      · intro t wq hbq hh
        have f15 := have_get hh 15 (by decide)
        simp only [pick] at f15
        have f16 := have_get hh 16 (by decide)
        simp only [pick] at f16
        replace f16 : t 16 = (.bool false) := f16
        clear hh
        simp only [filled, upd, Have, is, any, row, pick, Act.put, List.setIfInBounds_toArray, List.set_cons_zero, List.set_cons_succ, Nat.reduceAdd, Nat.reduceEqDiff, reduceIte]
        obtain ⟨A15, c15, f15, hc15, hm15, hr15⟩ := f15
        simp only [f15, f16]
        go_wp2
        go_ret
        exact ⟨rfl, bel (bel (bel hb1 hb12) hb3) hbq⟩
  · have p1 : (100 : Int) < (n : Int) := by omega
    go_enter Try.func7, Try.ntmps7
    go_wp2_with fail
    refine (B64W.awake_any _).mono ?_
    rintro e w1 ⟨rfl, hb1⟩
    go_wp2_with fail
    refine (B64W.awake_any _).mono ?_
    rintro e w2 ⟨rfl, hb2⟩
    go_wp2_with fail
    go_ret
    exact ⟨rfl, bel hb1 hb2⟩
end Go.Proofs.Ytflklgcnjliipaa.Laws
