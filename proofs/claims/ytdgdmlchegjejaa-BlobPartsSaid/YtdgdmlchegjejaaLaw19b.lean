/- The walk of the law BlobParts: it returns true, whatever it is called with. -/
import Derived.Test.YtdgdmlchegjejaaBlobW
namespace Go.Proofs.Ytdgdmlchegjejaa.Laws
open Go.RowKit Go.Proofs.Ytdgdmlchegjejaa.Base Go.Proofs.Ytdgdmlchegjejaa.Base2 Go.Proofs.Ytdgdmlchegjejaa.BlobA Go.Proofs.Ytdgdmlchegjejaa.BlobB Go.Proofs.Ytdgdmlchegjejaa.BlobC Go.Proofs.Ytdgdmlchegjejaa.BlobD Go.Proofs.Ytdgdmlchegjejaa.Regs

theorem pl_at (k l n : Nat) (h : k ≤ n) : pl (some (k : Int)) l n = k := by
  unfold pl plc
  simp only
  rw [if_neg (by omega)]
  simp
  omega
theorem pl_back (k l n : Nat) (h : k < n) : pl (some ((k : Int) - (n : Int))) l n = k := by
  unfold pl plc
  simp only
  rw [if_pos (by omega)]
  omega
set_option linter.unusedSimpArgs false in
set_option maxHeartbeats 8000000 in
set_option maxRecDepth 100000 in
theorem BlobParts_any (A : Option Addr) (n cap : Nat) (L : List UInt8) (z : Int) (w : World) (hr : Rds w A n (bcells L)) (_hc : n ≤ cap) (_hm : cap ≤ maxLen) (hz : 0 ≤ z ∧ z ≤ 65535) :
    Calls Try.prog 5 #[.slice A n cap, .int .u16 z] w fun e w' => e = .returned (.bool true) ∧ Below w.heap.size w w' := by
  have hl : L.length = n := by rw [← length_bcells]; exact hr.1
  have HL0 := hid hl
  have HR := hid hr
  clear hl hr
  by_cases h1 : n ≤ 300
  · have p1 : ¬ (300 : Int) < (n : Int) := by omega
    obtain ⟨hz0, hz1⟩ := hz
    obtain ⟨a, rfl⟩ : ∃ a : Nat, z = (a : Int) := ⟨z.toNat, by omega⟩
    obtain ⟨k, hk⟩ : ∃ k, k = a % (n + 1) := ⟨_, rfl⟩
    have hkn : k ≤ n := by rw [hk]; have := Nat.mod_lt a (show 0 < n + 1 by omega); omega
    have hk2 : (a : Int) % ((n : Int) + 1) = (k : Int) := by rw [hk]; simp
    have hk1 : (a : Int).tmod ((n : Int) + 1) = (k : Int) := by rw [Int.tmod_eq_emod_of_nonneg (by omega)]; exact hk2
    have hk0 : ¬ ((n : Int) + 1 = 0) := by omega
    have hk3 : (k : Int) ≤ 300 := by omega
    have hk4 : (0 : Int) ≤ (k : Int) := by omega
    obtain ⟨HL, hHL⟩ : ∃ HL, L.take k = HL := ⟨_, rfl⟩
    obtain ⟨TT, hTT⟩ : ∃ TT, L.drop k = TT := ⟨_, rfl⟩
    have HLL : Hid (HL ++ TT = L) := by show _ = _; rw [← hHL, ← hTT, List.take_append_drop]
    have HLN : Hid (HL.length + TT.length ≤ 300) := by
      have := congrArg List.length HLL.out
      rw [List.length_append, HL0.out] at this
      show _ ≤ _
      omega
    have HH1 := hid hHL
    have HT1 := hid hTT
    clear hk hHL hTT
    go_enter Try.func5, Try.ntmps5
    go_wp2_with fail
    refine (BlobW.awake_any _).mono ?_
    rintro e w1 ⟨rfl, hb1⟩
    have HR1 := hid (HR.out.below hb1)
    go_wp2_with fail
    generalize hw2 : w1.alloc _ = w2
    have hs2 : w2.heap.size = w1.heap.size + 1 := by rw [← hw2]; simp
    have hb12 : Below w1.heap.size w1 w2 := by rw [← hw2]; exact (Below.refl _ _).alloc (Nat.le_refl _) _
    have hc2 : w2.cell? ⟨w1.heap.size, 0, none⟩ = some (.int .i64 (k : Int)) := by rw [← hw2, World.cell?_alloc_mark]; rfl
    clear hw2
    have HR2 := hid (HR1.out.below hb12)
    refine (new_any A n cap L (strOf []) _ HR2.out (by omega) (by decide)).mono ?_
    rintro e w3 ⟨gx, rfl, hgx, hblob, hb3⟩
    have HB3 := hid hblob
    clear hblob
    have hc3 : w3.cell? ⟨w1.heap.size, 0, none⟩ = some (.int .i64 (k : Int)) := (hb3.cell (p := ⟨w1.heap.size, 0, none⟩) (by show w1.heap.size < _; omega)).trans hc2
    have hs3 : w1.heap.size < w3.heap.size := by have := hb3.size; omega
    have HR3 := hid (HR2.out.below hb3)
    clear hc2
    go_wp2_with fail
    generalize hw4 : w3.alloc _ = w4
    have hb34 : Below w3.heap.size w3 w4 := by rw [← hw4]; exact (Below.refl _ _).alloc (Nat.le_refl _) _
    have hs4 : w4.heap.size = w3.heap.size + 1 := by rw [← hw4]; simp
    have hcb : w4.cell? ⟨w3.heap.size, 0, none⟩ = some (.int .i64 ((k : Int) - (n : Int))) := by rw [← hw4, World.cell?_alloc_mark]; rfl
    clear hw4
    have hck : w4.cell? ⟨w1.heap.size, 0, none⟩ = some (.int .i64 (k : Int)) := (hb34.cell (p := ⟨w1.heap.size, 0, none⟩) hs3).trans hc3
    have HPk : Hid (Ptr w4 (.pointer (some ⟨w1.heap.size, 0, none⟩)) (some (k : Int))) := Or.inr ⟨w1.heap.size, _, rfl, by omega, hck, by omega, by omega, rfl⟩
    have HPb : Hid (Ptr w4 (.pointer (some ⟨w3.heap.size, 0, none⟩)) (some ((k : Int) - (n : Int)))) := Or.inr ⟨w3.heap.size, _, rfl, by omega, hcb, by omega, by omega, rfl⟩
    have HB4 := hid (HB3.out.below hb34)
    have HR4 := hid (HR3.out.below hb34)
    clear hc3 hcb
    refine (slice_any gx n L _ (.pointer none) _ none _ (strOf []) _ HB4.out (by omega) (Or.inl ⟨rfl, rfl⟩) HPk.out (by decide)).mono ?_
    rintro e w5 ⟨gh, rfl, hgh, hblob, hb5⟩
    have HBH5 : Hid (BlobAt w5 gh k HL (kd [])) := by
      rw [pl_at k n n hkn] at hblob
      have e0 : pl none 0 n = 0 := rfl
      rw [e0, List.drop_zero, Nat.sub_zero, show max 0 k = k by omega, HH1.out] at hblob
      exact hblob
    clear hblob
    have HB5 := hid (HB4.out.below hb5)
    have HPk5 := hid (HPk.out.below hb5)
    have HPb5 := hid (HPb.out.below hb5)
    go_wp2_with fail
    refine (slice_any gx n L _ _ (.pointer none) _ none (strOf []) _ HB5.out (by omega) HPk5.out (Or.inl ⟨rfl, rfl⟩) (by decide)).mono ?_
    rintro e w6 ⟨gt, rfl, hgt, hblob, hb6⟩
    have HBT6 : Hid (BlobAt w6 gt (n - k) TT (kd [])) := by
      rw [pl_at k 0 n hkn] at hblob
      have e0 : pl none n n = n := rfl
      rw [e0, show max k n - k = n - k by omega, HT1.out, List.take_of_length_le (by rw [← HT1.out, List.length_drop, HL0.out]; exact Nat.le_refl _)] at hblob
      exact hblob
    clear hblob
    have HB6 := hid (HB5.out.below hb6)
    have HPb6 := hid (HPb5.out.below hb6)
    go_wp2_with fail
    refine (slice_any gx n L _ _ (.pointer none) _ none (strOf []) _ HB6.out (by omega) HPb6.out (Or.inl ⟨rfl, rfl⟩) (by decide)).mono ?_
    rintro e w7 ⟨ga, rfl, hga, hblob, hb7⟩
    have hb47 : Below w4.heap.size w4 w7 := bel (bel hb5 hb6) hb7
    have hck7 : w7.cell? ⟨w1.heap.size, 0, none⟩ = some (.int .i64 (k : Int)) := (hb47.cell (p := ⟨w1.heap.size, 0, none⟩) (by show w1.heap.size < _; omega)).trans hck
    have HBX := hid (HB6.out.below hb7)
    have HBH := hid ((HBH5.out.below hb6).below hb7)
    have HBT := hid (HBT6.out.below hb7)
    have HR9 := hid (HR4.out.below hb47)
    have hbAll : Below w.heap.size w w7 := bel (bel (bel (bel hb1 hb12) hb3) hb34) hb47
    have hsum : (k : Int) + ((n - k : Nat) : Int) = (n : Int) := by omega
    have hHN : HL.length = k := by rw [← HH1.out, List.length_take, HL0.out]; omega
    by_cases hkl : (k : Int) = (n : Int)
    · clear hblob
      go_wp2
      clear hkl hck hck7 hk1 hk2 p1
      clear HPk HPb HB4 HB5 HB6
      refine wp_region_rel (by kernel_rfl) [is (.pointer (some ⟨gh, 0, none⟩)), row k (bcells HL), is (.string (strOf HL)), is (.pointer (some ⟨gt, 0, none⟩)), row (n - k) (bcells TT), is (.string (strOf TT)), is (.string (strOf L)), is (.slice A n cap), is (.string (strOf L)), is (.bool true), is (.bool true), is (.pointer (some ⟨gh, 0, none⟩)), is (.int .i64 (k : Int)), is (.pointer (some ⟨gt, 0, none⟩)), is (.int .i64 ((n - k : Nat) : Int)), is (.int .i64 (n : Int)), is (.pointer (some ⟨gx, 0, none⟩)), is (.int .i64 (n : Int)), is (.bool true), is (.bool true), is (.bool true), is (.pointer (some ⟨gt, 0, none⟩)), row (n - k) (bcells TT), is (.string (strOf TT)), is (.pointer (some ⟨gt, 0, none⟩)), row (n - k) (bcells TT), is (.string (strOf TT)), is (.bool true), is (.bool true), is (.bool true)] [[], [0], [1], [], [3], [4], [2, 5], [], [7], [6, 8], [9], [10], [10, 11], [10], [10, 13], [10, 12, 14], [10], [10, 16], [10, 15, 17], [10, 18], [19], [20], [20, 21], [20, 22], [20], [20, 24], [20, 25], [20, 23, 26], [20, 27], [28]] (by kernel_rfl) ?_ ?_
      · refine ⟨?_, ?_, ?_, ?_, ?_, ?_, ?_, ?_, ?_, ?_, ?_, ?_, ?_, ?_, ?_, ?_, ?_, ?_, ?_, ?_, ?_, ?_, ?_, ?_, ?_, ?_, ?_, ?_, ?_, ?_, trivial⟩
        · intro t wq hbq hh K hK
          clear hh
          simp only [filled, upd, Have, is, any, row, pick, Act.put, List.setIfInBounds_toArray, List.set_cons_zero, List.set_cons_succ, Nat.reduceAdd, Nat.reduceEqDiff, reduceIte] at hK ⊢
          go_simp
          exact hK _ _ (Below.refl _ _) rfl
        · intro t wq hbq hh K hK
          have e0 := hh.1
          simp only [pick] at e0
          replace e0 : t 0 = (.pointer (some ⟨gh, 0, none⟩)) := e0
          clear hh
          simp only [filled, upd, Have, is, any, row, pick, Act.put, List.setIfInBounds_toArray, List.set_cons_zero, List.set_cons_succ, Nat.reduceAdd, Nat.reduceEqDiff, reduceIte] at hK ⊢
          simp only [e0] at hK ⊢
          go_simp
          refine (bytes_any gh k HL _ _ (HBH.out.below hbq) (by omega)).mono ?_
          rintro e w5 ⟨v, rfl, hown, hb5⟩
          obtain ⟨A5, c5, rfl, hc5, hm5, hr5⟩ := owns_form hown
          exact hK _ _ hb5 ⟨_, _, rfl, hc5, hm5, hr5⟩
        · intro t wq hbq hh K hK
          have e1 := hh.1
          simp only [pick] at e1
          clear hh
          simp only [filled, upd, Have, is, any, row, pick, Act.put, List.setIfInBounds_toArray, List.set_cons_zero, List.set_cons_succ, Nat.reduceAdd, Nat.reduceEqDiff, reduceIte] at hK ⊢
          obtain ⟨A1, c1, e1, hc1, hm1, hr1⟩ := e1
          simp only [e1] at hK ⊢
          have hs := run_string_of 22 9 5 Try.underlying22 Try.underlying5 Try.underlying9 _ c1 hr1
          go_simp
          exact hK _ _ (Below.refl _ _) rfl
        · intro t wq hbq hh K hK
          clear hh
          simp only [filled, upd, Have, is, any, row, pick, Act.put, List.setIfInBounds_toArray, List.set_cons_zero, List.set_cons_succ, Nat.reduceAdd, Nat.reduceEqDiff, reduceIte] at hK ⊢
          go_simp
          exact hK _ _ (Below.refl _ _) rfl
        · intro t wq hbq hh K hK
          have e3 := hh.1
          simp only [pick] at e3
          replace e3 : t 3 = (.pointer (some ⟨gt, 0, none⟩)) := e3
          clear hh
          simp only [filled, upd, Have, is, any, row, pick, Act.put, List.setIfInBounds_toArray, List.set_cons_zero, List.set_cons_succ, Nat.reduceAdd, Nat.reduceEqDiff, reduceIte] at hK ⊢
          simp only [e3] at hK ⊢
          go_simp
          refine (bytes_any gt (n - k) TT _ _ (HBT.out.below hbq) (by omega)).mono ?_
          rintro e w5 ⟨v, rfl, hown, hb5⟩
          obtain ⟨A5, c5, rfl, hc5, hm5, hr5⟩ := owns_form hown
          exact hK _ _ hb5 ⟨_, _, rfl, hc5, hm5, hr5⟩
        · intro t wq hbq hh K hK
          have e4 := hh.1
          simp only [pick] at e4
          clear hh
          simp only [filled, upd, Have, is, any, row, pick, Act.put, List.setIfInBounds_toArray, List.set_cons_zero, List.set_cons_succ, Nat.reduceAdd, Nat.reduceEqDiff, reduceIte] at hK ⊢
          obtain ⟨A4, c4, e4, hc4, hm4, hr4⟩ := e4
          simp only [e4] at hK ⊢
          have hs := run_string_of 22 9 5 Try.underlying22 Try.underlying5 Try.underlying9 _ c4 hr4
          go_simp
          exact hK _ _ (Below.refl _ _) rfl
        · intro t wq hbq hh K hK
          have e2 := hh.1
          simp only [pick] at e2
          replace e2 : t 2 = (.string (strOf HL)) := e2
          have e5 := hh.2.1
          simp only [pick] at e5
          replace e5 : t 5 = (.string (strOf TT)) := e5
          clear hh
          simp only [filled, upd, Have, is, any, row, pick, Act.put, List.setIfInBounds_toArray, List.set_cons_zero, List.set_cons_succ, Nat.reduceAdd, Nat.reduceEqDiff, reduceIte] at hK ⊢
          simp only [e2, e5] at hK ⊢
          have hadd : (Op.stringOp .add (strOf HL) (strOf TT)).run Try.prog wq = .ok (.string (strOf L)) wq := by have := str_add (P := Try.prog) HL TT wq (by have := HLN.out; omega); rw [HLL.out] at this; exact this
          go_simp
          exact hK _ _ (Below.refl _ _) rfl
        · intro t wq hbq hh K hK
          clear hh
          simp only [filled, upd, Have, is, any, row, pick, Act.put, List.setIfInBounds_toArray, List.set_cons_zero, List.set_cons_succ, Nat.reduceAdd, Nat.reduceEqDiff, reduceIte] at hK ⊢
          go_simp
          exact hK _ _ (Below.refl _ _) rfl
        · intro t wq hbq hh K hK
          have e7 := hh.1
          simp only [pick] at e7
          replace e7 : t 7 = (.slice A n cap) := e7
          clear hh
          simp only [filled, upd, Have, is, any, row, pick, Act.put, List.setIfInBounds_toArray, List.set_cons_zero, List.set_cons_succ, Nat.reduceAdd, Nat.reduceEqDiff, reduceIte] at hK ⊢
          simp only [e7] at hK ⊢
          have hs := run_string_of 22 9 5 Try.underlying22 Try.underlying5 Try.underlying9 _ cap (HR9.out.below hbq)
          go_simp
          exact hK _ _ (Below.refl _ _) rfl
        · intro t wq hbq hh K hK
          have e6 := hh.1
          simp only [pick] at e6
          replace e6 : t 6 = (.string (strOf L)) := e6
          have e8 := hh.2.1
          simp only [pick] at e8
          replace e8 : t 8 = (.string (strOf L)) := e8
          clear hh
          simp only [filled, upd, Have, is, any, row, pick, Act.put, List.setIfInBounds_toArray, List.set_cons_zero, List.set_cons_succ, Nat.reduceAdd, Nat.reduceEqDiff, reduceIte] at hK ⊢
          simp only [e6, e8] at hK ⊢
          go_simp
          exact hK _ _ (Below.refl _ _) (by simp)
        · intro t wq hbq hh K hK
          have e9 := hh.1
          simp only [pick] at e9
          replace e9 : t 9 = (.bool true) := e9
          clear hh
          simp only [filled, upd, Have, is, any, row, pick, Act.put, List.setIfInBounds_toArray, List.set_cons_zero, List.set_cons_succ, Nat.reduceAdd, Nat.reduceEqDiff, reduceIte] at hK ⊢
          simp only [e9] at hK ⊢
          go_simp
          exact hK _ _ (Below.refl _ _) rfl
        · intro t wq hbq hh K hK
          have e10 := hh.1
          simp only [pick] at e10
          replace e10 : t 10 = (.bool true) := e10
          clear hh
          simp only [filled, upd, Have, is, any, row, pick, Act.put, List.setIfInBounds_toArray, List.set_cons_zero, List.set_cons_succ, Nat.reduceAdd, Nat.reduceEqDiff, reduceIte] at hK ⊢
          simp only [e10] at hK ⊢
          go_simp
          exact hK _ _ (Below.refl _ _) rfl
        · intro t wq hbq hh K hK
          have e10 := hh.1
          simp only [pick] at e10
          replace e10 : t 10 = (.bool true) := e10
          have e11 := hh.2.1
          simp only [pick] at e11
          replace e11 : t 11 = (.pointer (some ⟨gh, 0, none⟩)) := e11
          clear hh
          simp only [filled, upd, Have, is, any, row, pick, Act.put, List.setIfInBounds_toArray, List.set_cons_zero, List.set_cons_succ, Nat.reduceAdd, Nat.reduceEqDiff, reduceIte] at hK ⊢
          simp only [e10, e11] at hK ⊢
          go_simp
          refine (len_any gh k _ _ _ (HBH.out.below hbq)).mono ?_
          rintro e w5 ⟨rfl, hb5⟩
          exact hK _ _ hb5 rfl
        · intro t wq hbq hh K hK
          have e10 := hh.1
          simp only [pick] at e10
          replace e10 : t 10 = (.bool true) := e10
          clear hh
          simp only [filled, upd, Have, is, any, row, pick, Act.put, List.setIfInBounds_toArray, List.set_cons_zero, List.set_cons_succ, Nat.reduceAdd, Nat.reduceEqDiff, reduceIte] at hK ⊢
          simp only [e10] at hK ⊢
          go_simp
          exact hK _ _ (Below.refl _ _) rfl
        · intro t wq hbq hh K hK
          have e10 := hh.1
          simp only [pick] at e10
          replace e10 : t 10 = (.bool true) := e10
          have e13 := hh.2.1
          simp only [pick] at e13
          replace e13 : t 13 = (.pointer (some ⟨gt, 0, none⟩)) := e13
          clear hh
          simp only [filled, upd, Have, is, any, row, pick, Act.put, List.setIfInBounds_toArray, List.set_cons_zero, List.set_cons_succ, Nat.reduceAdd, Nat.reduceEqDiff, reduceIte] at hK ⊢
          simp only [e10, e13] at hK ⊢
          go_simp
          refine (len_any gt (n - k) _ _ _ (HBT.out.below hbq)).mono ?_
          rintro e w5 ⟨rfl, hb5⟩
          exact hK _ _ hb5 rfl
        · intro t wq hbq hh K hK
          have e10 := hh.1
          simp only [pick] at e10
          replace e10 : t 10 = (.bool true) := e10
          have e12 := hh.2.1
          simp only [pick] at e12
          replace e12 : t 12 = (.int .i64 (k : Int)) := e12
          have e14 := hh.2.2.1
          simp only [pick] at e14
          replace e14 : t 14 = (.int .i64 ((n - k : Nat) : Int)) := e14
          clear hh
          simp only [filled, upd, Have, is, any, row, pick, Act.put, List.setIfInBounds_toArray, List.set_cons_zero, List.set_cons_succ, Nat.reduceAdd, Nat.reduceEqDiff, reduceIte] at hK ⊢
          simp only [e10, e12, e14] at hK ⊢
          go_simp
          first | exact hK _ _ (Below.refl _ _) rfl | exact hK _ _ (Below.refl _ _) (int_wrap (by omega) (by omega)) | exact hK _ _ (Below.refl _ _) (by rw [hsum]; exact int_wrap (by omega) (by omega)) | exact hK _ _ (Below.refl _ _) (by rw [hsum])
        · intro t wq hbq hh K hK
          have e10 := hh.1
          simp only [pick] at e10
          replace e10 : t 10 = (.bool true) := e10
          clear hh
          simp only [filled, upd, Have, is, any, row, pick, Act.put, List.setIfInBounds_toArray, List.set_cons_zero, List.set_cons_succ, Nat.reduceAdd, Nat.reduceEqDiff, reduceIte] at hK ⊢
          simp only [e10] at hK ⊢
          go_simp
          exact hK _ _ (Below.refl _ _) rfl
        · intro t wq hbq hh K hK
          have e10 := hh.1
          simp only [pick] at e10
          replace e10 : t 10 = (.bool true) := e10
          have e16 := hh.2.1
          simp only [pick] at e16
          replace e16 : t 16 = (.pointer (some ⟨gx, 0, none⟩)) := e16
          clear hh
          simp only [filled, upd, Have, is, any, row, pick, Act.put, List.setIfInBounds_toArray, List.set_cons_zero, List.set_cons_succ, Nat.reduceAdd, Nat.reduceEqDiff, reduceIte] at hK ⊢
          simp only [e10, e16] at hK ⊢
          go_simp
          refine (len_any gx n _ _ _ (HBX.out.below hbq)).mono ?_
          rintro e w5 ⟨rfl, hb5⟩
          exact hK _ _ hb5 rfl
        · intro t wq hbq hh K hK
          have e10 := hh.1
          simp only [pick] at e10
          replace e10 : t 10 = (.bool true) := e10
          have e15 := hh.2.1
          simp only [pick] at e15
          replace e15 : t 15 = (.int .i64 (n : Int)) := e15
          have e17 := hh.2.2.1
          simp only [pick] at e17
          replace e17 : t 17 = (.int .i64 (n : Int)) := e17
          clear hh
          simp only [filled, upd, Have, is, any, row, pick, Act.put, List.setIfInBounds_toArray, List.set_cons_zero, List.set_cons_succ, Nat.reduceAdd, Nat.reduceEqDiff, reduceIte] at hK ⊢
          simp only [e10, e15, e17] at hK ⊢
          go_simp
          exact hK _ _ (Below.refl _ _) (by simp)
        · intro t wq hbq hh K hK
          have e10 := hh.1
          simp only [pick] at e10
          replace e10 : t 10 = (.bool true) := e10
          have e18 := hh.2.1
          simp only [pick] at e18
          replace e18 : t 18 = (.bool true) := e18
          clear hh
          simp only [filled, upd, Have, is, any, row, pick, Act.put, List.setIfInBounds_toArray, List.set_cons_zero, List.set_cons_succ, Nat.reduceAdd, Nat.reduceEqDiff, reduceIte] at hK ⊢
          simp only [e10, e18] at hK ⊢
          go_simp
          exact hK _ _ (Below.refl _ _) rfl
        · intro t wq hbq hh K hK
          have e19 := hh.1
          simp only [pick] at e19
          replace e19 : t 19 = (.bool true) := e19
          clear hh
          simp only [filled, upd, Have, is, any, row, pick, Act.put, List.setIfInBounds_toArray, List.set_cons_zero, List.set_cons_succ, Nat.reduceAdd, Nat.reduceEqDiff, reduceIte] at hK ⊢
          simp only [e19] at hK ⊢
          go_simp
          exact hK _ _ (Below.refl _ _) rfl
        · intro t wq hbq hh K hK
          have e20 := hh.1
          simp only [pick] at e20
          replace e20 : t 20 = (.bool true) := e20
          clear hh
          simp only [filled, upd, Have, is, any, row, pick, Act.put, List.setIfInBounds_toArray, List.set_cons_zero, List.set_cons_succ, Nat.reduceAdd, Nat.reduceEqDiff, reduceIte] at hK ⊢
          simp only [e20] at hK ⊢
          go_simp
          exact hK _ _ (Below.refl _ _) rfl
        · intro t wq hbq hh K hK
          have e20 := hh.1
          simp only [pick] at e20
          replace e20 : t 20 = (.bool true) := e20
          have e21 := hh.2.1
          simp only [pick] at e21
          replace e21 : t 21 = (.pointer (some ⟨gt, 0, none⟩)) := e21
          clear hh
          simp only [filled, upd, Have, is, any, row, pick, Act.put, List.setIfInBounds_toArray, List.set_cons_zero, List.set_cons_succ, Nat.reduceAdd, Nat.reduceEqDiff, reduceIte] at hK ⊢
          simp only [e20, e21] at hK ⊢
          go_simp
          refine (bytes_any gt (n - k) TT _ _ (HBT.out.below hbq) (by omega)).mono ?_
          rintro e w5 ⟨v, rfl, hown, hb5⟩
          obtain ⟨A5, c5, rfl, hc5, hm5, hr5⟩ := owns_form hown
          exact hK _ _ hb5 ⟨_, _, rfl, hc5, hm5, hr5⟩
        · intro t wq hbq hh K hK
          have e20 := hh.1
          simp only [pick] at e20
          replace e20 : t 20 = (.bool true) := e20
          have e22 := hh.2.1
          simp only [pick] at e22
          clear hh
          simp only [filled, upd, Have, is, any, row, pick, Act.put, List.setIfInBounds_toArray, List.set_cons_zero, List.set_cons_succ, Nat.reduceAdd, Nat.reduceEqDiff, reduceIte] at hK ⊢
          obtain ⟨A22, c22, e22, hc22, hm22, hr22⟩ := e22
          simp only [e20, e22] at hK ⊢
          have hs := run_string_of 22 9 5 Try.underlying22 Try.underlying5 Try.underlying9 _ c22 hr22
          go_simp
          exact hK _ _ (Below.refl _ _) rfl
        · intro t wq hbq hh K hK
          have e20 := hh.1
          simp only [pick] at e20
          replace e20 : t 20 = (.bool true) := e20
          clear hh
          simp only [filled, upd, Have, is, any, row, pick, Act.put, List.setIfInBounds_toArray, List.set_cons_zero, List.set_cons_succ, Nat.reduceAdd, Nat.reduceEqDiff, reduceIte] at hK ⊢
          simp only [e20] at hK ⊢
          go_simp
          exact hK _ _ (Below.refl _ _) rfl
        · intro t wq hbq hh K hK
          have e20 := hh.1
          simp only [pick] at e20
          replace e20 : t 20 = (.bool true) := e20
          have e24 := hh.2.1
          simp only [pick] at e24
          replace e24 : t 24 = (.pointer (some ⟨gt, 0, none⟩)) := e24
          clear hh
          simp only [filled, upd, Have, is, any, row, pick, Act.put, List.setIfInBounds_toArray, List.set_cons_zero, List.set_cons_succ, Nat.reduceAdd, Nat.reduceEqDiff, reduceIte] at hK ⊢
          simp only [e20, e24] at hK ⊢
          go_simp
          refine (bytes_any gt (n - k) TT _ _ (HBT.out.below hbq) (by omega)).mono ?_
          rintro e w5 ⟨v, rfl, hown, hb5⟩
          obtain ⟨A5, c5, rfl, hc5, hm5, hr5⟩ := owns_form hown
          exact hK _ _ hb5 ⟨_, _, rfl, hc5, hm5, hr5⟩
        · intro t wq hbq hh K hK
          have e20 := hh.1
          simp only [pick] at e20
          replace e20 : t 20 = (.bool true) := e20
          have e25 := hh.2.1
          simp only [pick] at e25
          clear hh
          simp only [filled, upd, Have, is, any, row, pick, Act.put, List.setIfInBounds_toArray, List.set_cons_zero, List.set_cons_succ, Nat.reduceAdd, Nat.reduceEqDiff, reduceIte] at hK ⊢
          obtain ⟨A25, c25, e25, hc25, hm25, hr25⟩ := e25
          simp only [e20, e25] at hK ⊢
          have hs := run_string_of 22 9 5 Try.underlying22 Try.underlying5 Try.underlying9 _ c25 hr25
          go_simp
          exact hK _ _ (Below.refl _ _) rfl
        · intro t wq hbq hh K hK
          have e20 := hh.1
          simp only [pick] at e20
          replace e20 : t 20 = (.bool true) := e20
          have e23 := hh.2.1
          simp only [pick] at e23
          replace e23 : t 23 = (.string (strOf TT)) := e23
          have e26 := hh.2.2.1
          simp only [pick] at e26
          replace e26 : t 26 = (.string (strOf TT)) := e26
          clear hh
          simp only [filled, upd, Have, is, any, row, pick, Act.put, List.setIfInBounds_toArray, List.set_cons_zero, List.set_cons_succ, Nat.reduceAdd, Nat.reduceEqDiff, reduceIte] at hK ⊢
          simp only [e20, e23, e26] at hK ⊢
          go_simp
          exact hK _ _ (Below.refl _ _) (by simp)
        · intro t wq hbq hh K hK
          have e20 := hh.1
          simp only [pick] at e20
          replace e20 : t 20 = (.bool true) := e20
          have e27 := hh.2.1
          simp only [pick] at e27
          replace e27 : t 27 = (.bool true) := e27
          clear hh
          simp only [filled, upd, Have, is, any, row, pick, Act.put, List.setIfInBounds_toArray, List.set_cons_zero, List.set_cons_succ, Nat.reduceAdd, Nat.reduceEqDiff, reduceIte] at hK ⊢
          simp only [e20, e27] at hK ⊢
          go_simp
          exact hK _ _ (Below.refl _ _) rfl
        · intro t wq hbq hh K hK
          have e28 := hh.1
          simp only [pick] at e28
          replace e28 : t 28 = (.bool true) := e28
          clear hh
          simp only [filled, upd, Have, is, any, row, pick, Act.put, List.setIfInBounds_toArray, List.set_cons_zero, List.set_cons_succ, Nat.reduceAdd, Nat.reduceEqDiff, reduceIte] at hK ⊢
          simp only [e28] at hK ⊢
          go_simp
          exact hK _ _ (Below.refl _ _) rfl
      · intro t wq hbq hh
        have f29 := have_get hh 29 (by decide)
        simp only [pick] at f29
        replace f29 : t 29 = (.bool true) := f29
        clear hh
        simp only [filled, upd, Have, is, any, row, pick, Act.put, List.setIfInBounds_toArray, List.set_cons_zero, List.set_cons_succ, Nat.reduceAdd, Nat.reduceEqDiff, reduceIte]
        simp only [f29]
        go_wp2
        go_ret
        exact ⟨rfl, hbAll.trans (hbq.mono hbAll.size)⟩
    · have HBA : Hid (BlobAt w7 ga (n - k) TT (kd [])) := by
        rw [pl_back k 0 n (by omega)] at hblob
        have e0 : pl none n n = n := rfl
        rw [e0, show max k n - k = n - k by omega, HT1.out, List.take_of_length_le (by rw [← HT1.out, List.length_drop, HL0.out]; exact Nat.le_refl _)] at hblob
        exact hblob
      clear hblob
      have hkb : ((k : Int) == (n : Int)) = false := by simpa using hkl
      go_wp2
      clear hkb hkl hck hck7 hk1 hk2 p1
      clear HPk HPb HB4 HB5 HB6
      refine wp_region_rel (by kernel_rfl) [is (.pointer (some ⟨gh, 0, none⟩)), row k (bcells HL), is (.string (strOf HL)), is (.pointer (some ⟨gt, 0, none⟩)), row (n - k) (bcells TT), is (.string (strOf TT)), is (.string (strOf L)), is (.slice A n cap), is (.string (strOf L)), is (.bool true), is (.bool true), is (.pointer (some ⟨gh, 0, none⟩)), is (.int .i64 (k : Int)), is (.pointer (some ⟨gt, 0, none⟩)), is (.int .i64 ((n - k : Nat) : Int)), is (.int .i64 (n : Int)), is (.pointer (some ⟨gx, 0, none⟩)), is (.int .i64 (n : Int)), is (.bool true), is (.bool true), is (.bool true), is (.pointer (some ⟨ga, 0, none⟩)), row (n - k) (bcells TT), is (.string (strOf TT)), is (.pointer (some ⟨gt, 0, none⟩)), row (n - k) (bcells TT), is (.string (strOf TT)), is (.bool true), is (.bool true), is (.bool true)] [[], [0], [1], [], [3], [4], [2, 5], [], [7], [6, 8], [9], [10], [10, 11], [10], [10, 13], [10, 12, 14], [10], [10, 16], [10, 15, 17], [10, 18], [19], [20], [20, 21], [20, 22], [20], [20, 24], [20, 25], [20, 23, 26], [20, 27], [28]] (by kernel_rfl) ?_ ?_
      · refine ⟨?_, ?_, ?_, ?_, ?_, ?_, ?_, ?_, ?_, ?_, ?_, ?_, ?_, ?_, ?_, ?_, ?_, ?_, ?_, ?_, ?_, ?_, ?_, ?_, ?_, ?_, ?_, ?_, ?_, ?_, trivial⟩
        · intro t wq hbq hh K hK
          clear hh
          simp only [filled, upd, Have, is, any, row, pick, Act.put, List.setIfInBounds_toArray, List.set_cons_zero, List.set_cons_succ, Nat.reduceAdd, Nat.reduceEqDiff, reduceIte] at hK ⊢
          go_simp
          exact hK _ _ (Below.refl _ _) rfl
        · intro t wq hbq hh K hK
          have e0 := hh.1
          simp only [pick] at e0
          replace e0 : t 0 = (.pointer (some ⟨gh, 0, none⟩)) := e0
          clear hh
          simp only [filled, upd, Have, is, any, row, pick, Act.put, List.setIfInBounds_toArray, List.set_cons_zero, List.set_cons_succ, Nat.reduceAdd, Nat.reduceEqDiff, reduceIte] at hK ⊢
          simp only [e0] at hK ⊢
          go_simp
          refine (bytes_any gh k HL _ _ (HBH.out.below hbq) (by omega)).mono ?_
          rintro e w5 ⟨v, rfl, hown, hb5⟩
          obtain ⟨A5, c5, rfl, hc5, hm5, hr5⟩ := owns_form hown
          exact hK _ _ hb5 ⟨_, _, rfl, hc5, hm5, hr5⟩
        · intro t wq hbq hh K hK
          have e1 := hh.1
          simp only [pick] at e1
          clear hh
          simp only [filled, upd, Have, is, any, row, pick, Act.put, List.setIfInBounds_toArray, List.set_cons_zero, List.set_cons_succ, Nat.reduceAdd, Nat.reduceEqDiff, reduceIte] at hK ⊢
          obtain ⟨A1, c1, e1, hc1, hm1, hr1⟩ := e1
          simp only [e1] at hK ⊢
          have hs := run_string_of 22 9 5 Try.underlying22 Try.underlying5 Try.underlying9 _ c1 hr1
          go_simp
          exact hK _ _ (Below.refl _ _) rfl
        · intro t wq hbq hh K hK
          clear hh
          simp only [filled, upd, Have, is, any, row, pick, Act.put, List.setIfInBounds_toArray, List.set_cons_zero, List.set_cons_succ, Nat.reduceAdd, Nat.reduceEqDiff, reduceIte] at hK ⊢
          go_simp
          exact hK _ _ (Below.refl _ _) rfl
        · intro t wq hbq hh K hK
          have e3 := hh.1
          simp only [pick] at e3
          replace e3 : t 3 = (.pointer (some ⟨gt, 0, none⟩)) := e3
          clear hh
          simp only [filled, upd, Have, is, any, row, pick, Act.put, List.setIfInBounds_toArray, List.set_cons_zero, List.set_cons_succ, Nat.reduceAdd, Nat.reduceEqDiff, reduceIte] at hK ⊢
          simp only [e3] at hK ⊢
          go_simp
          refine (bytes_any gt (n - k) TT _ _ (HBT.out.below hbq) (by omega)).mono ?_
          rintro e w5 ⟨v, rfl, hown, hb5⟩
          obtain ⟨A5, c5, rfl, hc5, hm5, hr5⟩ := owns_form hown
          exact hK _ _ hb5 ⟨_, _, rfl, hc5, hm5, hr5⟩
        · intro t wq hbq hh K hK
          have e4 := hh.1
          simp only [pick] at e4
          clear hh
          simp only [filled, upd, Have, is, any, row, pick, Act.put, List.setIfInBounds_toArray, List.set_cons_zero, List.set_cons_succ, Nat.reduceAdd, Nat.reduceEqDiff, reduceIte] at hK ⊢
          obtain ⟨A4, c4, e4, hc4, hm4, hr4⟩ := e4
          simp only [e4] at hK ⊢
          have hs := run_string_of 22 9 5 Try.underlying22 Try.underlying5 Try.underlying9 _ c4 hr4
          go_simp
          exact hK _ _ (Below.refl _ _) rfl
        · intro t wq hbq hh K hK
          have e2 := hh.1
          simp only [pick] at e2
          replace e2 : t 2 = (.string (strOf HL)) := e2
          have e5 := hh.2.1
          simp only [pick] at e5
          replace e5 : t 5 = (.string (strOf TT)) := e5
          clear hh
          simp only [filled, upd, Have, is, any, row, pick, Act.put, List.setIfInBounds_toArray, List.set_cons_zero, List.set_cons_succ, Nat.reduceAdd, Nat.reduceEqDiff, reduceIte] at hK ⊢
          simp only [e2, e5] at hK ⊢
          have hadd : (Op.stringOp .add (strOf HL) (strOf TT)).run Try.prog wq = .ok (.string (strOf L)) wq := by have := str_add (P := Try.prog) HL TT wq (by have := HLN.out; omega); rw [HLL.out] at this; exact this
          go_simp
          exact hK _ _ (Below.refl _ _) rfl
        · intro t wq hbq hh K hK
          clear hh
          simp only [filled, upd, Have, is, any, row, pick, Act.put, List.setIfInBounds_toArray, List.set_cons_zero, List.set_cons_succ, Nat.reduceAdd, Nat.reduceEqDiff, reduceIte] at hK ⊢
          go_simp
          exact hK _ _ (Below.refl _ _) rfl
        · intro t wq hbq hh K hK
          have e7 := hh.1
          simp only [pick] at e7
          replace e7 : t 7 = (.slice A n cap) := e7
          clear hh
          simp only [filled, upd, Have, is, any, row, pick, Act.put, List.setIfInBounds_toArray, List.set_cons_zero, List.set_cons_succ, Nat.reduceAdd, Nat.reduceEqDiff, reduceIte] at hK ⊢
          simp only [e7] at hK ⊢
          have hs := run_string_of 22 9 5 Try.underlying22 Try.underlying5 Try.underlying9 _ cap (HR9.out.below hbq)
          go_simp
          exact hK _ _ (Below.refl _ _) rfl
        · intro t wq hbq hh K hK
          have e6 := hh.1
          simp only [pick] at e6
          replace e6 : t 6 = (.string (strOf L)) := e6
          have e8 := hh.2.1
          simp only [pick] at e8
          replace e8 : t 8 = (.string (strOf L)) := e8
          clear hh
          simp only [filled, upd, Have, is, any, row, pick, Act.put, List.setIfInBounds_toArray, List.set_cons_zero, List.set_cons_succ, Nat.reduceAdd, Nat.reduceEqDiff, reduceIte] at hK ⊢
          simp only [e6, e8] at hK ⊢
          go_simp
          exact hK _ _ (Below.refl _ _) (by simp)
        · intro t wq hbq hh K hK
          have e9 := hh.1
          simp only [pick] at e9
          replace e9 : t 9 = (.bool true) := e9
          clear hh
          simp only [filled, upd, Have, is, any, row, pick, Act.put, List.setIfInBounds_toArray, List.set_cons_zero, List.set_cons_succ, Nat.reduceAdd, Nat.reduceEqDiff, reduceIte] at hK ⊢
          simp only [e9] at hK ⊢
          go_simp
          exact hK _ _ (Below.refl _ _) rfl
        · intro t wq hbq hh K hK
          have e10 := hh.1
          simp only [pick] at e10
          replace e10 : t 10 = (.bool true) := e10
          clear hh
          simp only [filled, upd, Have, is, any, row, pick, Act.put, List.setIfInBounds_toArray, List.set_cons_zero, List.set_cons_succ, Nat.reduceAdd, Nat.reduceEqDiff, reduceIte] at hK ⊢
          simp only [e10] at hK ⊢
          go_simp
          exact hK _ _ (Below.refl _ _) rfl
        · intro t wq hbq hh K hK
          have e10 := hh.1
          simp only [pick] at e10
          replace e10 : t 10 = (.bool true) := e10
          have e11 := hh.2.1
          simp only [pick] at e11
          replace e11 : t 11 = (.pointer (some ⟨gh, 0, none⟩)) := e11
          clear hh
          simp only [filled, upd, Have, is, any, row, pick, Act.put, List.setIfInBounds_toArray, List.set_cons_zero, List.set_cons_succ, Nat.reduceAdd, Nat.reduceEqDiff, reduceIte] at hK ⊢
          simp only [e10, e11] at hK ⊢
          go_simp
          refine (len_any gh k _ _ _ (HBH.out.below hbq)).mono ?_
          rintro e w5 ⟨rfl, hb5⟩
          exact hK _ _ hb5 rfl
        · intro t wq hbq hh K hK
          have e10 := hh.1
          simp only [pick] at e10
          replace e10 : t 10 = (.bool true) := e10
          clear hh
          simp only [filled, upd, Have, is, any, row, pick, Act.put, List.setIfInBounds_toArray, List.set_cons_zero, List.set_cons_succ, Nat.reduceAdd, Nat.reduceEqDiff, reduceIte] at hK ⊢
          simp only [e10] at hK ⊢
          go_simp
          exact hK _ _ (Below.refl _ _) rfl
        · intro t wq hbq hh K hK
          have e10 := hh.1
          simp only [pick] at e10
          replace e10 : t 10 = (.bool true) := e10
          have e13 := hh.2.1
          simp only [pick] at e13
          replace e13 : t 13 = (.pointer (some ⟨gt, 0, none⟩)) := e13
          clear hh
          simp only [filled, upd, Have, is, any, row, pick, Act.put, List.setIfInBounds_toArray, List.set_cons_zero, List.set_cons_succ, Nat.reduceAdd, Nat.reduceEqDiff, reduceIte] at hK ⊢
          simp only [e10, e13] at hK ⊢
          go_simp
          refine (len_any gt (n - k) _ _ _ (HBT.out.below hbq)).mono ?_
          rintro e w5 ⟨rfl, hb5⟩
          exact hK _ _ hb5 rfl
        · intro t wq hbq hh K hK
          have e10 := hh.1
          simp only [pick] at e10
          replace e10 : t 10 = (.bool true) := e10
          have e12 := hh.2.1
          simp only [pick] at e12
          replace e12 : t 12 = (.int .i64 (k : Int)) := e12
          have e14 := hh.2.2.1
          simp only [pick] at e14
          replace e14 : t 14 = (.int .i64 ((n - k : Nat) : Int)) := e14
          clear hh
          simp only [filled, upd, Have, is, any, row, pick, Act.put, List.setIfInBounds_toArray, List.set_cons_zero, List.set_cons_succ, Nat.reduceAdd, Nat.reduceEqDiff, reduceIte] at hK ⊢
          simp only [e10, e12, e14] at hK ⊢
          go_simp
          first | exact hK _ _ (Below.refl _ _) rfl | exact hK _ _ (Below.refl _ _) (int_wrap (by omega) (by omega)) | exact hK _ _ (Below.refl _ _) (by rw [hsum]; exact int_wrap (by omega) (by omega)) | exact hK _ _ (Below.refl _ _) (by rw [hsum])
        · intro t wq hbq hh K hK
          have e10 := hh.1
          simp only [pick] at e10
          replace e10 : t 10 = (.bool true) := e10
          clear hh
          simp only [filled, upd, Have, is, any, row, pick, Act.put, List.setIfInBounds_toArray, List.set_cons_zero, List.set_cons_succ, Nat.reduceAdd, Nat.reduceEqDiff, reduceIte] at hK ⊢
          simp only [e10] at hK ⊢
          go_simp
          exact hK _ _ (Below.refl _ _) rfl
        · intro t wq hbq hh K hK
          have e10 := hh.1
          simp only [pick] at e10
          replace e10 : t 10 = (.bool true) := e10
          have e16 := hh.2.1
          simp only [pick] at e16
          replace e16 : t 16 = (.pointer (some ⟨gx, 0, none⟩)) := e16
          clear hh
          simp only [filled, upd, Have, is, any, row, pick, Act.put, List.setIfInBounds_toArray, List.set_cons_zero, List.set_cons_succ, Nat.reduceAdd, Nat.reduceEqDiff, reduceIte] at hK ⊢
          simp only [e10, e16] at hK ⊢
          go_simp
          refine (len_any gx n _ _ _ (HBX.out.below hbq)).mono ?_
          rintro e w5 ⟨rfl, hb5⟩
          exact hK _ _ hb5 rfl
        · intro t wq hbq hh K hK
          have e10 := hh.1
          simp only [pick] at e10
          replace e10 : t 10 = (.bool true) := e10
          have e15 := hh.2.1
          simp only [pick] at e15
          replace e15 : t 15 = (.int .i64 (n : Int)) := e15
          have e17 := hh.2.2.1
          simp only [pick] at e17
          replace e17 : t 17 = (.int .i64 (n : Int)) := e17
          clear hh
          simp only [filled, upd, Have, is, any, row, pick, Act.put, List.setIfInBounds_toArray, List.set_cons_zero, List.set_cons_succ, Nat.reduceAdd, Nat.reduceEqDiff, reduceIte] at hK ⊢
          simp only [e10, e15, e17] at hK ⊢
          go_simp
          exact hK _ _ (Below.refl _ _) (by simp)
        · intro t wq hbq hh K hK
          have e10 := hh.1
          simp only [pick] at e10
          replace e10 : t 10 = (.bool true) := e10
          have e18 := hh.2.1
          simp only [pick] at e18
          replace e18 : t 18 = (.bool true) := e18
          clear hh
          simp only [filled, upd, Have, is, any, row, pick, Act.put, List.setIfInBounds_toArray, List.set_cons_zero, List.set_cons_succ, Nat.reduceAdd, Nat.reduceEqDiff, reduceIte] at hK ⊢
          simp only [e10, e18] at hK ⊢
          go_simp
          exact hK _ _ (Below.refl _ _) rfl
        · intro t wq hbq hh K hK
          have e19 := hh.1
          simp only [pick] at e19
          replace e19 : t 19 = (.bool true) := e19
          clear hh
          simp only [filled, upd, Have, is, any, row, pick, Act.put, List.setIfInBounds_toArray, List.set_cons_zero, List.set_cons_succ, Nat.reduceAdd, Nat.reduceEqDiff, reduceIte] at hK ⊢
          simp only [e19] at hK ⊢
          go_simp
          exact hK _ _ (Below.refl _ _) rfl
        · intro t wq hbq hh K hK
          have e20 := hh.1
          simp only [pick] at e20
          replace e20 : t 20 = (.bool true) := e20
          clear hh
          simp only [filled, upd, Have, is, any, row, pick, Act.put, List.setIfInBounds_toArray, List.set_cons_zero, List.set_cons_succ, Nat.reduceAdd, Nat.reduceEqDiff, reduceIte] at hK ⊢
          simp only [e20] at hK ⊢
          go_simp
          exact hK _ _ (Below.refl _ _) rfl
        · intro t wq hbq hh K hK
          have e20 := hh.1
          simp only [pick] at e20
          replace e20 : t 20 = (.bool true) := e20
          have e21 := hh.2.1
          simp only [pick] at e21
          replace e21 : t 21 = (.pointer (some ⟨ga, 0, none⟩)) := e21
          clear hh
          simp only [filled, upd, Have, is, any, row, pick, Act.put, List.setIfInBounds_toArray, List.set_cons_zero, List.set_cons_succ, Nat.reduceAdd, Nat.reduceEqDiff, reduceIte] at hK ⊢
          simp only [e20, e21] at hK ⊢
          go_simp
          refine (bytes_any ga (n - k) TT _ _ (HBA.out.below hbq) (by omega)).mono ?_
          rintro e w5 ⟨v, rfl, hown, hb5⟩
          obtain ⟨A5, c5, rfl, hc5, hm5, hr5⟩ := owns_form hown
          exact hK _ _ hb5 ⟨_, _, rfl, hc5, hm5, hr5⟩
        · intro t wq hbq hh K hK
          have e20 := hh.1
          simp only [pick] at e20
          replace e20 : t 20 = (.bool true) := e20
          have e22 := hh.2.1
          simp only [pick] at e22
          clear hh
          simp only [filled, upd, Have, is, any, row, pick, Act.put, List.setIfInBounds_toArray, List.set_cons_zero, List.set_cons_succ, Nat.reduceAdd, Nat.reduceEqDiff, reduceIte] at hK ⊢
          obtain ⟨A22, c22, e22, hc22, hm22, hr22⟩ := e22
          simp only [e20, e22] at hK ⊢
          have hs := run_string_of 22 9 5 Try.underlying22 Try.underlying5 Try.underlying9 _ c22 hr22
          go_simp
          exact hK _ _ (Below.refl _ _) rfl
        · intro t wq hbq hh K hK
          have e20 := hh.1
          simp only [pick] at e20
          replace e20 : t 20 = (.bool true) := e20
          clear hh
          simp only [filled, upd, Have, is, any, row, pick, Act.put, List.setIfInBounds_toArray, List.set_cons_zero, List.set_cons_succ, Nat.reduceAdd, Nat.reduceEqDiff, reduceIte] at hK ⊢
          simp only [e20] at hK ⊢
          go_simp
          exact hK _ _ (Below.refl _ _) rfl
        · intro t wq hbq hh K hK
          have e20 := hh.1
          simp only [pick] at e20
          replace e20 : t 20 = (.bool true) := e20
          have e24 := hh.2.1
          simp only [pick] at e24
          replace e24 : t 24 = (.pointer (some ⟨gt, 0, none⟩)) := e24
          clear hh
          simp only [filled, upd, Have, is, any, row, pick, Act.put, List.setIfInBounds_toArray, List.set_cons_zero, List.set_cons_succ, Nat.reduceAdd, Nat.reduceEqDiff, reduceIte] at hK ⊢
          simp only [e20, e24] at hK ⊢
          go_simp
          refine (bytes_any gt (n - k) TT _ _ (HBT.out.below hbq) (by omega)).mono ?_
          rintro e w5 ⟨v, rfl, hown, hb5⟩
          obtain ⟨A5, c5, rfl, hc5, hm5, hr5⟩ := owns_form hown
          exact hK _ _ hb5 ⟨_, _, rfl, hc5, hm5, hr5⟩
        · intro t wq hbq hh K hK
          have e20 := hh.1
          simp only [pick] at e20
          replace e20 : t 20 = (.bool true) := e20
          have e25 := hh.2.1
          simp only [pick] at e25
          clear hh
          simp only [filled, upd, Have, is, any, row, pick, Act.put, List.setIfInBounds_toArray, List.set_cons_zero, List.set_cons_succ, Nat.reduceAdd, Nat.reduceEqDiff, reduceIte] at hK ⊢
          obtain ⟨A25, c25, e25, hc25, hm25, hr25⟩ := e25
          simp only [e20, e25] at hK ⊢
          have hs := run_string_of 22 9 5 Try.underlying22 Try.underlying5 Try.underlying9 _ c25 hr25
          go_simp
          exact hK _ _ (Below.refl _ _) rfl
        · intro t wq hbq hh K hK
          have e20 := hh.1
          simp only [pick] at e20
          replace e20 : t 20 = (.bool true) := e20
          have e23 := hh.2.1
          simp only [pick] at e23
          replace e23 : t 23 = (.string (strOf TT)) := e23
          have e26 := hh.2.2.1
          simp only [pick] at e26
          replace e26 : t 26 = (.string (strOf TT)) := e26
          clear hh
          simp only [filled, upd, Have, is, any, row, pick, Act.put, List.setIfInBounds_toArray, List.set_cons_zero, List.set_cons_succ, Nat.reduceAdd, Nat.reduceEqDiff, reduceIte] at hK ⊢
          simp only [e20, e23, e26] at hK ⊢
          go_simp
          exact hK _ _ (Below.refl _ _) (by simp)
        · intro t wq hbq hh K hK
          have e20 := hh.1
          simp only [pick] at e20
          replace e20 : t 20 = (.bool true) := e20
          have e27 := hh.2.1
          simp only [pick] at e27
          replace e27 : t 27 = (.bool true) := e27
          clear hh
          simp only [filled, upd, Have, is, any, row, pick, Act.put, List.setIfInBounds_toArray, List.set_cons_zero, List.set_cons_succ, Nat.reduceAdd, Nat.reduceEqDiff, reduceIte] at hK ⊢
          simp only [e20, e27] at hK ⊢
          go_simp
          exact hK _ _ (Below.refl _ _) rfl
        · intro t wq hbq hh K hK
          have e28 := hh.1
          simp only [pick] at e28
          replace e28 : t 28 = (.bool true) := e28
          clear hh
          simp only [filled, upd, Have, is, any, row, pick, Act.put, List.setIfInBounds_toArray, List.set_cons_zero, List.set_cons_succ, Nat.reduceAdd, Nat.reduceEqDiff, reduceIte] at hK ⊢
          simp only [e28] at hK ⊢
          go_simp
          exact hK _ _ (Below.refl _ _) rfl
      · intro t wq hbq hh
        have f29 := have_get hh 29 (by decide)
        simp only [pick] at f29
        replace f29 : t 29 = (.bool true) := f29
        clear hh
        simp only [filled, upd, Have, is, any, row, pick, Act.put, List.setIfInBounds_toArray, List.set_cons_zero, List.set_cons_succ, Nat.reduceAdd, Nat.reduceEqDiff, reduceIte]
        simp only [f29]
        go_wp2
        go_ret
        exact ⟨rfl, hbAll.trans (hbq.mono hbAll.size)⟩
  · have p1 : (300 : Int) < (n : Int) := by omega
    go_enter Try.func5, Try.ntmps5
    go_wp2_with fail
    refine (BlobW.awake_any _).mono ?_
    rintro e w1 ⟨rfl, hb1⟩
    go_wp2_with fail
    refine (BlobW.awake_any _).mono ?_
    rintro e w2 ⟨rfl, hb2⟩
    go_wp2_with fail
    go_ret
    exact ⟨rfl, bel hb1 hb2⟩
end Go.Proofs.Ytdgdmlchegjejaa.Laws
