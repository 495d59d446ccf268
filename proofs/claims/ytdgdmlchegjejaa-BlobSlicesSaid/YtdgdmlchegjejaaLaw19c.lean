/- The walk of the law BlobSlices: it returns true, whatever it is called with. -/
import Derived.Test.YtdgdmlchegjejaaBlobW
import Derived.Test.YtdgdmlchegjejaaBlobE
import Derived.Deep.DeepCutAuto
namespace Go.Proofs.Ytdgdmlchegjejaa.Laws
open Go.RowKit Go.Proofs.Ytdgdmlchegjejaa.Base Go.Proofs.Ytdgdmlchegjejaa.Base2 Go.Proofs.Ytdgdmlchegjejaa.BlobA Go.Proofs.Ytdgdmlchegjejaa.BlobB Go.Proofs.Ytdgdmlchegjejaa.BlobC Go.Proofs.Ytdgdmlchegjejaa.BlobD Go.Proofs.Ytdgdmlchegjejaa.BlobE Go.Proofs.Ytdgdmlchegjejaa.Regs

set_option linter.unusedSimpArgs false in
set_option maxHeartbeats 8000000 in
set_option maxRecDepth 100000 in
theorem BlobSlices_any (A : Option Addr) (n cap : Nat) (L : List UInt8) (sa sb : ByteArray) (z1 z2 : Int) (b1 b2 : Bool) (w : World) (hr : Rds w A n (bcells L)) (_hc : n ≤ cap) (_hm : cap * 1 ≤ 140737488351232)
    (hsa : sa.size ≤ 140737488351232) (hsb : sb.size ≤ 140737488351232) (hz1 : -9223372036854775808 ≤ z1 ∧ z1 ≤ 9223372036854775807) (hz2 : -9223372036854775808 ≤ z2 ∧ z2 ≤ 9223372036854775807) :
    Calls Try.prog 3 #[.slice A n cap, .string sa, .string sb, .int .i64 z1, .int .i64 z2, .bool b1, .bool b2] w fun e w' => e = .returned (.bool true) ∧ Below w.heap.size w w' := by
  have hl : L.length = n := by rw [← length_bcells]; exact hr.1
  have HL0 := hid hl
  obtain ⟨st, hst⟩ : ∃ st, pl (if b1 = true then some z1 else none) 0 n = st := ⟨_, rfl⟩
  obtain ⟨en, hen⟩ : ∃ en, pl (if b2 = true then some z2 else none) n n = en := ⟨_, rfl⟩
  have hstn : st ≤ n := by rw [← hst]; exact pl_le _ 0 n (Nat.zero_le _)
  have henn : en ≤ n := by rw [← hen]; exact pl_le _ n n (Nat.le_refl _)
  obtain ⟨mx, hmx⟩ : ∃ mx, max st en = mx := ⟨_, rfl⟩
  obtain ⟨m, hm0⟩ : ∃ m, m = mx - st := ⟨_, rfl⟩
  obtain ⟨M, hM⟩ : ∃ M, M = (L.drop st).take (mx - st) := ⟨_, rfl⟩
  obtain ⟨KA, hKA⟩ : ∃ KA, kd sa.data.toList = KA := ⟨_, rfl⟩
  obtain ⟨KB, hKB⟩ : ∃ KB, kd sb.data.toList = KB := ⟨_, rfl⟩
  have HST := hid hst
  have HEN := hid hen
  have HMX := hid hmx
  have HM := hid hM
  have HKA := hid hKA
  have HKB := hid hKB
  have hmxn : mx ≤ n := by omega
  have hstm : st ≤ mx := by omega
  have hcase : (st ≤ en ∧ en = mx) ∨ (en < st ∧ st = mx) := by omega
  have HM0 := hid hm0
  clear hst hen hmx hM hKA hKB hm0
  have HR := hid hr
  clear hl hr
  by_cases h1 : n ≤ 500
  · by_cases h2 : sa.size + sb.size ≤ 300
    · have p1 : ¬ (500 : Int) < (n : Int) := by omega
      have p2 : ¬ (300 : Int) < (sa.size : Int) + (sb.size : Int) := by omega
      go_enter Try.func3, Try.ntmps3
      go_wp2_with fail
      generalize hw0 : (w.alloc _).alloc _ = w0
      have hs0 : w0.heap.size = w.heap.size + 2 := by rw [← hw0]; simp
      have hb0 : Below w.heap.size w w0 := by rw [← hw0]; exact ((Below.refl _ _).alloc (Nat.le_refl _) _).alloc (by simp) _
      have hc0 : w0.cell? ⟨w.heap.size, 0, none⟩ = some (.int .i64 z1) := by
        rw [← hw0]
        refine (((Below.refl (w.heap.size + 1) (w.alloc (.cells #[.int .i64 z1] 2))).alloc (by simp) _).cell (p := ⟨w.heap.size, 0, none⟩) (by show w.heap.size < _; omega)).trans ?_
        rw [World.cell?_alloc_mark]
        rfl
      have hc1 : w0.cell? ⟨w.heap.size + 1, 0, none⟩ = some (.int .i64 z2) := by
        rw [← hw0]
        have e : (w.alloc (.cells #[.int .i64 z1] 2)).heap.size = w.heap.size + 1 := by simp
        rw [← e, World.cell?_alloc_mark]
        rfl
      clear hw0
      refine (BlobW.awake_any _).mono ?_
      rintro e w1 ⟨rfl, hb1⟩
      have HR1 := hid (HR.out.below (hb0.trans (hb1.mono (by omega))))
      go_wp2_with fail
      refine (new_any A n cap L sa _ HR1.out (by omega) (by unfold maxLen; omega)).mono ?_
      rintro e w2 ⟨gx, rfl, hgx, hblob, hb2⟩
      have HB2 := hid hblob
      clear hblob
      have hb02 : Below w0.heap.size w0 w2 := bel hb1 hb2
      have HP0 : Hid (Ptr w2 (.pointer (some ⟨w.heap.size, 0, none⟩)) (some z1)) := Ptr.below (Or.inr ⟨w.heap.size, z1, rfl, by omega, hc0, hz1.1, hz1.2, rfl⟩) hb02
      have HP1 : Hid (Ptr w2 (.pointer (some ⟨w.heap.size + 1, 0, none⟩)) (some z2)) := Ptr.below (Or.inr ⟨w.heap.size + 1, z2, rfl, by omega, hc1, hz2.1, hz2.2, rfl⟩) hb02
      go_upto_if 40 with (fail)
      go_cut [16] (fun v wx => Hid (Ptr w2 v (if b1 then some z1 else none)) ∧ wx = w2)
      case first =>
        cases b1
        all_goals
          go_wp2_with fail
          go_meet
          first | exact ⟨HP0, rfl⟩ | exact ⟨Or.inl ⟨rfl, rfl⟩, rfl⟩
      case rest =>
      obtain ⟨HV1, hwc⟩ := hcut
      subst hwc
      go_upto_if 41 with (fail)
      go_cut [17] (fun v wx => Hid (Ptr wc v (if b2 then some z2 else none)) ∧ wx = wc)
      case first =>
        cases b2
        all_goals
          go_wp2_with fail
          go_meet
          first | exact ⟨HP1, rfl⟩ | exact ⟨Or.inl ⟨rfl, rfl⟩, rfl⟩
      case rest =>
      obtain ⟨HV2, rfl⟩ := hcut
      go_wp2_with fail
      refine (slice_any gx n L _ _ _ _ _ sb _ HB2.out (by omega) HV1.out HV2.out (by unfold maxLen; omega)).mono ?_
      rintro e w4 ⟨gy, rfl, hgy, hblob, hb4⟩
      have HBY : Hid (BlobAt w4 gy m M KB) := by
        rw [HST.out, HEN.out, HMX.out, HKB.out] at hblob
        rw [HM0.out, HM.out]
        exact hblob
      clear hblob
      have HBX : Hid (BlobAt w4 gx n L KA) := by
        have h := HB2.out.below hb4
        rw [HKA.out] at h
        exact h
      have HR5 : Hid (Rds w4 A n (bcells L)) := (HR1.out.below hb2).below hb4
      have hb04 : Below w0.heap.size w0 w4 := bel hb02 hb4
      have hbAll : Below w.heap.size w w4 := hb0.trans (hb04.mono (by omega))
      have hd0 : w4.cell? ⟨w.heap.size, 0, none⟩ = some (.int .i64 z1) := (hb04.cell (p := ⟨w.heap.size, 0, none⟩) (by show w.heap.size < _; omega)).trans hc0
      have hd1 : w4.cell? ⟨w.heap.size + 1, 0, none⟩ = some (.int .i64 z2) := (hb04.cell (p := ⟨w.heap.size + 1, 0, none⟩) (by show w.heap.size + 1 < _; omega)).trans hc1
      have hs4 : w.heap.size + 2 ≤ w4.heap.size := by have := hb04.size; omega
      have HNil : Hid (A = none → n = 0) := by
        rintro rfl
        rcases Nat.eq_zero_or_pos n with h | h
        · exact h
        · obtain ⟨_, _, e, _⟩ := HR5.out.spot h
          cases e
      have hmm : m = mx - st := HM0.out
      have hmI : (mx : Int) - (st : Int) = (m : Int) := by omega
      have HMN : Hid (m = 0 → bcells M = []) := by
        intro h
        rw [HM.out, ← hmm, h, List.take_zero]
        rfl
      have hn5 : n ≤ 500 := h1
      have hcapn : n ≤ cap := _hc
      have hcapm : cap ≤ 140737488351232 := by omega
      clear HV1 HV2 HP0 HP1 HB2 hc0 hc1 hb02 HR1 HR hb2 hb4
      have HMM := hid hmm
      have HMI := hid hmI
      have HCA := hid hcase
      clear hmm hmI hcase p1 p2
      go_wp2
      refine wp_region_rel (by kernel_rfl) [is (.int .i64 (z1 : Int)), is (.bool b1), is (.slice A n cap), is (.int .i64 (n : Int)), is (.int .i64 (st : Int)), is (.int .i64 (z2 : Int)), is (.bool b2), is (.slice A n cap), is (.int .i64 (n : Int)), is (.slice A n cap), is (.int .i64 (n : Int)), is (.int .i64 (en : Int)), is (.int .i64 (st : Int)), is (.int .i64 (en : Int))] [[], [], [], [2], [0, 1, 3], [], [], [], [7], [], [9], [5, 6, 8, 10], [4], [11]] (by kernel_rfl) ?_ ?_
      · refine ⟨?_, ?_, ?_, ?_, ?_, ?_, ?_, ?_, ?_, ?_, ?_, ?_, ?_, ?_, trivial⟩
        · intro t wq hbq hh K hK
          clear hh
          simp only [filled, upd, Have, is, any, row, pick, Act.put, List.setIfInBounds_toArray, List.set_cons_zero, List.set_cons_succ, Nat.reduceAdd, Nat.reduceEqDiff, reduceIte] at hK ⊢
          have hq := (hbq.cell (p := ⟨w.heap.size, 0, none⟩) (by show w.heap.size < _; omega)).trans hd0
          go_simp
          exact hK _ _ (Below.refl _ _) rfl
        · intro t wq hbq hh K hK
          clear hh
          simp only [filled, upd, Have, is, any, row, pick, Act.put, List.setIfInBounds_toArray, List.set_cons_zero, List.set_cons_succ, Nat.reduceAdd, Nat.reduceEqDiff, reduceIte] at hK ⊢
          go_simp
          exact hK _ _ (Below.refl _ _) rfl
        · intro t wq hbq hh K hK
          clear hh
          simp only [filled, upd, Have, is, any, row, pick, Act.put, List.setIfInBounds_toArray, List.set_cons_zero, List.set_cons_succ, Nat.reduceAdd, Nat.reduceEqDiff, reduceIte] at hK ⊢
          go_simp
          exact hK _ _ (Below.refl _ _) rfl
        · intro t wq hbq hh K hK
          have e2 := hh.1
          simp only [pick] at e2
          replace e2 : t 2 = (.slice A n cap) := e2
          clear hh
          simp only [filled, upd, Have, is, any, row, pick, Act.put, List.setIfInBounds_toArray, List.set_cons_zero, List.set_cons_succ, Nat.reduceAdd, Nat.reduceEqDiff, reduceIte] at hK ⊢
          simp only [e2] at hK ⊢
          go_simp
          exact hK _ _ (Below.refl _ _) rfl
        · intro t wq hbq hh K hK
          have e0 := hh.1
          simp only [pick] at e0
          replace e0 : t 0 = (.int .i64 (z1 : Int)) := e0
          have e1 := hh.2.1
          simp only [pick] at e1
          replace e1 : t 1 = (.bool b1) := e1
          have e3 := hh.2.2.1
          simp only [pick] at e3
          replace e3 : t 3 = (.int .i64 (n : Int)) := e3
          clear hh
          simp only [filled, upd, Have, is, any, row, pick, Act.put, List.setIfInBounds_toArray, List.set_cons_zero, List.set_cons_succ, Nat.reduceAdd, Nat.reduceEqDiff, reduceIte] at hK ⊢
          simp only [e0, e1, e3] at hK ⊢
          go_simp
          refine (place_law z1 b1 n 0 _ hz1.1 hz1.2 (by omega)).mono ?_
          rintro e w5 ⟨rfl, hb5⟩
          exact hK _ _ hb5 (congrArg (Value.int .i64) (by rw [HST.out]))
        · intro t wq hbq hh K hK
          clear hh
          simp only [filled, upd, Have, is, any, row, pick, Act.put, List.setIfInBounds_toArray, List.set_cons_zero, List.set_cons_succ, Nat.reduceAdd, Nat.reduceEqDiff, reduceIte] at hK ⊢
          have hq := (hbq.cell (p := ⟨(w.heap.size + 1), 0, none⟩) (by show (w.heap.size + 1) < _; omega)).trans hd1
          go_simp
          exact hK _ _ (Below.refl _ _) rfl
        · intro t wq hbq hh K hK
          clear hh
          simp only [filled, upd, Have, is, any, row, pick, Act.put, List.setIfInBounds_toArray, List.set_cons_zero, List.set_cons_succ, Nat.reduceAdd, Nat.reduceEqDiff, reduceIte] at hK ⊢
          go_simp
          exact hK _ _ (Below.refl _ _) rfl
        · intro t wq hbq hh K hK
          clear hh
          simp only [filled, upd, Have, is, any, row, pick, Act.put, List.setIfInBounds_toArray, List.set_cons_zero, List.set_cons_succ, Nat.reduceAdd, Nat.reduceEqDiff, reduceIte] at hK ⊢
          go_simp
          exact hK _ _ (Below.refl _ _) rfl
        · intro t wq hbq hh K hK
          have e7 := hh.1
          simp only [pick] at e7
          replace e7 : t 7 = (.slice A n cap) := e7
          clear hh
          simp only [filled, upd, Have, is, any, row, pick, Act.put, List.setIfInBounds_toArray, List.set_cons_zero, List.set_cons_succ, Nat.reduceAdd, Nat.reduceEqDiff, reduceIte] at hK ⊢
          simp only [e7] at hK ⊢
          go_simp
          exact hK _ _ (Below.refl _ _) rfl
        · intro t wq hbq hh K hK
          clear hh
          simp only [filled, upd, Have, is, any, row, pick, Act.put, List.setIfInBounds_toArray, List.set_cons_zero, List.set_cons_succ, Nat.reduceAdd, Nat.reduceEqDiff, reduceIte] at hK ⊢
          go_simp
          exact hK _ _ (Below.refl _ _) rfl
        · intro t wq hbq hh K hK
          have e9 := hh.1
          simp only [pick] at e9
          replace e9 : t 9 = (.slice A n cap) := e9
          clear hh
          simp only [filled, upd, Have, is, any, row, pick, Act.put, List.setIfInBounds_toArray, List.set_cons_zero, List.set_cons_succ, Nat.reduceAdd, Nat.reduceEqDiff, reduceIte] at hK ⊢
          simp only [e9] at hK ⊢
          go_simp
          exact hK _ _ (Below.refl _ _) rfl
        · intro t wq hbq hh K hK
          have e5 := hh.1
          simp only [pick] at e5
          replace e5 : t 5 = (.int .i64 (z2 : Int)) := e5
          have e6 := hh.2.1
          simp only [pick] at e6
          replace e6 : t 6 = (.bool b2) := e6
          have e8 := hh.2.2.1
          simp only [pick] at e8
          replace e8 : t 8 = (.int .i64 (n : Int)) := e8
          have e10 := hh.2.2.2.1
          simp only [pick] at e10
          replace e10 : t 10 = (.int .i64 (n : Int)) := e10
          clear hh
          simp only [filled, upd, Have, is, any, row, pick, Act.put, List.setIfInBounds_toArray, List.set_cons_zero, List.set_cons_succ, Nat.reduceAdd, Nat.reduceEqDiff, reduceIte] at hK ⊢
          simp only [e5, e6, e8, e10] at hK ⊢
          go_simp
          refine (place_law z2 b2 n n _ hz2.1 hz2.2 (by omega)).mono ?_
          rintro e w5 ⟨rfl, hb5⟩
          exact hK _ _ hb5 (congrArg (Value.int .i64) (by rw [HEN.out]))
        · intro t wq hbq hh K hK
          have e4 := hh.1
          simp only [pick] at e4
          replace e4 : t 4 = (.int .i64 (st : Int)) := e4
          clear hh
          simp only [filled, upd, Have, is, any, row, pick, Act.put, List.setIfInBounds_toArray, List.set_cons_zero, List.set_cons_succ, Nat.reduceAdd, Nat.reduceEqDiff, reduceIte] at hK ⊢
          simp only [e4] at hK ⊢
          go_simp
          exact hK _ _ (Below.refl _ _) rfl
        · intro t wq hbq hh K hK
          have e11 := hh.1
          simp only [pick] at e11
          replace e11 : t 11 = (.int .i64 (en : Int)) := e11
          clear hh
          simp only [filled, upd, Have, is, any, row, pick, Act.put, List.setIfInBounds_toArray, List.set_cons_zero, List.set_cons_succ, Nat.reduceAdd, Nat.reduceEqDiff, reduceIte] at hK ⊢
          simp only [e11] at hK ⊢
          go_simp
          exact hK _ _ (Below.refl _ _) rfl
      · intro t wq hbq hh
        have f12 := have_get hh 12 (by decide)
        simp only [pick] at f12
        replace f12 : t 12 = (.int .i64 (st : Int)) := f12
        have f13 := have_get hh 13 (by decide)
        simp only [pick] at f13
        replace f13 : t 13 = (.int .i64 (en : Int)) := f13
        clear hh
        simp only [filled, upd, Have, is, any, row, pick, Act.put, List.setIfInBounds_toArray, List.set_cons_zero, List.set_cons_succ, Nat.reduceAdd, Nat.reduceEqDiff, reduceIte]
        simp only [f12, f13]
        go_upto_region 11 with fail
        go_cut [20] (fun v wx => v = .int .i64 (mx : Int) ∧ wx = wq)
        case first =>
          have hq0 := HCA.out
          by_cases c0 : st < en
          · have HC2 := hid (show en = mx by omega)
            have c3 : (st : Int) < (en : Int) := by omega
            clear hq0
            go_wp2_with fail
            go_meet
            exact ⟨by rw [HC2.out], rfl⟩
          · have HC2 := hid (show st = mx by omega)
            have c3 : ¬ (st : Int) < (en : Int) := by omega
            clear hq0
            go_wp2_with fail
            go_meet
            exact ⟨by rw [HC2.out], rfl⟩
        case rest =>
        obtain ⟨rfl, rfl⟩ := hcut
        replace HBX := hid (HBX.out.below hbq)
        replace HBY := hid (HBY.out.below hbq)
        replace HR5 := hid (HR5.out.below hbq)
        replace hbAll := hbAll.trans (hbq.mono hbAll.size)
        clear hd0 hd1 f12 f13
        go_wp2
        refine wp_region_rel (by kernel_rfl) [is (.pointer (some ⟨gx, 0, none⟩)), row n (bcells L), is (.string (strOf L)), is (.slice A n cap), is (.string (strOf L)), is (.bool true), is (.bool true), is (.pointer (some ⟨gx, 0, none⟩)), is (.string (strOf KA)), is (.string sa), is (.string (strOf KA)), is (.bool true), is (.bool true), is (.bool true), is (.pointer (some ⟨gx, 0, none⟩)), is (.int .i64 (n : Int)), is (.slice A n cap), is (.int .i64 (n : Int)), is (.bool true), is (.bool true), is (.bool true), is (.pointer (some ⟨gy, 0, none⟩)), row m (bcells M), is (.string (strOf M)), is (.slice A n cap), is (.int .i64 (st : Int)), is (.int .i64 (mx : Int)), row m (bcells M), is (.string (strOf M)), is (.bool true), is (.bool true), is (.bool true), is (.pointer (some ⟨gy, 0, none⟩)), is (.string (strOf KB)), is (.string sb), is (.string (strOf KB)), is (.bool true), is (.bool true), is (.bool true), is (.pointer (some ⟨gy, 0, none⟩)), is (.int .i64 (m : Int)), is (.int .i64 (mx : Int)), is (.int .i64 (st : Int)), is (.int .i64 (m : Int)), is (.bool true), is (.bool true), is (.bool true), is (.string sb), is (.string (strOf KB)), is (.string sb), is (.string (strOf KB)), is (.bool true), is (.bool true), is (.bool true)] [[], [0], [1], [], [3], [2, 4], [5], [6], [6, 7], [6], [6, 9], [6, 8, 10], [6, 11], [12], [13], [13, 14], [13], [13, 16], [13, 15, 17], [13, 18], [19], [20], [20, 21], [20, 22], [20], [20], [20], [20, 24, 25, 26], [20, 27], [20, 23, 28], [20, 29], [30], [31], [31, 32], [31], [31, 34], [31, 33, 35], [31, 36], [37], [38], [38, 39], [38], [38], [38, 41, 42], [38, 40, 43], [38, 44], [45], [46], [46, 47], [46], [46, 49], [46, 48, 50], [46, 51], [52]] (by kernel_rfl) ?_ ?_
        · refine ⟨?_, ?_, ?_, ?_, ?_, ?_, ?_, ?_, ?_, ?_, ?_, ?_, ?_, ?_, ?_, ?_, ?_, ?_, ?_, ?_, ?_, ?_, ?_, ?_, ?_, ?_, ?_, ?_, ?_, ?_, ?_, ?_, ?_, ?_, ?_, ?_, ?_, ?_, ?_, ?_, ?_, ?_, ?_, ?_, ?_, ?_, ?_, ?_, ?_, ?_, ?_, ?_, ?_, ?_, trivial⟩
          · intro t wq2 hbq2 hh K hK
            clear hh
            simp only [filled, upd, Have, is, any, row, pick, Act.put, List.setIfInBounds_toArray, List.set_cons_zero, List.set_cons_succ, Nat.reduceAdd, Nat.reduceEqDiff, reduceIte] at hK ⊢
            go_simp
            exact hK _ _ (Below.refl _ _) rfl
          · intro t wq2 hbq2 hh K hK
            have e0 := hh.1
            simp only [pick] at e0
            replace e0 : t 0 = (.pointer (some ⟨gx, 0, none⟩)) := e0
            clear hh
            simp only [filled, upd, Have, is, any, row, pick, Act.put, List.setIfInBounds_toArray, List.set_cons_zero, List.set_cons_succ, Nat.reduceAdd, Nat.reduceEqDiff, reduceIte] at hK ⊢
            simp only [e0] at hK ⊢
            go_simp
            refine (bytes_any gx n L _ _ (HBX.out.below hbq2) (by omega)).mono ?_
            rintro e w5 ⟨v, rfl, hown, hb5⟩
            obtain ⟨A5, c5, rfl, hc5, hm5, hr5⟩ := owns_form hown
            exact hK _ _ hb5 ⟨_, _, rfl, hc5, hm5, hr5⟩
          · intro t wq2 hbq2 hh K hK
            have e1 := hh.1
            simp only [pick] at e1
            clear hh
            simp only [filled, upd, Have, is, any, row, pick, Act.put, List.setIfInBounds_toArray, List.set_cons_zero, List.set_cons_succ, Nat.reduceAdd, Nat.reduceEqDiff, reduceIte] at hK ⊢
            obtain ⟨A1, c1, e1, hc1, hm1, hr1⟩ := e1
            simp only [e1] at hK ⊢
            have hs := run_string_of 22 9 5 Try.underlying22 Try.underlying5 Try.underlying9 _ c1 hr1
            go_simp
            exact hK _ _ (Below.refl _ _) rfl
          · intro t wq2 hbq2 hh K hK
            clear hh
            simp only [filled, upd, Have, is, any, row, pick, Act.put, List.setIfInBounds_toArray, List.set_cons_zero, List.set_cons_succ, Nat.reduceAdd, Nat.reduceEqDiff, reduceIte] at hK ⊢
            go_simp
            exact hK _ _ (Below.refl _ _) rfl
          · intro t wq2 hbq2 hh K hK
            have e3 := hh.1
            simp only [pick] at e3
            replace e3 : t 3 = (.slice A n cap) := e3
            clear hh
            simp only [filled, upd, Have, is, any, row, pick, Act.put, List.setIfInBounds_toArray, List.set_cons_zero, List.set_cons_succ, Nat.reduceAdd, Nat.reduceEqDiff, reduceIte] at hK ⊢
            simp only [e3] at hK ⊢
            have hs := run_string_of 22 9 5 Try.underlying22 Try.underlying5 Try.underlying9 _ cap (HR5.out.below hbq2)
            go_simp
            exact hK _ _ (Below.refl _ _) rfl
          · intro t wq2 hbq2 hh K hK
            have e2 := hh.1
            simp only [pick] at e2
            replace e2 : t 2 = (.string (strOf L)) := e2
            have e4 := hh.2.1
            simp only [pick] at e4
            replace e4 : t 4 = (.string (strOf L)) := e4
            clear hh
            simp only [filled, upd, Have, is, any, row, pick, Act.put, List.setIfInBounds_toArray, List.set_cons_zero, List.set_cons_succ, Nat.reduceAdd, Nat.reduceEqDiff, reduceIte] at hK ⊢
            simp only [e2, e4] at hK ⊢
            go_simp
            exact hK _ _ (Below.refl _ _) (by simp)
          · intro t wq2 hbq2 hh K hK
            have e5 := hh.1
            simp only [pick] at e5
            replace e5 : t 5 = (.bool true) := e5
            clear hh
            simp only [filled, upd, Have, is, any, row, pick, Act.put, List.setIfInBounds_toArray, List.set_cons_zero, List.set_cons_succ, Nat.reduceAdd, Nat.reduceEqDiff, reduceIte] at hK ⊢
            simp only [e5] at hK ⊢
            go_simp
            exact hK _ _ (Below.refl _ _) rfl
          · intro t wq2 hbq2 hh K hK
            have e6 := hh.1
            simp only [pick] at e6
            replace e6 : t 6 = (.bool true) := e6
            clear hh
            simp only [filled, upd, Have, is, any, row, pick, Act.put, List.setIfInBounds_toArray, List.set_cons_zero, List.set_cons_succ, Nat.reduceAdd, Nat.reduceEqDiff, reduceIte] at hK ⊢
            simp only [e6] at hK ⊢
            go_simp
            exact hK _ _ (Below.refl _ _) rfl
          · intro t wq2 hbq2 hh K hK
            have e6 := hh.1
            simp only [pick] at e6
            replace e6 : t 6 = (.bool true) := e6
            have e7 := hh.2.1
            simp only [pick] at e7
            replace e7 : t 7 = (.pointer (some ⟨gx, 0, none⟩)) := e7
            clear hh
            simp only [filled, upd, Have, is, any, row, pick, Act.put, List.setIfInBounds_toArray, List.set_cons_zero, List.set_cons_succ, Nat.reduceAdd, Nat.reduceEqDiff, reduceIte] at hK ⊢
            simp only [e6, e7] at hK ⊢
            go_simp
            refine (kindm_any gx _ _ _ _ (HBX.out.below hbq2)).mono ?_
            rintro e w5 ⟨rfl, hb5⟩
            exact hK _ _ hb5 rfl
          · intro t wq2 hbq2 hh K hK
            have e6 := hh.1
            simp only [pick] at e6
            replace e6 : t 6 = (.bool true) := e6
            clear hh
            simp only [filled, upd, Have, is, any, row, pick, Act.put, List.setIfInBounds_toArray, List.set_cons_zero, List.set_cons_succ, Nat.reduceAdd, Nat.reduceEqDiff, reduceIte] at hK ⊢
            simp only [e6] at hK ⊢
            go_simp
            exact hK _ _ (Below.refl _ _) rfl
          · intro t wq2 hbq2 hh K hK
            have e6 := hh.1
            simp only [pick] at e6
            replace e6 : t 6 = (.bool true) := e6
            have e9 := hh.2.1
            simp only [pick] at e9
            replace e9 : t 9 = (.string sa) := e9
            clear hh
            simp only [filled, upd, Have, is, any, row, pick, Act.put, List.setIfInBounds_toArray, List.set_cons_zero, List.set_cons_succ, Nat.reduceAdd, Nat.reduceEqDiff, reduceIte] at hK ⊢
            simp only [e6, e9] at hK ⊢
            go_simp
            refine (kind_law sa _ (by omega)).mono ?_
            rintro e w5 ⟨rfl, hb5⟩
            exact hK _ _ hb5 (congrArg Value.string (by rw [HKA.out]))
          · intro t wq2 hbq2 hh K hK
            have e6 := hh.1
            simp only [pick] at e6
            replace e6 : t 6 = (.bool true) := e6
            have e8 := hh.2.1
            simp only [pick] at e8
            replace e8 : t 8 = (.string (strOf KA)) := e8
            have e10 := hh.2.2.1
            simp only [pick] at e10
            replace e10 : t 10 = (.string (strOf KA)) := e10
            clear hh
            simp only [filled, upd, Have, is, any, row, pick, Act.put, List.setIfInBounds_toArray, List.set_cons_zero, List.set_cons_succ, Nat.reduceAdd, Nat.reduceEqDiff, reduceIte] at hK ⊢
            simp only [e6, e8, e10] at hK ⊢
            go_simp
            exact hK _ _ (Below.refl _ _) (by simp)
          · intro t wq2 hbq2 hh K hK
            have e6 := hh.1
            simp only [pick] at e6
            replace e6 : t 6 = (.bool true) := e6
            have e11 := hh.2.1
            simp only [pick] at e11
            replace e11 : t 11 = (.bool true) := e11
            clear hh
            simp only [filled, upd, Have, is, any, row, pick, Act.put, List.setIfInBounds_toArray, List.set_cons_zero, List.set_cons_succ, Nat.reduceAdd, Nat.reduceEqDiff, reduceIte] at hK ⊢
            simp only [e6, e11] at hK ⊢
            go_simp
            exact hK _ _ (Below.refl _ _) rfl
          · intro t wq2 hbq2 hh K hK
            have e12 := hh.1
            simp only [pick] at e12
            replace e12 : t 12 = (.bool true) := e12
            clear hh
            simp only [filled, upd, Have, is, any, row, pick, Act.put, List.setIfInBounds_toArray, List.set_cons_zero, List.set_cons_succ, Nat.reduceAdd, Nat.reduceEqDiff, reduceIte] at hK ⊢
            simp only [e12] at hK ⊢
            go_simp
            exact hK _ _ (Below.refl _ _) rfl
          · intro t wq2 hbq2 hh K hK
            have e13 := hh.1
            simp only [pick] at e13
            replace e13 : t 13 = (.bool true) := e13
            clear hh
            simp only [filled, upd, Have, is, any, row, pick, Act.put, List.setIfInBounds_toArray, List.set_cons_zero, List.set_cons_succ, Nat.reduceAdd, Nat.reduceEqDiff, reduceIte] at hK ⊢
            simp only [e13] at hK ⊢
            go_simp
            exact hK _ _ (Below.refl _ _) rfl
          · intro t wq2 hbq2 hh K hK
            have e13 := hh.1
            simp only [pick] at e13
            replace e13 : t 13 = (.bool true) := e13
            have e14 := hh.2.1
            simp only [pick] at e14
            replace e14 : t 14 = (.pointer (some ⟨gx, 0, none⟩)) := e14
            clear hh
            simp only [filled, upd, Have, is, any, row, pick, Act.put, List.setIfInBounds_toArray, List.set_cons_zero, List.set_cons_succ, Nat.reduceAdd, Nat.reduceEqDiff, reduceIte] at hK ⊢
            simp only [e13, e14] at hK ⊢
            go_simp
            refine (len_any gx _ _ _ _ (HBX.out.below hbq2)).mono ?_
            rintro e w5 ⟨rfl, hb5⟩
            exact hK _ _ hb5 rfl
          · intro t wq2 hbq2 hh K hK
            have e13 := hh.1
            simp only [pick] at e13
            replace e13 : t 13 = (.bool true) := e13
            clear hh
            simp only [filled, upd, Have, is, any, row, pick, Act.put, List.setIfInBounds_toArray, List.set_cons_zero, List.set_cons_succ, Nat.reduceAdd, Nat.reduceEqDiff, reduceIte] at hK ⊢
            simp only [e13] at hK ⊢
            go_simp
            exact hK _ _ (Below.refl _ _) rfl
          · intro t wq2 hbq2 hh K hK
            have e13 := hh.1
            simp only [pick] at e13
            replace e13 : t 13 = (.bool true) := e13
            have e16 := hh.2.1
            simp only [pick] at e16
            replace e16 : t 16 = (.slice A n cap) := e16
            clear hh
            simp only [filled, upd, Have, is, any, row, pick, Act.put, List.setIfInBounds_toArray, List.set_cons_zero, List.set_cons_succ, Nat.reduceAdd, Nat.reduceEqDiff, reduceIte] at hK ⊢
            simp only [e13, e16] at hK ⊢
            go_simp
            exact hK _ _ (Below.refl _ _) rfl
          · intro t wq2 hbq2 hh K hK
            have e13 := hh.1
            simp only [pick] at e13
            replace e13 : t 13 = (.bool true) := e13
            have e15 := hh.2.1
            simp only [pick] at e15
            replace e15 : t 15 = (.int .i64 (n : Int)) := e15
            have e17 := hh.2.2.1
            simp only [pick] at e17
            replace e17 : t 17 = (.int .i64 (n : Int)) := e17
            clear hh
            simp only [filled, upd, Have, is, any, row, pick, Act.put, List.setIfInBounds_toArray, List.set_cons_zero, List.set_cons_succ, Nat.reduceAdd, Nat.reduceEqDiff, reduceIte] at hK ⊢
            simp only [e13, e15, e17] at hK ⊢
            go_simp
            exact hK _ _ (Below.refl _ _) (by simp)
          · intro t wq2 hbq2 hh K hK
            have e13 := hh.1
            simp only [pick] at e13
            replace e13 : t 13 = (.bool true) := e13
            have e18 := hh.2.1
            simp only [pick] at e18
            replace e18 : t 18 = (.bool true) := e18
            clear hh
            simp only [filled, upd, Have, is, any, row, pick, Act.put, List.setIfInBounds_toArray, List.set_cons_zero, List.set_cons_succ, Nat.reduceAdd, Nat.reduceEqDiff, reduceIte] at hK ⊢
            simp only [e13, e18] at hK ⊢
            go_simp
            exact hK _ _ (Below.refl _ _) rfl
          · intro t wq2 hbq2 hh K hK
            have e19 := hh.1
            simp only [pick] at e19
            replace e19 : t 19 = (.bool true) := e19
            clear hh
            simp only [filled, upd, Have, is, any, row, pick, Act.put, List.setIfInBounds_toArray, List.set_cons_zero, List.set_cons_succ, Nat.reduceAdd, Nat.reduceEqDiff, reduceIte] at hK ⊢
            simp only [e19] at hK ⊢
            go_simp
            exact hK _ _ (Below.refl _ _) rfl
          · intro t wq2 hbq2 hh K hK
            have e20 := hh.1
            simp only [pick] at e20
            replace e20 : t 20 = (.bool true) := e20
            clear hh
            simp only [filled, upd, Have, is, any, row, pick, Act.put, List.setIfInBounds_toArray, List.set_cons_zero, List.set_cons_succ, Nat.reduceAdd, Nat.reduceEqDiff, reduceIte] at hK ⊢
            simp only [e20] at hK ⊢
            go_simp
            exact hK _ _ (Below.refl _ _) rfl
          · intro t wq2 hbq2 hh K hK
            have e20 := hh.1
            simp only [pick] at e20
            replace e20 : t 20 = (.bool true) := e20
            have e21 := hh.2.1
            simp only [pick] at e21
            replace e21 : t 21 = (.pointer (some ⟨gy, 0, none⟩)) := e21
            clear hh
            simp only [filled, upd, Have, is, any, row, pick, Act.put, List.setIfInBounds_toArray, List.set_cons_zero, List.set_cons_succ, Nat.reduceAdd, Nat.reduceEqDiff, reduceIte] at hK ⊢
            simp only [e20, e21] at hK ⊢
            go_simp
            refine (bytes_any gy m M _ _ (HBY.out.below hbq2) (by rw [HMM.out]; omega)).mono ?_
            rintro e w5 ⟨v, rfl, hown, hb5⟩
            obtain ⟨A5, c5, rfl, hc5, hm5, hr5⟩ := owns_form hown
            exact hK _ _ hb5 ⟨_, _, rfl, hc5, hm5, hr5⟩
          · intro t wq2 hbq2 hh K hK
            have e20 := hh.1
            simp only [pick] at e20
            replace e20 : t 20 = (.bool true) := e20
            have e22 := hh.2.1
            simp only [pick] at e22
            clear hh
            simp only [filled, upd, Have, is, any, row, pick, Act.put, List.setIfInBounds_toArray, List.set_cons_zero, List.set_cons_succ, Nat.reduceAdd, Nat.reduceEqDiff, reduceIte] at hK ⊢
            obtain ⟨A22, c22, e22, hc22, hm22, hr22⟩ := e22
            simp only [e20, e22] at hK ⊢
            have hs := run_string_of 22 9 5 Try.underlying22 Try.underlying5 Try.underlying9 _ c22 hr22
            go_simp
            exact hK _ _ (Below.refl _ _) rfl
          · intro t wq2 hbq2 hh K hK
            have e20 := hh.1
            simp only [pick] at e20
            replace e20 : t 20 = (.bool true) := e20
            clear hh
            simp only [filled, upd, Have, is, any, row, pick, Act.put, List.setIfInBounds_toArray, List.set_cons_zero, List.set_cons_succ, Nat.reduceAdd, Nat.reduceEqDiff, reduceIte] at hK ⊢
            simp only [e20] at hK ⊢
            go_simp
            exact hK _ _ (Below.refl _ _) rfl
          · intro t wq2 hbq2 hh K hK
            have e20 := hh.1
            simp only [pick] at e20
            replace e20 : t 20 = (.bool true) := e20
            clear hh
            simp only [filled, upd, Have, is, any, row, pick, Act.put, List.setIfInBounds_toArray, List.set_cons_zero, List.set_cons_succ, Nat.reduceAdd, Nat.reduceEqDiff, reduceIte] at hK ⊢
            simp only [e20] at hK ⊢
            go_simp
            exact hK _ _ (Below.refl _ _) rfl
          · intro t wq2 hbq2 hh K hK
            have e20 := hh.1
            simp only [pick] at e20
            replace e20 : t 20 = (.bool true) := e20
            clear hh
            simp only [filled, upd, Have, is, any, row, pick, Act.put, List.setIfInBounds_toArray, List.set_cons_zero, List.set_cons_succ, Nat.reduceAdd, Nat.reduceEqDiff, reduceIte] at hK ⊢
            simp only [e20] at hK ⊢
            go_simp
            exact hK _ _ (Below.refl _ _) rfl
          · intro t wq2 hbq2 hh K hK
            have e20 := hh.1
            simp only [pick] at e20
            replace e20 : t 20 = (.bool true) := e20
            have e24 := hh.2.1
            simp only [pick] at e24
            replace e24 : t 24 = (.slice A n cap) := e24
            have e25 := hh.2.2.1
            simp only [pick] at e25
            replace e25 : t 25 = (.int .i64 (st : Int)) := e25
            have e26 := hh.2.2.2.1
            simp only [pick] at e26
            replace e26 : t 26 = (.int .i64 (mx : Int)) := e26
            clear hh
            simp only [filled, upd, Have, is, any, row, pick, Act.put, List.setIfInBounds_toArray, List.set_cons_zero, List.set_cons_succ, Nat.reduceAdd, Nat.reduceEqDiff, reduceIte] at hK ⊢
            simp only [e20, e24, e25, e26] at hK ⊢
            have hmq := HMM.out
            have hrq := HR5.out.below hbq2
            have hmid : mx ≤ cap := by omega
            have hmidI : (mx : Int) ≤ (cap : Int) := by omega
            cases A with
            | none =>
              have HZ := hid (show m = 0 by have h0 := HNil.out rfl; omega)
              clear hmq
              go_simp
              refine hK _ _ (Below.refl _ _) ⟨_, _, congrArg (fun x => Value.slice _ x _) HMM.out.symm, ?_, ?_, ?_⟩
              · rw [HZ.out]; exact Nat.zero_le _
              · unfold maxLen; omega
              · rw [HMN.out HZ.out, HZ.out]; exact Rds.nil _
            | some ad =>
              by_cases hcap : cap = st
              · have HZ := hid (show m = 0 by omega)
                clear hmq
                subst hcap
                go_simp
                refine hK _ _ (Below.refl _ _) ⟨_, _, congrArg (fun x => Value.slice _ x _) HZ.out.symm, ?_, ?_, ?_⟩
                · rw [HZ.out]; exact Nat.zero_le _
                · unfold maxLen; omega
                · rw [HMN.out HZ.out, HZ.out]; exact Rds.nil _
              · rcases Nat.eq_zero_or_pos n with h0 | h0
                · have HZ := hid (show m = 0 by omega)
                  clear hmq h0
                  go_simp
                  refine hK _ _ (Below.refl _ _) ⟨_, _, congrArg (fun x => Value.slice _ x _) HMM.out.symm, ?_, ?_, ?_⟩
                  · rw [HZ.out]; exact Nat.zero_le _
                  · unfold maxLen; omega
                  · rw [HMN.out HZ.out, HZ.out]; exact Rds.nil _
                · obtain ⟨g, off, e, _⟩ := hrq.spot h0
                  cases e
                  clear hmq
                  go_simp
                  refine hK _ _ (Below.refl _ _) ?_
                  refine ⟨some ⟨g, off + st, none⟩, cap - st, by rw [HMM.out], by rw [HMM.out]; omega, by unfold maxLen; omega, ?_⟩
                  rw [HM.out, HMM.out, bcells_take, bcells_drop]
                  exact (hrq.cut st (by omega)).upto _ (by omega)
          · intro t wq2 hbq2 hh K hK
            have e20 := hh.1
            simp only [pick] at e20
            replace e20 : t 20 = (.bool true) := e20
            have e27 := hh.2.1
            simp only [pick] at e27
            clear hh
            simp only [filled, upd, Have, is, any, row, pick, Act.put, List.setIfInBounds_toArray, List.set_cons_zero, List.set_cons_succ, Nat.reduceAdd, Nat.reduceEqDiff, reduceIte] at hK ⊢
            obtain ⟨A27, c27, e27, hc27, hm27, hr27⟩ := e27
            simp only [e20, e27] at hK ⊢
            have hs := run_string_of 22 9 5 Try.underlying22 Try.underlying5 Try.underlying9 _ c27 hr27
            go_simp
            exact hK _ _ (Below.refl _ _) rfl
          · intro t wq2 hbq2 hh K hK
            have e20 := hh.1
            simp only [pick] at e20
            replace e20 : t 20 = (.bool true) := e20
            have e23 := hh.2.1
            simp only [pick] at e23
            replace e23 : t 23 = (.string (strOf M)) := e23
            have e28 := hh.2.2.1
            simp only [pick] at e28
            replace e28 : t 28 = (.string (strOf M)) := e28
            clear hh
            simp only [filled, upd, Have, is, any, row, pick, Act.put, List.setIfInBounds_toArray, List.set_cons_zero, List.set_cons_succ, Nat.reduceAdd, Nat.reduceEqDiff, reduceIte] at hK ⊢
            simp only [e20, e23, e28] at hK ⊢
            go_simp
            exact hK _ _ (Below.refl _ _) (by simp)
          · intro t wq2 hbq2 hh K hK
            have e20 := hh.1
            simp only [pick] at e20
            replace e20 : t 20 = (.bool true) := e20
            have e29 := hh.2.1
            simp only [pick] at e29
            replace e29 : t 29 = (.bool true) := e29
            clear hh
            simp only [filled, upd, Have, is, any, row, pick, Act.put, List.setIfInBounds_toArray, List.set_cons_zero, List.set_cons_succ, Nat.reduceAdd, Nat.reduceEqDiff, reduceIte] at hK ⊢
            simp only [e20, e29] at hK ⊢
            go_simp
            exact hK _ _ (Below.refl _ _) rfl
          · intro t wq2 hbq2 hh K hK
            have e30 := hh.1
            simp only [pick] at e30
            replace e30 : t 30 = (.bool true) := e30
            clear hh
            simp only [filled, upd, Have, is, any, row, pick, Act.put, List.setIfInBounds_toArray, List.set_cons_zero, List.set_cons_succ, Nat.reduceAdd, Nat.reduceEqDiff, reduceIte] at hK ⊢
            simp only [e30] at hK ⊢
            go_simp
            exact hK _ _ (Below.refl _ _) rfl
          · intro t wq2 hbq2 hh K hK
            have e31 := hh.1
            simp only [pick] at e31
            replace e31 : t 31 = (.bool true) := e31
            clear hh
            simp only [filled, upd, Have, is, any, row, pick, Act.put, List.setIfInBounds_toArray, List.set_cons_zero, List.set_cons_succ, Nat.reduceAdd, Nat.reduceEqDiff, reduceIte] at hK ⊢
            simp only [e31] at hK ⊢
            go_simp
            exact hK _ _ (Below.refl _ _) rfl
          · intro t wq2 hbq2 hh K hK
            have e31 := hh.1
            simp only [pick] at e31
            replace e31 : t 31 = (.bool true) := e31
            have e32 := hh.2.1
            simp only [pick] at e32
            replace e32 : t 32 = (.pointer (some ⟨gy, 0, none⟩)) := e32
            clear hh
            simp only [filled, upd, Have, is, any, row, pick, Act.put, List.setIfInBounds_toArray, List.set_cons_zero, List.set_cons_succ, Nat.reduceAdd, Nat.reduceEqDiff, reduceIte] at hK ⊢
            simp only [e31, e32] at hK ⊢
            go_simp
            refine (kindm_any gy _ _ _ _ (HBY.out.below hbq2)).mono ?_
            rintro e w5 ⟨rfl, hb5⟩
            exact hK _ _ hb5 rfl
          · intro t wq2 hbq2 hh K hK
            have e31 := hh.1
            simp only [pick] at e31
            replace e31 : t 31 = (.bool true) := e31
            clear hh
            simp only [filled, upd, Have, is, any, row, pick, Act.put, List.setIfInBounds_toArray, List.set_cons_zero, List.set_cons_succ, Nat.reduceAdd, Nat.reduceEqDiff, reduceIte] at hK ⊢
            simp only [e31] at hK ⊢
            go_simp
            exact hK _ _ (Below.refl _ _) rfl
          · intro t wq2 hbq2 hh K hK
            have e31 := hh.1
            simp only [pick] at e31
            replace e31 : t 31 = (.bool true) := e31
            have e34 := hh.2.1
            simp only [pick] at e34
            replace e34 : t 34 = (.string sb) := e34
            clear hh
            simp only [filled, upd, Have, is, any, row, pick, Act.put, List.setIfInBounds_toArray, List.set_cons_zero, List.set_cons_succ, Nat.reduceAdd, Nat.reduceEqDiff, reduceIte] at hK ⊢
            simp only [e31, e34] at hK ⊢
            go_simp
            refine (kind_law sb _ (by omega)).mono ?_
            rintro e w5 ⟨rfl, hb5⟩
            exact hK _ _ hb5 (congrArg Value.string (by rw [HKB.out]))
          · intro t wq2 hbq2 hh K hK
            have e31 := hh.1
            simp only [pick] at e31
            replace e31 : t 31 = (.bool true) := e31
            have e33 := hh.2.1
            simp only [pick] at e33
            replace e33 : t 33 = (.string (strOf KB)) := e33
            have e35 := hh.2.2.1
            simp only [pick] at e35
            replace e35 : t 35 = (.string (strOf KB)) := e35
            clear hh
            simp only [filled, upd, Have, is, any, row, pick, Act.put, List.setIfInBounds_toArray, List.set_cons_zero, List.set_cons_succ, Nat.reduceAdd, Nat.reduceEqDiff, reduceIte] at hK ⊢
            simp only [e31, e33, e35] at hK ⊢
            go_simp
            exact hK _ _ (Below.refl _ _) (by simp)
          · intro t wq2 hbq2 hh K hK
            have e31 := hh.1
            simp only [pick] at e31
            replace e31 : t 31 = (.bool true) := e31
            have e36 := hh.2.1
            simp only [pick] at e36
            replace e36 : t 36 = (.bool true) := e36
            clear hh
            simp only [filled, upd, Have, is, any, row, pick, Act.put, List.setIfInBounds_toArray, List.set_cons_zero, List.set_cons_succ, Nat.reduceAdd, Nat.reduceEqDiff, reduceIte] at hK ⊢
            simp only [e31, e36] at hK ⊢
            go_simp
            exact hK _ _ (Below.refl _ _) rfl
          · intro t wq2 hbq2 hh K hK
            have e37 := hh.1
            simp only [pick] at e37
            replace e37 : t 37 = (.bool true) := e37
            clear hh
            simp only [filled, upd, Have, is, any, row, pick, Act.put, List.setIfInBounds_toArray, List.set_cons_zero, List.set_cons_succ, Nat.reduceAdd, Nat.reduceEqDiff, reduceIte] at hK ⊢
            simp only [e37] at hK ⊢
            go_simp
            exact hK _ _ (Below.refl _ _) rfl
          · intro t wq2 hbq2 hh K hK
            have e38 := hh.1
            simp only [pick] at e38
            replace e38 : t 38 = (.bool true) := e38
            clear hh
            simp only [filled, upd, Have, is, any, row, pick, Act.put, List.setIfInBounds_toArray, List.set_cons_zero, List.set_cons_succ, Nat.reduceAdd, Nat.reduceEqDiff, reduceIte] at hK ⊢
            simp only [e38] at hK ⊢
            go_simp
            exact hK _ _ (Below.refl _ _) rfl
          · intro t wq2 hbq2 hh K hK
            have e38 := hh.1
            simp only [pick] at e38
            replace e38 : t 38 = (.bool true) := e38
            have e39 := hh.2.1
            simp only [pick] at e39
            replace e39 : t 39 = (.pointer (some ⟨gy, 0, none⟩)) := e39
            clear hh
            simp only [filled, upd, Have, is, any, row, pick, Act.put, List.setIfInBounds_toArray, List.set_cons_zero, List.set_cons_succ, Nat.reduceAdd, Nat.reduceEqDiff, reduceIte] at hK ⊢
            simp only [e38, e39] at hK ⊢
            go_simp
            refine (len_any gy _ _ _ _ (HBY.out.below hbq2)).mono ?_
            rintro e w5 ⟨rfl, hb5⟩
            exact hK _ _ hb5 rfl
          · intro t wq2 hbq2 hh K hK
            have e38 := hh.1
            simp only [pick] at e38
            replace e38 : t 38 = (.bool true) := e38
            clear hh
            simp only [filled, upd, Have, is, any, row, pick, Act.put, List.setIfInBounds_toArray, List.set_cons_zero, List.set_cons_succ, Nat.reduceAdd, Nat.reduceEqDiff, reduceIte] at hK ⊢
            simp only [e38] at hK ⊢
            go_simp
            exact hK _ _ (Below.refl _ _) rfl
          · intro t wq2 hbq2 hh K hK
            have e38 := hh.1
            simp only [pick] at e38
            replace e38 : t 38 = (.bool true) := e38
            clear hh
            simp only [filled, upd, Have, is, any, row, pick, Act.put, List.setIfInBounds_toArray, List.set_cons_zero, List.set_cons_succ, Nat.reduceAdd, Nat.reduceEqDiff, reduceIte] at hK ⊢
            simp only [e38] at hK ⊢
            go_simp
            exact hK _ _ (Below.refl _ _) rfl
          · intro t wq2 hbq2 hh K hK
            have e38 := hh.1
            simp only [pick] at e38
            replace e38 : t 38 = (.bool true) := e38
            have e41 := hh.2.1
            simp only [pick] at e41
            replace e41 : t 41 = (.int .i64 (mx : Int)) := e41
            have e42 := hh.2.2.1
            simp only [pick] at e42
            replace e42 : t 42 = (.int .i64 (st : Int)) := e42
            clear hh
            simp only [filled, upd, Have, is, any, row, pick, Act.put, List.setIfInBounds_toArray, List.set_cons_zero, List.set_cons_succ, Nat.reduceAdd, Nat.reduceEqDiff, reduceIte] at hK ⊢
            simp only [e38, e41, e42] at hK ⊢
            go_simp
            refine hK _ _ (Below.refl _ _) ?_
            rw [HMI.out]
            have hmb := HMM.out
            exact int_wrap (by omega) (by omega)
          · intro t wq2 hbq2 hh K hK
            have e38 := hh.1
            simp only [pick] at e38
            replace e38 : t 38 = (.bool true) := e38
            have e40 := hh.2.1
            simp only [pick] at e40
            replace e40 : t 40 = (.int .i64 (m : Int)) := e40
            have e43 := hh.2.2.1
            simp only [pick] at e43
            replace e43 : t 43 = (.int .i64 (m : Int)) := e43
            clear hh
            simp only [filled, upd, Have, is, any, row, pick, Act.put, List.setIfInBounds_toArray, List.set_cons_zero, List.set_cons_succ, Nat.reduceAdd, Nat.reduceEqDiff, reduceIte] at hK ⊢
            simp only [e38, e40, e43] at hK ⊢
            go_simp
            exact hK _ _ (Below.refl _ _) (by simp)
          · intro t wq2 hbq2 hh K hK
            have e38 := hh.1
            simp only [pick] at e38
            replace e38 : t 38 = (.bool true) := e38
            have e44 := hh.2.1
            simp only [pick] at e44
            replace e44 : t 44 = (.bool true) := e44
            clear hh
            simp only [filled, upd, Have, is, any, row, pick, Act.put, List.setIfInBounds_toArray, List.set_cons_zero, List.set_cons_succ, Nat.reduceAdd, Nat.reduceEqDiff, reduceIte] at hK ⊢
            simp only [e38, e44] at hK ⊢
            go_simp
            exact hK _ _ (Below.refl _ _) rfl
          · intro t wq2 hbq2 hh K hK
            have e45 := hh.1
            simp only [pick] at e45
            replace e45 : t 45 = (.bool true) := e45
            clear hh
            simp only [filled, upd, Have, is, any, row, pick, Act.put, List.setIfInBounds_toArray, List.set_cons_zero, List.set_cons_succ, Nat.reduceAdd, Nat.reduceEqDiff, reduceIte] at hK ⊢
            simp only [e45] at hK ⊢
            go_simp
            exact hK _ _ (Below.refl _ _) rfl
          · intro t wq2 hbq2 hh K hK
            have e46 := hh.1
            simp only [pick] at e46
            replace e46 : t 46 = (.bool true) := e46
            clear hh
            simp only [filled, upd, Have, is, any, row, pick, Act.put, List.setIfInBounds_toArray, List.set_cons_zero, List.set_cons_succ, Nat.reduceAdd, Nat.reduceEqDiff, reduceIte] at hK ⊢
            simp only [e46] at hK ⊢
            go_simp
            exact hK _ _ (Below.refl _ _) rfl
          · intro t wq2 hbq2 hh K hK
            have e46 := hh.1
            simp only [pick] at e46
            replace e46 : t 46 = (.bool true) := e46
            have e47 := hh.2.1
            simp only [pick] at e47
            replace e47 : t 47 = (.string sb) := e47
            clear hh
            simp only [filled, upd, Have, is, any, row, pick, Act.put, List.setIfInBounds_toArray, List.set_cons_zero, List.set_cons_succ, Nat.reduceAdd, Nat.reduceEqDiff, reduceIte] at hK ⊢
            simp only [e46, e47] at hK ⊢
            go_simp
            refine (kind_any sb _ (by unfold maxLen; omega)).mono ?_
            rintro e w5 ⟨rfl, hb5⟩
            exact hK _ _ hb5 (congrArg Value.string (by rw [HKB.out]))
          · intro t wq2 hbq2 hh K hK
            have e46 := hh.1
            simp only [pick] at e46
            replace e46 : t 46 = (.bool true) := e46
            clear hh
            simp only [filled, upd, Have, is, any, row, pick, Act.put, List.setIfInBounds_toArray, List.set_cons_zero, List.set_cons_succ, Nat.reduceAdd, Nat.reduceEqDiff, reduceIte] at hK ⊢
            simp only [e46] at hK ⊢
            go_simp
            exact hK _ _ (Below.refl _ _) rfl
          · intro t wq2 hbq2 hh K hK
            have e46 := hh.1
            simp only [pick] at e46
            replace e46 : t 46 = (.bool true) := e46
            have e49 := hh.2.1
            simp only [pick] at e49
            replace e49 : t 49 = (.string sb) := e49
            clear hh
            simp only [filled, upd, Have, is, any, row, pick, Act.put, List.setIfInBounds_toArray, List.set_cons_zero, List.set_cons_succ, Nat.reduceAdd, Nat.reduceEqDiff, reduceIte] at hK ⊢
            simp only [e46, e49] at hK ⊢
            go_simp
            refine (kind_law sb _ (by omega)).mono ?_
            rintro e w5 ⟨rfl, hb5⟩
            exact hK _ _ hb5 (congrArg Value.string (by rw [HKB.out]))
          · intro t wq2 hbq2 hh K hK
            have e46 := hh.1
            simp only [pick] at e46
            replace e46 : t 46 = (.bool true) := e46
            have e48 := hh.2.1
            simp only [pick] at e48
            replace e48 : t 48 = (.string (strOf KB)) := e48
            have e50 := hh.2.2.1
            simp only [pick] at e50
            replace e50 : t 50 = (.string (strOf KB)) := e50
            clear hh
            simp only [filled, upd, Have, is, any, row, pick, Act.put, List.setIfInBounds_toArray, List.set_cons_zero, List.set_cons_succ, Nat.reduceAdd, Nat.reduceEqDiff, reduceIte] at hK ⊢
            simp only [e46, e48, e50] at hK ⊢
            go_simp
            exact hK _ _ (Below.refl _ _) (by simp)
          · intro t wq2 hbq2 hh K hK
            have e46 := hh.1
            simp only [pick] at e46
            replace e46 : t 46 = (.bool true) := e46
            have e51 := hh.2.1
            simp only [pick] at e51
            replace e51 : t 51 = (.bool true) := e51
            clear hh
            simp only [filled, upd, Have, is, any, row, pick, Act.put, List.setIfInBounds_toArray, List.set_cons_zero, List.set_cons_succ, Nat.reduceAdd, Nat.reduceEqDiff, reduceIte] at hK ⊢
            simp only [e46, e51] at hK ⊢
            go_simp
            exact hK _ _ (Below.refl _ _) rfl
          · intro t wq2 hbq2 hh K hK
            have e52 := hh.1
            simp only [pick] at e52
            replace e52 : t 52 = (.bool true) := e52
            clear hh
            simp only [filled, upd, Have, is, any, row, pick, Act.put, List.setIfInBounds_toArray, List.set_cons_zero, List.set_cons_succ, Nat.reduceAdd, Nat.reduceEqDiff, reduceIte] at hK ⊢
            simp only [e52] at hK ⊢
            go_simp
            exact hK _ _ (Below.refl _ _) rfl
        · intro t wq2 hbq2 hh
          have f53 := have_get hh 53 (by decide)
          simp only [pick] at f53
          replace f53 : t 53 = (.bool true) := f53
          clear hh
          simp only [filled, upd, Have, is, any, row, pick, Act.put, List.setIfInBounds_toArray, List.set_cons_zero, List.set_cons_succ, Nat.reduceAdd, Nat.reduceEqDiff, reduceIte]
          simp only [f53]
          go_wp2
          go_ret
          exact ⟨rfl, hbAll.trans (hbq2.mono hbAll.size)⟩
    · skip
      have p1 : ¬ (500 : Int) < (n : Int) := by omega
      have p2 : (300 : Int) < (sa.size : Int) + (sb.size : Int) := by omega
      have hb0 : Below w.heap.size w ((w.alloc (.cells #[.int .i64 z1] 2)).alloc (.cells #[.int .i64 z2] 2)) := ((Below.refl _ _).alloc (Nat.le_refl _) _).alloc (by simp) _
      have HB0 := hid hb0
      clear hb0
      go_enter Try.func3, Try.ntmps3
      go_wp2_with fail
      refine (BlobW.awake_any _).mono ?_
      rintro e w1 ⟨rfl, hb1⟩
      have HB1 := hid (bel HB0.out hb1)
      clear hb1
      go_wp2_with fail
      refine (BlobW.awake_any _).mono ?_
      rintro e w2 ⟨rfl, hb2⟩
      have HB2 := hid (bel HB1.out hb2)
      clear hb2
      go_wp2
      go_ret
      exact ⟨rfl, HB2.out⟩
  · skip
    have p1 : (500 : Int) < (n : Int) := by omega
    have hb0 : Below w.heap.size w ((w.alloc (.cells #[.int .i64 z1] 2)).alloc (.cells #[.int .i64 z2] 2)) := ((Below.refl _ _).alloc (Nat.le_refl _) _).alloc (by simp) _
    have HB0 := hid hb0
    clear hb0
    go_enter Try.func3, Try.ntmps3
    go_wp2_with fail
    refine (BlobW.awake_any _).mono ?_
    rintro e w1 ⟨rfl, hb1⟩
    have HB1 := hid (bel HB0.out hb1)
    clear hb1
    go_wp2_with fail
    refine (BlobW.awake_any _).mono ?_
    rintro e w2 ⟨rfl, hb2⟩
    have HB2 := hid (bel HB1.out hb2)
    clear hb2
    go_wp2
    go_ret
    exact ⟨rfl, HB2.out⟩
end Go.Proofs.Ytdgdmlchegjejaa.Laws
