/- The walk of the law MailSorts: it returns true, whatever it is called with. -/
import Derived.Test.YtihlojkghemjeaaMaiB
import Derived.Test.YtihlojkghemjeaaRegt
namespace Go.Proofs.Ytihlojkghemjeaa.Laws
open Go.RowKit Go.Proofs.Ytihlojkghemjeaa.Base Go.Proofs.Ytihlojkghemjeaa.Base2 Go.Proofs.Ytihlojkghemjeaa.MaiA Go.Proofs.Ytihlojkghemjeaa.MaiB Go.Proofs.Ytihlojkghemjeaa.Regs

/-- The texts that are so. -/
def sel (f : Bool) : List ByteArray → List Bool → List Value
  | x :: xs, c :: cs => if c = f then .string x :: sel f xs cs else sel f xs cs
  | _, _ => []
theorem sel_len (f : Bool) : ∀ (l : List ByteArray) (b : List Bool), (sel f l b).length ≤ l.length
  | [], _ => by simp [sel]
  | _ :: _, [] => by simp [sel]
  | x :: xs, c :: cs => by
    have := sel_len f xs cs
    unfold sel
    split <;> (simp only [List.length_cons]; omega)
theorem sel_snoc (f : Bool) : ∀ (k : Nat) (l : List ByteArray) (b : List Bool) (h : k < l.length) (h2 : k < b.length), sel f (l.take (k + 1)) b = sel f (l.take k) b ++ (if b[k] = f then [.string l[k]] else [])
  | 0, x :: xs, c :: cs, _, _ => by
    show sel f [x] (c :: cs) = _
    unfold sel
    simp only [List.take_zero, sel, List.getElem_cons_zero, List.nil_append]
  | k + 1, x :: xs, c :: cs, h, h2 => by
    have ih := sel_snoc f k xs cs (by simpa using h) (by simpa using h2)
    show sel f (x :: xs.take (k + 1)) (c :: cs) = sel f (x :: xs.take k) (c :: cs) ++ _
    rw [sel, sel, ih]
    split <;> simp
theorem sel_drop (f : Bool) (l : List ByteArray) (b : List Bool) (k : Nat) (h : k < l.length) (h2 : k < b.length) : sel f (l.drop k) (b.drop k) = if b[k] = f then .string l[k] :: sel f (l.drop (k + 1)) (b.drop (k + 1)) else sel f (l.drop (k + 1)) (b.drop (k + 1)) := by
  rw [List.drop_eq_getElem_cons h, List.drop_eq_getElem_cons h2, sel]
theorem sel_end (f : Bool) (l : List ByteArray) (b : List Bool) (k : Nat) (h : k = l.length) : sel f (l.drop k) (b.drop k) = [] := by
  subst h
  rw [List.drop_length]
  cases b.drop l.length <;> rfl
def UU (l : List ByteArray) (b : List Bool) : Nat → List Value
  | 0 => sel true (l.drop 0) (b.drop 0)
  | _ => []
def PP (l : List ByteArray) (b : List Bool) : Nat → List Value
  | 0 => sel false l b
  | 1 => sel false (l.drop 0) (b.drop 0)
  | _ => []
theorem two_bools (w : World) (t : TypeId) : (w.alloc (.cells #[.bool true, .bool false] t)).heap[w.heap.size]? = some (.cells #[.bool true, .bool false] t (0, 0)) := heap_alloc_new w _
theorem beq_self (x : ByteArray) : (x.toList == x.toList) = true := by simp
theorem bne_self (x : ByteArray) : (x.toList != x.toList) = false := by simp
set_option linter.unusedSimpArgs false in
set_option maxRecDepth 100000 in
set_option maxHeartbeats 8000000 in
theorem MailSorts_any (A : Option Addr) (n cap : Nat) (l : List ByteArray) (A2 : Option Addr) (n2 cap2 : Nat) (b : List Bool) (w : World) (hR : Rds w A n (l.map Value.string)) (hnc : n ≤ cap) (hcm : cap ≤ maxLen) (_hk : ∀ s ∈ l, s.size ≤ maxLen) (hR2 : Rds w A2 n2 (b.map Value.bool)) (hnc2 : n2 ≤ cap2) (hcm2 : cap2 ≤ maxLen) :
    Calls Try.prog 7 #[.slice A n cap, .slice A2 n2 cap2] w fun e w' => e = .returned (.bool true) ∧ Below w.heap.size w w' := by
  have hln : l.length = n := by rw [← hR.1, List.length_map]
  have hln2 : b.length = n2 := by rw [← hR2.1, List.length_map]
  have HLN := hid hln
  have HLN2 := hid hln2
  have HR := hid hR
  have HR2 := hid hR2
  unfold maxLen at hcm hcm2
  clear hR hR2 hln hln2
  by_cases hok : n ≤ 60 ∧ n ≤ n2
  · obtain ⟨h60, hnn⟩ := hok
    go_enter Try.func7, Try.ntmps7
    go_wp2_with fail
    refine (awake_any _).mono ?_
    rintro e w2 ⟨rfl, hb2⟩
    have HB2 := hid hb2
    clear hb2
    go_wp2_with fail
    refine (newS 64 (by omega) (Nat.le_refl _) _).mono ?_
    rintro e w3 ⟨g, rfl, h3, hb3⟩
    have HB3 := hid (bel HB2.out hb3)
    have H3 := hid h3
    have HLE := hid HB2.out.size
    clear h3 hb3
    go_wp2
    go_loopw [7, 35] (fun _ vk wr => ∃ k : Nat, k ≤ n ∧ vk = .int .i64 (k : Int) ∧ Hid (MS 96 w2.heap.size wr g 64 (sel true (l.take k) b) (sel false (l.take k) b)) ∧ Hid (Below w.heap.size w wr)) (fun _ vk _ => n - (intOf vk).toNat)
    case atStart => exact ⟨0, Nat.zero_le _, rfl, by (rw [List.take_zero]; cases b <;> exact H3.out), HB3⟩
    case round =>
      clear H3 HB3
      obtain ⟨k, hk, rfl, HS, HB⟩ := hrel
      by_cases hlt : k < n
      · have hkl : k < l.length := by rw [HLN.out]; exact hlt
        have hkb : k < b.length := by rw [HLN2.out]; omega
        obtain ⟨g1, o1, rfl, hg1, hcell1⟩ := HR.out.spot (by omega)
        obtain ⟨g2, o2, rfl, hg2, hcell2⟩ := HR2.out.spot (by omega)
        obtain ⟨x, hx⟩ : ∃ x, x = l[k] := ⟨_, rfl⟩
        obtain ⟨c, hc⟩ : ∃ c, c = b[k] := ⟨_, rfl⟩
        have h1 := hcell1 k (by rw [List.length_map]; exact hkl)
        have h2 := hcell2 k (by rw [List.length_map]; exact hkb)
        rw [List.getElem_map, ← hx] at h1
        rw [List.getElem_map, ← hc] at h2
        have HC1 : Hid (wr.cell? ⟨g1, o1 + k, none⟩ = some (.string x)) := (HB.out.cell (p := ⟨g1, o1 + k, none⟩) hg1).trans h1
        have HC2 : Hid (wr.cell? ⟨g2, o2 + k, none⟩ = some (.bool c)) := (HB.out.cell (p := ⟨g2, o2 + k, none⟩) hg2).trans h2
        have HL1 : Hid (g1 < wr.heap.size ∧ g2 < wr.heap.size) := ⟨Nat.lt_of_lt_of_le hg1 HB.out.size, Nat.lt_of_lt_of_le hg2 HB.out.size⟩
        have HSU := hid (sel_snoc true k l b hkl hkb)
        have HSP := hid (sel_snoc false k l b hkl hkb)
        rw [← hc, ← hx] at HSU HSP
        have hUl : (sel true (l.take k) b).length < 64 := by have := sel_len true (l.take k) b; rw [List.length_take] at this; omega
        have hPl : (sel false (l.take k) b).length < 64 := by have := sel_len false (l.take k) b; rw [List.length_take] at this; omega
        have HUL := hid hUl
        have HPL := hid hPl
        have hki : (k : Int) < (n : Int) := by omega
        have hki2 : (k : Int) < (n2 : Int) := by omega
        have hk0 : (0 : Int) ≤ (k : Int) := by omega
        clear hx hc h1 h2 hcell1 hcell2 hkl hkb hUl hPl
        go_wp2_with fail
        refine wp_region_rel_tail (by kernel_rfl) 9 [is (.pointer (some ⟨g, 0, none⟩)), is (.slice (some ⟨g1, o1, none⟩) n cap), is (.int .i64 (k : Int)), is (.pointer (some ⟨g1, o1 + k, none⟩)), is (.string x), is (.slice (some ⟨g2, o2, none⟩) n2 cap2), is (.int .i64 (k : Int)), is (.pointer (some ⟨g2, o2 + k, none⟩)), is (.bool c)] [[], [], [], [1, 2], [1, 2, 3], [], [], [5, 6], [5, 6, 7], [0, 1, 2, 3, 4, 5, 6, 7, 8]] (by kernel_rfl) ?_ ?_
        · refine ⟨?_, ?_, ?_, ?_, ?_, ?_, ?_, ?_, ?_, trivial⟩
          · intro t wq hbq hh K hK
            clear hh
            simp only [filled, filledN, upd, Have, is, any, row, pick, Act.put, List.setIfInBounds_toArray, List.set_cons_zero, List.set_cons_succ, Nat.reduceAdd, Nat.reduceEqDiff, reduceIte] at hK ⊢
            go_simp
            exact hK _ _ (Below.refl _ _) rfl
          · intro t wq hbq hh K hK
            clear hh
            simp only [filled, filledN, upd, Have, is, any, row, pick, Act.put, List.setIfInBounds_toArray, List.set_cons_zero, List.set_cons_succ, Nat.reduceAdd, Nat.reduceEqDiff, reduceIte] at hK ⊢
            go_simp
            exact hK _ _ (Below.refl _ _) rfl
          · intro t wq hbq hh K hK
            clear hh
            simp only [filled, filledN, upd, Have, is, any, row, pick, Act.put, List.setIfInBounds_toArray, List.set_cons_zero, List.set_cons_succ, Nat.reduceAdd, Nat.reduceEqDiff, reduceIte] at hK ⊢
            go_simp
            exact hK _ _ (Below.refl _ _) rfl
          · intro t wq hbq hh K hK
            have e1 := hh.1
            simp only [pick] at e1
            replace e1 : t 1 = (.slice (some ⟨g1, o1, none⟩) n cap) := e1
            have e2 := hh.2.1
            simp only [pick] at e2
            replace e2 : t 2 = (.int .i64 (k : Int)) := e2
            clear hh
            simp only [filled, filledN, upd, Have, is, any, row, pick, Act.put, List.setIfInBounds_toArray, List.set_cons_zero, List.set_cons_succ, Nat.reduceAdd, Nat.reduceEqDiff, reduceIte] at hK ⊢
            simp only [e1, e2] at hK ⊢
            go_simp
            exact hK _ _ (Below.refl _ _) rfl
          · intro t wq hbq hh K hK
            have e3 := hh.2.2.1
            simp only [pick] at e3
            replace e3 : t 3 = (.pointer (some ⟨g1, o1 + k, none⟩)) := e3
            clear hh
            simp only [filled, filledN, upd, Have, is, any, row, pick, Act.put, List.setIfInBounds_toArray, List.set_cons_zero, List.set_cons_succ, Nat.reduceAdd, Nat.reduceEqDiff, reduceIte] at hK ⊢
            simp only [e3] at hK ⊢
            have HQ : Hid (Below wr.heap.size wr wq) := by first | exact hbq | exact (Below.refl _ _).drew.trans (hbq.mono (Nat.le_refl _))
            have hcq := (HQ.out.cell (p := ⟨g1, o1 + k, none⟩) HL1.out.1).trans HC1.out
            go_simp
            exact hK _ _ (Below.refl _ _) rfl
          · intro t wq hbq hh K hK
            clear hh
            simp only [filled, filledN, upd, Have, is, any, row, pick, Act.put, List.setIfInBounds_toArray, List.set_cons_zero, List.set_cons_succ, Nat.reduceAdd, Nat.reduceEqDiff, reduceIte] at hK ⊢
            go_simp
            exact hK _ _ (Below.refl _ _) rfl
          · intro t wq hbq hh K hK
            clear hh
            simp only [filled, filledN, upd, Have, is, any, row, pick, Act.put, List.setIfInBounds_toArray, List.set_cons_zero, List.set_cons_succ, Nat.reduceAdd, Nat.reduceEqDiff, reduceIte] at hK ⊢
            go_simp
            exact hK _ _ (Below.refl _ _) rfl
          · intro t wq hbq hh K hK
            have e5 := hh.1
            simp only [pick] at e5
            replace e5 : t 5 = (.slice (some ⟨g2, o2, none⟩) n2 cap2) := e5
            have e6 := hh.2.1
            simp only [pick] at e6
            replace e6 : t 6 = (.int .i64 (k : Int)) := e6
            clear hh
            simp only [filled, filledN, upd, Have, is, any, row, pick, Act.put, List.setIfInBounds_toArray, List.set_cons_zero, List.set_cons_succ, Nat.reduceAdd, Nat.reduceEqDiff, reduceIte] at hK ⊢
            simp only [e5, e6] at hK ⊢
            go_simp
            exact hK _ _ (Below.refl _ _) rfl
          · intro t wq hbq hh K hK
            have e7 := hh.2.2.1
            simp only [pick] at e7
            replace e7 : t 7 = (.pointer (some ⟨g2, o2 + k, none⟩)) := e7
            clear hh
            simp only [filled, filledN, upd, Have, is, any, row, pick, Act.put, List.setIfInBounds_toArray, List.set_cons_zero, List.set_cons_succ, Nat.reduceAdd, Nat.reduceEqDiff, reduceIte] at hK ⊢
            simp only [e7] at hK ⊢
            have HQ : Hid (Below wr.heap.size wr wq) := by first | exact hbq | exact (Below.refl _ _).drew.trans (hbq.mono (Nat.le_refl _))
            have hcq := (HQ.out.cell (p := ⟨g2, o2 + k, none⟩) HL1.out.2).trans HC2.out
            go_simp
            exact hK _ _ (Below.refl _ _) rfl
        · intro t wq hbq hh
          have f0 := have_get hh 0 (by decide)
          simp only [pick] at f0
          replace f0 : t 0 = (.pointer (some ⟨g, 0, none⟩)) := f0
          have f4 := have_get hh 4 (by decide)
          simp only [pick] at f4
          replace f4 : t 4 = (.string x) := f4
          have f8 := have_get hh 8 (by decide)
          simp only [pick] at f8
          replace f8 : t 8 = (.bool c) := f8
          clear hh
          simp only [filled, filledN, upd, Have, is, any, row, pick, Act.put, List.setIfInBounds_toArray, List.set_cons_zero, List.set_cons_succ, Nat.reduceAdd, Nat.reduceEqDiff, reduceIte]
          simp only [f0, f4, f8]
          have HQ : Hid (Below wr.heap.size wr wq) := by first | exact hbq | exact (Below.refl _ _).drew.trans (hbq.mono (Nat.le_refl _))
          cases c with
          | true =>
            go_wp2_with fail
            refine (putS_u _ g 64 _ _ x _ (HS.out.below HQ.out)).mono ?_
            rw [decide_eq_true HUL.out, if_pos HUL.out]
            rintro e w4 ⟨rfl, h4, hb4, _⟩
            have H4 : Hid (MS 96 w2.heap.size w4 g 64 (sel true (l.take (k + 1)) b) (sel false (l.take (k + 1)) b)) := by
              show MS _ _ _ _ _ _ _
              rw [HSU.out, HSP.out]
              simpa using h4
            have HB4 : Hid (Below w.heap.size w w4) := (bel HB.out HQ.out).trans (hb4.mono HLE.out)
            clear h4 hb4
            go_wp2
            go_roundw
            case rel => exact ⟨k + 1, by omega, by go_num, H4, HB4⟩
            case measure => simp [intOf]; omega
          | false =>
            go_wp2_with fail
            refine (putS_p _ g 64 _ _ x _ (HS.out.below HQ.out)).mono ?_
            rw [decide_eq_true HPL.out, if_pos HPL.out]
            rintro e w4 ⟨rfl, h4, hb4, _⟩
            have H4 : Hid (MS 96 w2.heap.size w4 g 64 (sel true (l.take (k + 1)) b) (sel false (l.take (k + 1)) b)) := by
              show MS _ _ _ _ _ _ _
              rw [HSU.out, HSP.out]
              simpa using h4
            have HB4 : Hid (Below w.heap.size w w4) := (bel HB.out HQ.out).trans (hb4.mono HLE.out)
            clear h4 hb4
            go_wp2
            go_roundw
            case rel => exact ⟨k + 1, by omega, by go_num, H4, HB4⟩
            case measure => simp [intOf]; omega
      · obtain rfl : n = k := by omega
        have HS0 : Hid (MS 96 w2.heap.size wr g 64 (sel true (l.drop 0) (b.drop 0)) (sel false l b)) := by
          have := HS.out
          rw [List.take_of_length_le (by rw [HLN.out]; exact Nat.le_refl _)] at this
          exact this
        clear HS
        have HBX : Hid (Below w.heap.size w (wr.alloc (.cells #[.bool true, .bool false] 4))) := HB.out.alloc HB.out.size _
        have HSX : Hid (MS 96 w2.heap.size (wr.alloc (.cells #[.bool true, .bool false] 4)) g 64 (sel true (l.drop 0) (b.drop 0)) (sel false l b)) := HS0.out.below ((Below.refl _ _).alloc (Nat.le_refl _) _)
        have HXX := hid (two_bools wr 4)
        obtain ⟨X, hX⟩ : ∃ X, X = wr.heap.size := ⟨_, rfl⟩
        rw [← hX] at HXX
        have HXE := hid hX
        clear HS0 HB hX
        go_wp2
        rw [← HXE.out]
        generalize wr.alloc _ = w4 at HBX HSX HXX ⊢
        clear HXE
        go_loopw [9, 10, 11, 12, 13, 52, 58] (fun _ _ _ _ _ vj _ ws => ∃ j : Nat, j ≤ 2 ∧ vj = .int .i64 (j : Int) ∧ Hid (MS 96 w2.heap.size ws g 64 (UU l b j) (PP l b j)) ∧ Hid (Below w.heap.size w ws) ∧ Hid (ws.heap[X]? = some (Obj.cells #[.bool true, .bool false] 4 (0, 0)))) (fun _ _ _ _ _ vj _ _ => 2 - (intOf vj).toNat)
        case atStart => exact ⟨0, by omega, rfl, HSX, HBX, HXX⟩
        case round =>
          clear HSX HBX HXX
          obtain ⟨j, hj, hjv, HS, HB, HX⟩ := hrel
          have hj3 : j = 0 ∨ j = 1 ∨ j = 2 := by omega
          rcases hj3 with rfl | rfl | rfl
          · have hjv' : _ = Value.int .i64 0 := hjv; subst hjv'
            skip
            have hcx := (cell_of_row _ X 0 _ _ _ HX.out).trans rfl
            go_wp2
            go_loopw [10, 11, 12, 13, 58] (fun _ _ _ _ vk ws => ∃ k : Nat, k ≤ n ∧ vk = .int .i64 (k : Int) ∧ Hid (MS 96 w2.heap.size ws g 64 (sel true (l.drop k) (b.drop k)) (sel false l b)) ∧ Hid (Below w.heap.size w ws) ∧ Hid (ws.heap[X]? = some (Obj.cells #[.bool true, .bool false] 4 (0, 0)))) (fun _ _ _ _ vk _ => n - (intOf vk).toNat)
            case atStart => exact ⟨0, Nat.zero_le _, rfl, HS.out, HB, HX⟩
            case round =>
              clear HS HB HX hcx
              obtain ⟨k, hk, rfl, HS, HB, HX⟩ := hrel
              by_cases hlt : k < n
              · have hkl : k < l.length := by rw [HLN.out]; exact hlt
                have hkb : k < b.length := by rw [HLN2.out]; omega
                obtain ⟨g1, o1, rfl, hg1, hcell1⟩ := HR.out.spot (by omega)
                obtain ⟨g2, o2, rfl, hg2, hcell2⟩ := HR2.out.spot (by omega)
                obtain ⟨x, hx⟩ : ∃ x, x = l[k] := ⟨_, rfl⟩
                obtain ⟨c, hc⟩ : ∃ c, c = b[k] := ⟨_, rfl⟩
                have h1 := hcell1 k (by rw [List.length_map]; exact hkl)
                have h2 := hcell2 k (by rw [List.length_map]; exact hkb)
                rw [List.getElem_map, ← hx] at h1
                rw [List.getElem_map, ← hc] at h2
                have HC1 : Hid (∀ ws : World, Below w.heap.size w ws → ws.cell? ⟨g1, o1 + k, none⟩ = some (.string x)) := fun ws hb => (hb.cell (p := ⟨g1, o1 + k, none⟩) hg1).trans h1
                have HC2 : Hid (∀ ws : World, Below w.heap.size w ws → ws.cell? ⟨g2, o2 + k, none⟩ = some (.bool c)) := fun ws hb => (hb.cell (p := ⟨g2, o2 + k, none⟩) hg2).trans h2
                have HSD := hid (sel_drop true l b k hkl hkb)
                rw [← hc, ← hx] at HSD
                have hq1 := bne_self x
                have hq2 := beq_self x
                have hki : (k : Int) < (n : Int) := by omega
                have hki2 : (k : Int) < (n2 : Int) := by omega
                have hk0 : (0 : Int) ≤ (k : Int) := by omega
                have hcq2 := HC2.out _ HB.out
                clear hx hc h1 h2 hcell1 hcell2 hkl hkb
                cases c with
                | true =>
                  have HSD2 : Hid (sel true (l.drop k) (b.drop k) = .string x :: sel true (l.drop (k + 1)) (b.drop (k + 1))) := HSD.out
                  go_wp2_with fail
                  refine (tkS_urgent _ g 64 _ _ x _ (by rw [← HSD2.out]; exact HS.out)).mono ?_
                  rintro e w5 ⟨rfl, h5, hb5, hk5⟩
                  have H5 := hid h5
                  have HB5 : Hid (Below w.heap.size w w5) := HB.out.trans (hb5.mono HLE.out)
                  have HX5 : Hid (w5.heap[X]? = some (Obj.cells #[.bool true, .bool false] 4 (0, 0))) := hk5 _ _ _ _ HX.out
                  have hcq1 := HC1.out _ HB5.out
                  clear h5 hb5 hk5 hcq2
                  go_wp2
                  go_roundw
                  case rel => exact ⟨k + 1, by omega, by go_num, H5, HB5, HX5⟩
                  case measure => simp [intOf]; omega
                | false =>
                  have HSD2 : Hid (sel true (l.drop k) (b.drop k) = sel true (l.drop (k + 1)) (b.drop (k + 1))) := HSD.out
                  have HS5 := hid HS.out
                  rw [HSD2.out] at HS5
                  go_wp2
                  go_roundw
                  case rel => exact ⟨k + 1, by omega, by go_num, HS5, HB, HX⟩
                  case measure => simp [intOf]; omega
              · obtain rfl : n = k := by omega
                have HS5 := hid HS.out
                rw [sel_end true l b n HLN.out.symm] at HS5
                go_wp2
                go_roundw
                case rel => exact ⟨1, by omega, by go_num, HS5, HB, HX⟩
                case measure => simp [intOf]
          · have hjv' : _ = Value.int .i64 1 := hjv; subst hjv'
            skip
            have hcx := (cell_of_row _ X 1 _ _ _ HX.out).trans rfl
            go_wp2
            go_loopw [10, 11, 12, 13, 58] (fun _ _ _ _ vk ws => ∃ k : Nat, k ≤ n ∧ vk = .int .i64 (k : Int) ∧ Hid (MS 96 w2.heap.size ws g 64 [] (sel false (l.drop k) (b.drop k))) ∧ Hid (Below w.heap.size w ws) ∧ Hid (ws.heap[X]? = some (Obj.cells #[.bool true, .bool false] 4 (0, 0)))) (fun _ _ _ _ vk _ => n - (intOf vk).toNat)
            case atStart => exact ⟨0, Nat.zero_le _, rfl, HS.out, HB, HX⟩
            case round =>
              clear HS HB HX hcx
              obtain ⟨k, hk, rfl, HS, HB, HX⟩ := hrel
              by_cases hlt : k < n
              · have hkl : k < l.length := by rw [HLN.out]; exact hlt
                have hkb : k < b.length := by rw [HLN2.out]; omega
                obtain ⟨g1, o1, rfl, hg1, hcell1⟩ := HR.out.spot (by omega)
                obtain ⟨g2, o2, rfl, hg2, hcell2⟩ := HR2.out.spot (by omega)
                obtain ⟨x, hx⟩ : ∃ x, x = l[k] := ⟨_, rfl⟩
                obtain ⟨c, hc⟩ : ∃ c, c = b[k] := ⟨_, rfl⟩
                have h1 := hcell1 k (by rw [List.length_map]; exact hkl)
                have h2 := hcell2 k (by rw [List.length_map]; exact hkb)
                rw [List.getElem_map, ← hx] at h1
                rw [List.getElem_map, ← hc] at h2
                have HC1 : Hid (∀ ws : World, Below w.heap.size w ws → ws.cell? ⟨g1, o1 + k, none⟩ = some (.string x)) := fun ws hb => (hb.cell (p := ⟨g1, o1 + k, none⟩) hg1).trans h1
                have HC2 : Hid (∀ ws : World, Below w.heap.size w ws → ws.cell? ⟨g2, o2 + k, none⟩ = some (.bool c)) := fun ws hb => (hb.cell (p := ⟨g2, o2 + k, none⟩) hg2).trans h2
                have HSD := hid (sel_drop false l b k hkl hkb)
                rw [← hc, ← hx] at HSD
                have hq1 := bne_self x
                have hq2 := beq_self x
                have hki : (k : Int) < (n : Int) := by omega
                have hki2 : (k : Int) < (n2 : Int) := by omega
                have hk0 : (0 : Int) ≤ (k : Int) := by omega
                have hcq2 := HC2.out _ HB.out
                clear hx hc h1 h2 hcell1 hcell2 hkl hkb
                cases c with
                | false =>
                  have HSD2 : Hid (sel false (l.drop k) (b.drop k) = .string x :: sel false (l.drop (k + 1)) (b.drop (k + 1))) := HSD.out
                  go_wp2_with fail
                  refine (tkS_plain _ g 64 _ x _ (by rw [← HSD2.out]; exact HS.out)).mono ?_
                  rintro e w5 ⟨rfl, h5, hb5, hk5⟩
                  have H5 := hid h5
                  have HB5 : Hid (Below w.heap.size w w5) := HB.out.trans (hb5.mono HLE.out)
                  have HX5 : Hid (w5.heap[X]? = some (Obj.cells #[.bool true, .bool false] 4 (0, 0))) := hk5 _ _ _ _ HX.out
                  have hcq1 := HC1.out _ HB5.out
                  clear h5 hb5 hk5 hcq2
                  go_wp2
                  go_roundw
                  case rel => exact ⟨k + 1, by omega, by go_num, H5, HB5, HX5⟩
                  case measure => simp [intOf]; omega
                | true =>
                  have HSD2 : Hid (sel false (l.drop k) (b.drop k) = sel false (l.drop (k + 1)) (b.drop (k + 1))) := HSD.out
                  have HS5 := hid HS.out
                  rw [HSD2.out] at HS5
                  go_wp2
                  go_roundw
                  case rel => exact ⟨k + 1, by omega, by go_num, HS5, HB, HX⟩
                  case measure => simp [intOf]; omega
              · obtain rfl : n = k := by omega
                have HS5 := hid HS.out
                rw [sel_end false l b n HLN.out.symm] at HS5
                go_wp2
                go_roundw
                case rel => exact ⟨2, by omega, by go_num, HS5, HB, HX⟩
                case measure => simp [intOf]
          · have hjv' : _ = Value.int .i64 2 := hjv; subst hjv'
            go_wp2_with fail
            refine (lenS _ g 64 [] [] _ HS.out (by simp) (by simp)).mono ?_
            rintro e w6 ⟨rfl, hb6⟩
            go_wp2
            go_ret
            exact ⟨rfl, bel HB.out hb6⟩
  · have hcase : (60 : Int) < (n : Int) ∨ ¬ (60 : Int) < (n : Int) ∧ (n2 : Int) < (n : Int) := by omega
    clear hok
    rcases hcase with hc | ⟨hc, hc2⟩
    all_goals
      go_enter Try.func7, Try.ntmps7
      go_wp2_with fail
      refine (awake_any _).mono ?_
      rintro e w2 ⟨rfl, hb2⟩
      have HB2 := hid hb2
      clear hb2
      go_wp2_with fail
      refine (awake_any _).mono ?_
      rintro e w3 ⟨rfl, hb3⟩
      go_wp2
      go_ret
      exact ⟨rfl, bel HB2.out hb3⟩
end Go.Proofs.Ytihlojkghemjeaa.Laws
