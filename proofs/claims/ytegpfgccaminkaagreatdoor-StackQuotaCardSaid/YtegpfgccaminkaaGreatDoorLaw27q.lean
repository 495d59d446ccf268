/- The law StackQuota. -/
import Derived.Test.YtegpfgccaminkaaGreatDoorUAS
import Derived.Test.YtegpfgccaminkaaGreatDoorUAV
set_option linter.unusedSimpArgs false
set_option linter.unusedVariables false
namespace Go.Proofs.YtegpfgccaminkaaGreatDoor.Laws
open Go.RowKit Go.Proofs.YtegpfgccaminkaaGreatDoor.Base Go.Proofs.YtegpfgccaminkaaGreatDoor.Base2 Go.Proofs.YtegpfgccaminkaaGreatDoor.Regs Go.Proofs.YtegpfgccaminkaaGreatDoor.BlobA Go.Proofs.YtegpfgccaminkaaGreatDoor.LdA Go.Proofs.YtegpfgccaminkaaGreatDoor.HstC Go.Proofs.YtegpfgccaminkaaGreatDoor.Spl Go.Proofs.YtegpfgccaminkaaGreatDoor.PrsG Go.Proofs.YtegpfgccaminkaaGreatDoor.StkG Go.Proofs.YtegpfgccaminkaaGreatDoor.StkA Go.Proofs.YtegpfgccaminkaaGreatDoor.StkB Go.Proofs.YtegpfgccaminkaaGreatDoor.StkH Go.Proofs.YtegpfgccaminkaaGreatDoor.StkI Go.Proofs.YtegpfgccaminkaaGreatDoor.ActB Go.Proofs.YtegpfgccaminkaaGreatDoor.ActO Go.Proofs.YtegpfgccaminkaaGreatDoor.ActI
set_option linter.unusedSimpArgs false
set_option linter.unusedVariables false
/-- The box of the caps. -/
def CB (w : World) (g : Nat) (b u n : Int) : Prop := w.heap[g]? = some (.cells #[.int .i64 b, .int .i64 u, .int .i64 n] 23 (0, 0))
theorem CB.below {w w' : World} {g : Nat} {b u n : Int} (h : CB w g b u n) (hb : Below w.heap.size w w') : CB w' g b u n := (hb.block _ (Array.getElem?_eq_some_iff.1 h).1).trans h
theorem CB.load {w : World} {g : Nat} {b u n : Int} (h : CB w g b u n) : (loadVar 23 ⟨g, 0, none⟩).run Tryz.prog w = .ok (.agg #[.int .i64 b, .int .i64 u, .int .i64 n]) w :=
  run_loadVar_row w g _ _ _ (0, 0) _ h Tryz.underlying23 rfl (by kernel_rfl)
theorem few_len {l : List O} (h : fewB l = true) : (∀ o ∈ l, tl o ≤ 600) ∧ l.length ≤ 30 := by
  unfold fewB at h
  rw [Bool.and_eq_true] at h
  exact ⟨fun o ho => of_decide_eq_true (List.all_eq_true.1 h.1 o ho), of_decide_eq_true h.2⟩
set_option maxRecDepth 100000 in
set_option maxHeartbeats 32000000 in
theorem StackQuota_any (cb cu cy : Int) (A : Option Addr) (n cap : Nat) (l : List O) (w : World) (_hcb : -9223372036854775808 ≤ cb ∧ cb ≤ 9223372036854775807) (_hcu : -9223372036854775808 ≤ cu ∧ cu ≤ 9223372036854775807) (_hcy : -9223372036854775808 ≤ cy ∧ cy ≤ 9223372036854775807) (h : In w A n cap l) (hT : Tab.Pow w) (hM : Max w) (hU : Utab w) :
    Calls Tryz.prog 3 #[.agg #[.int .i64 cb, .int .i64 cu, .int .i64 cy], .slice A n cap] w fun e w' => e = .returned (.bool true) ∧ Below w.heap.size w w' := by
  have HP : Hid (PosW.Env w) := ⟨hT, hM⟩
  have HIN := hid h
  have HNM : Hid (n ≤ maxLen) := Nat.le_trans h.le h.lm
  have hln := h.ops.1
  clear hT hM hU _hcb _hcu _hcy h
  go_enter Tryz.func3, Tryz.ntmps3
  go_upto_region 1 with (fail)
  generalize hwa : World.alloc w _ = v1
  have h1_ : CB v1 w.heap.size cb cu cy ∧ Below w.heap.size w v1 := by
    subst hwa
    exact ⟨heap_alloc_new w _, (Below.refl _ _).alloc (Nat.le_refl _) _⟩
  clear hwa
  obtain ⟨gC, hgC⟩ : ∃ x, x = w.heap.size := ⟨_, rfl⟩
  have HC1 : Hid (CB v1 gC cb cu cy) := by rw [hgC]; exact h1_.1
  have HB1 := hid h1_.2
  rw [← hgC]
  clear h1_ hgC
  go_wp2_with fail
  refine (awake27 _ (HP.out.below HB1.out)).mono ?_
  rintro e w2 ⟨rfl, hb2⟩
  have HC2 := hid (HC1.out.below hb2)
  have HB2 := hid (bel HB1.out hb2)
  clear hb2 HC1 HB1
  go_wp2_with fail
  refine (few_any A n cap l _ (HIN.out.ops.below HB2.out) HIN.out.far HNM.out).mono ?_
  rintro e w3 ⟨rfl, hb3⟩
  have HC3 := hid (HC2.out.below hb3)
  have HB3 := hid (bel HB2.out hb3)
  clear hb3 HC2 HB2
  cases hf : fewB l with
  | false =>
    clear hf
    go_wp2_with fail
    refine (awake27 _ (HP.out.below HB3.out)).mono ?_
    rintro e w4 ⟨rfl, hb4⟩
    have HB4 := hid (bel HB3.out hb4)
    clear hb4
    go_wp2
    go_ret
    exact ⟨rfl, HB4.out⟩
  | true =>
    obtain ⟨hfl, hfn⟩ := few_len hf
    have HFL := hid hfl
    have HACT := hid (HIN.out.ops.below HB3.out)
    have HBND := hid HIN.out.bnd
    clear hf hfl HIN HNM
    have HLC := hid HC3.out.load
    by_cases hbad : cb < 1 ∨ 64 < cb ∨ cu < 1 ∨ 64 < cu ∨ cy < 0 ∨ 1048576 < cy
    · have HBD := hid hbad
      clear hbad
      go_wp2_with (refine load_as HLC.out (.tmp 2) rfl rfl rfl ?_)
      refine (new_bad cb cu cy HBD.out _).mono ?_
      rintro e w4 ⟨rfl, hb4⟩
      have HB4 := hid (bel HB3.out hb4)
      clear hb4
      go_wp2
      go_ret
      exact ⟨rfl, HB4.out⟩
    obtain ⟨b, rfl⟩ : ∃ b : Nat, cb = (b : Int) := ⟨cb.toNat, by omega⟩
    obtain ⟨u, rfl⟩ : ∃ u : Nat, cu = (u : Int) := ⟨cu.toNat, by omega⟩
    obtain ⟨by_, rfl⟩ : ∃ y : Nat, cy = (y : Int) := ⟨cy.toNat, by omega⟩
    have HCAPS : Hid (1 ≤ b ∧ b ≤ 64 ∧ 1 ≤ u ∧ u ≤ 64 ∧ by_ ≤ 1048576) := by show _ ∧ _; omega
    have HN30 : Hid (n ≤ 30) := by rw [← hln]; exact hfn
    have HLN := hid hln
    have HCB := hid HC3.out
    clear hbad hfn hln HC3
    go_wp2_with (refine load_as HLC.out (.tmp 2) rfl rfl rfl ?_)
    refine (new_ok b u by_ HCAPS.out.1 HCAPS.out.2.1 HCAPS.out.2.2.1 HCAPS.out.2.2.2.1 HCAPS.out.2.2.2.2 _).mono ?_
    rintro e w4 ⟨gs, gt, gu, gm, rfl, hK, hb4⟩
    have HK4 := hid hK
    have HBB4 := hid hb4
    clear hK hb4 HLC
    go_wp2
    go_loopw [7, 8, 34] (fun vn vh vk wr => ∃ (k : Nat) (m : SM), k ≤ n ∧ vk = .int .i64 (k : Int) ∧ vn = .int .i64 (m.last : Int) ∧ vh = .int .i64 (m.tbl.length : Int) ∧ m.last ≤ k ∧ (m.bytes = by_ ∧ m.bcap = b ∧ m.ucap = u) ∧ Hid (IsK w3.heap.size gs gt gu gm m wr) ∧ Hid (Below w3.heap.size w3 wr)) (fun _ _ vk _ => n - (intOf vk).toNat)
    case atStart => exact ⟨0, nil0 by_ b u, Nat.zero_le _, rfl, rfl, rfl, Nat.le_refl _, ⟨rfl, rfl, rfl⟩, HK4.out, HBB4.out⟩
    case round =>
      obtain ⟨k, m, hk, rfl, rfl, rfl, hlast, hm, HK, HBB⟩ := hrel
      have HM := hid hm
      have HLAST := hid hlast
      clear hm hlast
      by_cases hlk : k < n
      · have hki : (k : Int) < (n : Int) := by omega
        have hni : (n : Int) ≤ 30 := by have := HN30.out; omega
        have HLK := hid hlk
        have hkl : k < l.length := by rw [HLN.out]; exact hlk
        obtain ⟨o, ho⟩ : ∃ o, o = l[k] := ⟨_, rfl⟩
        have HMEM : Hid (o ∈ l) := by rw [ho]; exact List.getElem_mem hkl
        have HR16 : Hid (o.r.length = 16) := (HBND.out o HMEM.out).2
        have HO16 : Hid (tl o ≤ 600) := HFL.out o HMEM.out
        obtain ⟨bA, off, rfl, hbl⟩ := (HACT.out.below HBB.out).spot (by omega)
        have HLD : Hid ((loadVar 35 ⟨bA, off + k * 30, none⟩).run Tryz.prog wr = .ok (val o) wr) := by
          rw [ho]
          exact (HACT.out.below HBB.out).load k hkl Tryz.underlying35 (by kernel_rfl)
        clear ho hkl hlk
        go_upto_region 11 with (first | refine load_as HLD.out (.tmp 39) rfl rfl rfl ?_ | refine store_op (heap_alloc_new _ _) rfl o HR16.out (.tmp 10) (.tmp 40) rfl rfl rfl rfl (by kernel_rfl) ?_)
        generalize hW : World.setRow _ _ _ = w5
        have h5 : OB 35 w5 wr.heap.size o ∧ Below wr.heap.size wr w5 := by
          subst hW
          exact fresh _ _ _ _
        obtain ⟨gA, hgA⟩ : ∃ x, x = wr.heap.size := ⟨_, rfl⟩
        have HOA5 : Hid (OB 35 w5 gA o) := by rw [hgA]; exact h5.1
        have HK5 := hid (HK.out.below h5.2)
        have HBB5 := hid (bel HBB.out h5.2)
        rw [← hgA]
        clear h5 hW hgA HK HBB HLD
        go_wp2_with fail
        refine (bytes_any w3.heap.size gs gt gu gm _ _ HK5.out).mono ?_
        rintro e w6 ⟨rfl, hb6⟩
        have HK6 := hid (HK5.out.below hb6)
        have HBB6 := hid (bel HBB5.out hb6)
        have HOA6 := hid (OB.below HOA5.out hb6)
        clear hb6 HK5 HBB5 HOA5
        obtain ⟨X, hX⟩ : ∃ X, X = strOf o.b := ⟨_, rfl⟩
        obtain ⟨KB, hKB⟩ : ∃ X, X = strOf o.t := ⟨_, rfl⟩
        have HXX := hid hX
        have HXL : Hid (X.size = o.b.length) := by show _ = _; rw [hX, size_strOf]
        have HXT : Hid (X.data.toList = o.b) := by show _ = _; rw [hX]; rfl
        have HX6 : Hid (X.size ≤ 600) := by have h1 := HO16.out; have h2 := HXL.out; unfold tl at h1; show _ ≤ _; omega
        have HKB6 : Hid (KB.size ≤ 600) := by have h1 := HO16.out; unfold tl at h1; show _ ≤ _; rw [hKB, size_strOf]; omega
        have HTS : Hid (total m ≤ by_) := by have h1 := HK6.out.fit.sum; have h2 := HM.out.1; show _ ≤ _; omega
        have HCAP : Hid ((total m : Int) ≤ 1048576) := by have h1 := HTS.out; have h2 := HCAPS.out.2.2.2.2; show _ ≤ _; omega
        have c0 : w6.cell? ⟨gA, 0, none⟩ = some (.int .u8 (o.k : Int)) := OB.cell HOA6.out 0 rfl
        have c1 : w6.cell? ⟨gA, 1, none⟩ = some (.string X) := OB.cell HOA6.out 1 (by rw [hX]; rfl)
        have c2 : w6.cell? ⟨gA, 2, none⟩ = some (.string KB) := OB.cell HOA6.out 2 (by rw [hKB]; rfl)
        have c3 : w6.cell? ⟨gA, 3, none⟩ = some (.int .i64 o.h) := OB.cell HOA6.out 3 rfl
        clear hX hKB
        by_cases hpar : o.k % 2 = 0
        · skip
          have hmod : ((o.k : Nat) : Int).tmod 2 = 0 := by rw [Int.tmod_eq_emod_of_nonneg (by omega)]; omega
          clear hpar
          have hcv := fun (w : World) s => run_bytes_of_string (P := Tryz.prog) w 9 39 5 s Tryz.underlying9 Tryz.underlying39 Tryz.underlying5
          have hgl : gA < w6.heap.size := OB.lt HOA6.out
          go_wp2_with fail
          clear hcv hmod hgl
          obtain ⟨q, hq⟩ : ∃ q, q = grownCap w6 X.size 0 5 := ⟨_, rfl⟩
          rw [← hq]
          clear hq
          generalize hW : World.drew (World.alloc w6 _) = w7
          have h7 : Rds w7 (some ⟨w6.heap.size, 0, none⟩) X.size (bcells X.data.toList) ∧ Below w6.heap.size w6 w7 := by
            subst hW
            exact ⟨rds_made X q w6 5, ((Below.refl _ _).alloc (Nat.le_refl _) _).drew⟩
          have HRX := hid h7.1
          have HK7 := hid (HK6.out.below h7.2)
          have HBB7 := hid (bel HBB6.out h7.2)
          have HOA7 := hid (OB.below HOA6.out h7.2)
          clear h7 hW c0 c1 c2 c3 HK6 HBB6 HOA6
          by_cases hq : by_ < total m + X.size
          · skip
            have HQ := hid hq
            clear hq
            refine (create_quota w3.heap.size gs gt gu gm m _ X.size q X.data.toList KB _ HK7.out HRX.out (by have := HX6.out; omega) (by have := HKB6.out; unfold maxLen; omega) (by have h1 := HQ.out; have h2 := HM.out.1; omega)).mono ?_
            rintro e w8 ⟨rfl, hb8⟩
            have HK8 := hid (HK7.out.below hb8)
            have HBB8 := hid (bel HBB7.out hb8)
            have HOA8 := hid (OB.below HOA7.out hb8)
            clear hb8 HK7 HBB7 HOA7 HRX
            have c1 : w8.cell? ⟨gA, 1, none⟩ = some (.string X) := OB.cell HOA8.out 1 (by rw [HXX.out]; rfl)
            have k2 : w8.cell? ⟨gC, 2, none⟩ = some (.int .i64 (by_ : Int)) := (cell_of_row w8 gC 2 _ _ _ (HCB.out.below HBB8.out)).trans rfl
            have hcap := HCAP.out
            have hxi : (X.size : Int) ≤ 600 := by have := HX6.out; omega
            have HBIG : Hid (decide ((by_ : Int) < (total m : Int) + (X.size : Int)) = true) := by show _ = _; have := HQ.out; rw [decide_eq_true_iff]; omega
            go_upto_region 15 with (fail)
            rw [HBIG.out]
            clear c1 k2 HBIG
            refine wp_region_rel (by kernel_rfl) [is (.int .i64 7), is (.bool true), is (.bool true), is (.bool false), is (.bool false), is (.int .i64 7), is (.bool false), is (.bool false), is (undef), is (undef), is (undef), is (undef), is (undef), is (undef), is (undef), is (undef), is (undef), is (undef), is (undef), is (undef), is (undef), is (undef), is (.bool false), is (.bool false), is (.bool false), is (.int .i64 7), is (.bool true), is (.bool true), is (.pointer (some ⟨gs, 0, none⟩)), is (.int .i64 (total (m) : Int)), is (.int .i64 (total m : Int)), is (.bool false), is (.bool false), is (.bool false)] [[], [0], [], [1, 2], [3], [4], [4, 5], [4, 6], [7], [7], [7, 9], [7, 8, 10], [7, 11], [12], [12, 13], [12], [12], [12, 16], [12, 17], [12, 15, 18], [12, 14, 19], [7, 12, 20], [4, 7, 21], [4, 22], [23], [24], [24, 25], [24, 26], [27], [27, 28], [27], [27, 29, 30], [24, 27, 31], [24, 32]] (by kernel_rfl) ?_ ?_
            · refine ⟨?_, ?_, ?_, ?_, ?_, ?_, ?_, ?_, ?_, ?_, ?_, ?_, ?_, ?_, ?_, ?_, ?_, ?_, ?_, ?_, ?_, ?_, ?_, ?_, ?_, ?_, ?_, ?_, ?_, ?_, ?_, ?_, ?_, ?_, trivial⟩
              · intro t wq hbq hh K hK
                clear hh
                simp only [filled, upd, Have, is, any, row, pick, Act.put, List.setIfInBounds_toArray, List.set_cons_zero, List.set_cons_succ, Nat.reduceAdd, Nat.reduceEqDiff, reduceIte] at hK ⊢
                go_simp
                exact hK _ _ (Below.refl _ _) rfl
              · intro t wq hbq hh K hK
                have e0 := hh.1
                simp only [pick] at e0
                replace e0 : t 0 = (.int .i64 7) := e0
                clear hh
                simp only [filled, upd, Have, is, any, row, pick, Act.put, List.setIfInBounds_toArray, List.set_cons_zero, List.set_cons_succ, Nat.reduceAdd, Nat.reduceEqDiff, reduceIte] at hK ⊢
                simp only [e0] at hK ⊢
                go_simp
                first | exact hK _ _ (Below.refl _ _) rfl | exact hK _ _ (Below.refl _ _) (int_wrap (by omega) (by omega))
              · intro t wq hbq hh K hK
                clear hh
                simp only [filled, upd, Have, is, any, row, pick, Act.put, List.setIfInBounds_toArray, List.set_cons_zero, List.set_cons_succ, Nat.reduceAdd, Nat.reduceEqDiff, reduceIte] at hK ⊢
                go_simp
                exact hK _ _ (Below.refl _ _) rfl
              · intro t wq hbq hh K hK
                have e1 := hh.1
                simp only [pick] at e1
                replace e1 : t 1 = (.bool true) := e1
                have e2 := hh.2.1
                simp only [pick] at e2
                replace e2 : t 2 = (.bool true) := e2
                clear hh
                simp only [filled, upd, Have, is, any, row, pick, Act.put, List.setIfInBounds_toArray, List.set_cons_zero, List.set_cons_succ, Nat.reduceAdd, Nat.reduceEqDiff, reduceIte] at hK ⊢
                simp only [e1, e2] at hK ⊢
                go_simp
                first | exact hK _ _ (Below.refl _ _) rfl | exact hK _ _ (Below.refl _ _) (int_wrap (by omega) (by omega))
              · intro t wq hbq hh K hK
                have e3 := hh.1
                simp only [pick] at e3
                replace e3 : t 3 = (.bool false) := e3
                clear hh
                simp only [filled, upd, Have, is, any, row, pick, Act.put, List.setIfInBounds_toArray, List.set_cons_zero, List.set_cons_succ, Nat.reduceAdd, Nat.reduceEqDiff, reduceIte] at hK ⊢
                simp only [e3] at hK ⊢
                go_simp
                exact hK _ _ (Below.refl _ _) rfl
              · intro t wq hbq hh K hK
                have e4 := hh.1
                simp only [pick] at e4
                replace e4 : t 4 = (.bool false) := e4
                clear hh
                simp only [filled, upd, Have, is, any, row, pick, Act.put, List.setIfInBounds_toArray, List.set_cons_zero, List.set_cons_succ, Nat.reduceAdd, Nat.reduceEqDiff, reduceIte] at hK ⊢
                simp only [e4] at hK ⊢
                go_simp
                exact hK _ _ (Below.refl _ _) rfl
              · intro t wq hbq hh K hK
                have e4 := hh.1
                simp only [pick] at e4
                replace e4 : t 4 = (.bool false) := e4
                have e5 := hh.2.1
                simp only [pick] at e5
                replace e5 : t 5 = (.int .i64 7) := e5
                clear hh
                simp only [filled, upd, Have, is, any, row, pick, Act.put, List.setIfInBounds_toArray, List.set_cons_zero, List.set_cons_succ, Nat.reduceAdd, Nat.reduceEqDiff, reduceIte] at hK ⊢
                simp only [e4, e5] at hK ⊢
                go_simp
                first | exact hK _ _ (Below.refl _ _) rfl | exact hK _ _ (Below.refl _ _) (int_wrap (by omega) (by omega))
              · intro t wq hbq hh K hK
                have e4 := hh.1
                simp only [pick] at e4
                replace e4 : t 4 = (.bool false) := e4
                have e6 := hh.2.1
                simp only [pick] at e6
                replace e6 : t 6 = (.bool false) := e6
                clear hh
                simp only [filled, upd, Have, is, any, row, pick, Act.put, List.setIfInBounds_toArray, List.set_cons_zero, List.set_cons_succ, Nat.reduceAdd, Nat.reduceEqDiff, reduceIte] at hK ⊢
                simp only [e4, e6] at hK ⊢
                go_simp
                exact hK _ _ (Below.refl _ _) rfl
              · intro t wq hbq hh K hK
                have e7 := hh.1
                simp only [pick] at e7
                replace e7 : t 7 = (.bool false) := e7
                clear hh
                simp only [filled, upd, Have, is, any, row, pick, Act.put, List.setIfInBounds_toArray, List.set_cons_zero, List.set_cons_succ, Nat.reduceAdd, Nat.reduceEqDiff, reduceIte] at hK ⊢
                simp only [e7] at hK ⊢
                go_simp
                exact hK _ _ (Below.refl _ _) rfl
              · intro t wq hbq hh K hK
                have e7 := hh.1
                simp only [pick] at e7
                replace e7 : t 7 = (.bool false) := e7
                clear hh
                simp only [filled, upd, Have, is, any, row, pick, Act.put, List.setIfInBounds_toArray, List.set_cons_zero, List.set_cons_succ, Nat.reduceAdd, Nat.reduceEqDiff, reduceIte] at hK ⊢
                simp only [e7] at hK ⊢
                go_simp
                exact hK _ _ (Below.refl _ _) rfl
              · intro t wq hbq hh K hK
                have e7 := hh.1
                simp only [pick] at e7
                replace e7 : t 7 = (.bool false) := e7
                have e9 := hh.2.1
                simp only [pick] at e9
                replace e9 : t 9 = (undef) := e9
                clear hh
                simp only [filled, upd, Have, is, any, row, pick, Act.put, List.setIfInBounds_toArray, List.set_cons_zero, List.set_cons_succ, Nat.reduceAdd, Nat.reduceEqDiff, reduceIte] at hK ⊢
                simp only [e7, e9] at hK ⊢
                go_simp
                first | exact hK _ _ (Below.refl _ _) rfl | exact hK _ _ (Below.refl _ _) (int_wrap (by omega) (by omega))
              · intro t wq hbq hh K hK
                have e7 := hh.1
                simp only [pick] at e7
                replace e7 : t 7 = (.bool false) := e7
                have e8 := hh.2.1
                simp only [pick] at e8
                replace e8 : t 8 = (undef) := e8
                have e10 := hh.2.2.1
                simp only [pick] at e10
                replace e10 : t 10 = (undef) := e10
                clear hh
                simp only [filled, upd, Have, is, any, row, pick, Act.put, List.setIfInBounds_toArray, List.set_cons_zero, List.set_cons_succ, Nat.reduceAdd, Nat.reduceEqDiff, reduceIte] at hK ⊢
                simp only [e7, e8, e10] at hK ⊢
                go_simp
                first | exact hK _ _ (Below.refl _ _) rfl | exact hK _ _ (Below.refl _ _) (int_wrap (by omega) (by omega))
              · intro t wq hbq hh K hK
                have e7 := hh.1
                simp only [pick] at e7
                replace e7 : t 7 = (.bool false) := e7
                have e11 := hh.2.1
                simp only [pick] at e11
                replace e11 : t 11 = (undef) := e11
                clear hh
                simp only [filled, upd, Have, is, any, row, pick, Act.put, List.setIfInBounds_toArray, List.set_cons_zero, List.set_cons_succ, Nat.reduceAdd, Nat.reduceEqDiff, reduceIte] at hK ⊢
                simp only [e7, e11] at hK ⊢
                go_simp
                exact hK _ _ (Below.refl _ _) rfl
              · intro t wq hbq hh K hK
                have e12 := hh.1
                simp only [pick] at e12
                replace e12 : t 12 = (undef) := e12
                clear hh
                simp only [filled, upd, Have, is, any, row, pick, Act.put, List.setIfInBounds_toArray, List.set_cons_zero, List.set_cons_succ, Nat.reduceAdd, Nat.reduceEqDiff, reduceIte] at hK ⊢
                simp only [e12] at hK ⊢
                go_simp
                exact hK _ _ (Below.refl _ _) rfl
              · intro t wq hbq hh K hK
                have e12 := hh.1
                simp only [pick] at e12
                replace e12 : t 12 = (undef) := e12
                have e13 := hh.2.1
                simp only [pick] at e13
                replace e13 : t 13 = (undef) := e13
                clear hh
                simp only [filled, upd, Have, is, any, row, pick, Act.put, List.setIfInBounds_toArray, List.set_cons_zero, List.set_cons_succ, Nat.reduceAdd, Nat.reduceEqDiff, reduceIte] at hK ⊢
                simp only [e12, e13] at hK ⊢
                go_simp
                exact hK _ _ (Below.refl _ _) rfl
              · intro t wq hbq hh K hK
                have e12 := hh.1
                simp only [pick] at e12
                replace e12 : t 12 = (undef) := e12
                clear hh
                simp only [filled, upd, Have, is, any, row, pick, Act.put, List.setIfInBounds_toArray, List.set_cons_zero, List.set_cons_succ, Nat.reduceAdd, Nat.reduceEqDiff, reduceIte] at hK ⊢
                simp only [e12] at hK ⊢
                go_simp
                exact hK _ _ (Below.refl _ _) rfl
              · intro t wq hbq hh K hK
                have e12 := hh.1
                simp only [pick] at e12
                replace e12 : t 12 = (undef) := e12
                clear hh
                simp only [filled, upd, Have, is, any, row, pick, Act.put, List.setIfInBounds_toArray, List.set_cons_zero, List.set_cons_succ, Nat.reduceAdd, Nat.reduceEqDiff, reduceIte] at hK ⊢
                simp only [e12] at hK ⊢
                go_simp
                exact hK _ _ (Below.refl _ _) rfl
              · intro t wq hbq hh K hK
                have e12 := hh.1
                simp only [pick] at e12
                replace e12 : t 12 = (undef) := e12
                have e16 := hh.2.1
                simp only [pick] at e16
                replace e16 : t 16 = (undef) := e16
                clear hh
                simp only [filled, upd, Have, is, any, row, pick, Act.put, List.setIfInBounds_toArray, List.set_cons_zero, List.set_cons_succ, Nat.reduceAdd, Nat.reduceEqDiff, reduceIte] at hK ⊢
                simp only [e12, e16] at hK ⊢
                go_simp
                exact hK _ _ (Below.refl _ _) rfl
              · intro t wq hbq hh K hK
                have e12 := hh.1
                simp only [pick] at e12
                replace e12 : t 12 = (undef) := e12
                have e17 := hh.2.1
                simp only [pick] at e17
                replace e17 : t 17 = (undef) := e17
                clear hh
                simp only [filled, upd, Have, is, any, row, pick, Act.put, List.setIfInBounds_toArray, List.set_cons_zero, List.set_cons_succ, Nat.reduceAdd, Nat.reduceEqDiff, reduceIte] at hK ⊢
                simp only [e12, e17] at hK ⊢
                go_simp
                exact hK _ _ (Below.refl _ _) rfl
              · intro t wq hbq hh K hK
                have e12 := hh.1
                simp only [pick] at e12
                replace e12 : t 12 = (undef) := e12
                have e15 := hh.2.1
                simp only [pick] at e15
                replace e15 : t 15 = (undef) := e15
                have e18 := hh.2.2.1
                simp only [pick] at e18
                replace e18 : t 18 = (undef) := e18
                clear hh
                simp only [filled, upd, Have, is, any, row, pick, Act.put, List.setIfInBounds_toArray, List.set_cons_zero, List.set_cons_succ, Nat.reduceAdd, Nat.reduceEqDiff, reduceIte] at hK ⊢
                simp only [e12, e15, e18] at hK ⊢
                go_simp
                first | exact hK _ _ (Below.refl _ _) rfl | exact hK _ _ (Below.refl _ _) (int_wrap (by omega) (by omega))
              · intro t wq hbq hh K hK
                have e12 := hh.1
                simp only [pick] at e12
                replace e12 : t 12 = (undef) := e12
                have e14 := hh.2.1
                simp only [pick] at e14
                replace e14 : t 14 = (undef) := e14
                have e19 := hh.2.2.1
                simp only [pick] at e19
                replace e19 : t 19 = (undef) := e19
                clear hh
                simp only [filled, upd, Have, is, any, row, pick, Act.put, List.setIfInBounds_toArray, List.set_cons_zero, List.set_cons_succ, Nat.reduceAdd, Nat.reduceEqDiff, reduceIte] at hK ⊢
                simp only [e12, e14, e19] at hK ⊢
                go_simp
                first | exact hK _ _ (Below.refl _ _) rfl | exact hK _ _ (Below.refl _ _) (int_wrap (by omega) (by omega))
              · intro t wq hbq hh K hK
                have e7 := hh.1
                simp only [pick] at e7
                replace e7 : t 7 = (.bool false) := e7
                have e12 := hh.2.1
                simp only [pick] at e12
                replace e12 : t 12 = (undef) := e12
                have e20 := hh.2.2.1
                simp only [pick] at e20
                replace e20 : t 20 = (undef) := e20
                clear hh
                simp only [filled, upd, Have, is, any, row, pick, Act.put, List.setIfInBounds_toArray, List.set_cons_zero, List.set_cons_succ, Nat.reduceAdd, Nat.reduceEqDiff, reduceIte] at hK ⊢
                simp only [e7, e12, e20] at hK ⊢
                go_simp
                exact hK _ _ (Below.refl _ _) rfl
              · intro t wq hbq hh K hK
                have e4 := hh.1
                simp only [pick] at e4
                replace e4 : t 4 = (.bool false) := e4
                have e7 := hh.2.1
                simp only [pick] at e7
                replace e7 : t 7 = (.bool false) := e7
                have e21 := hh.2.2.1
                simp only [pick] at e21
                replace e21 : t 21 = (undef) := e21
                clear hh
                simp only [filled, upd, Have, is, any, row, pick, Act.put, List.setIfInBounds_toArray, List.set_cons_zero, List.set_cons_succ, Nat.reduceAdd, Nat.reduceEqDiff, reduceIte] at hK ⊢
                simp only [e4, e7, e21] at hK ⊢
                go_simp
                exact hK _ _ (Below.refl _ _) rfl
              · intro t wq hbq hh K hK
                have e4 := hh.1
                simp only [pick] at e4
                replace e4 : t 4 = (.bool false) := e4
                have e22 := hh.2.1
                simp only [pick] at e22
                replace e22 : t 22 = (.bool false) := e22
                clear hh
                simp only [filled, upd, Have, is, any, row, pick, Act.put, List.setIfInBounds_toArray, List.set_cons_zero, List.set_cons_succ, Nat.reduceAdd, Nat.reduceEqDiff, reduceIte] at hK ⊢
                simp only [e4, e22] at hK ⊢
                go_simp
                exact hK _ _ (Below.refl _ _) rfl
              · intro t wq hbq hh K hK
                have e23 := hh.1
                simp only [pick] at e23
                replace e23 : t 23 = (.bool false) := e23
                clear hh
                simp only [filled, upd, Have, is, any, row, pick, Act.put, List.setIfInBounds_toArray, List.set_cons_zero, List.set_cons_succ, Nat.reduceAdd, Nat.reduceEqDiff, reduceIte] at hK ⊢
                simp only [e23] at hK ⊢
                go_simp
                exact hK _ _ (Below.refl _ _) rfl
              · intro t wq hbq hh K hK
                have e24 := hh.1
                simp only [pick] at e24
                replace e24 : t 24 = (.bool false) := e24
                clear hh
                simp only [filled, upd, Have, is, any, row, pick, Act.put, List.setIfInBounds_toArray, List.set_cons_zero, List.set_cons_succ, Nat.reduceAdd, Nat.reduceEqDiff, reduceIte] at hK ⊢
                simp only [e24] at hK ⊢
                go_simp
                exact hK _ _ (Below.refl _ _) rfl
              · intro t wq hbq hh K hK
                have e24 := hh.1
                simp only [pick] at e24
                replace e24 : t 24 = (.bool false) := e24
                have e25 := hh.2.1
                simp only [pick] at e25
                replace e25 : t 25 = (.int .i64 7) := e25
                clear hh
                simp only [filled, upd, Have, is, any, row, pick, Act.put, List.setIfInBounds_toArray, List.set_cons_zero, List.set_cons_succ, Nat.reduceAdd, Nat.reduceEqDiff, reduceIte] at hK ⊢
                simp only [e24, e25] at hK ⊢
                go_simp
                first | exact hK _ _ (Below.refl _ _) rfl | exact hK _ _ (Below.refl _ _) (int_wrap (by omega) (by omega))
              · intro t wq hbq hh K hK
                have e24 := hh.1
                simp only [pick] at e24
                replace e24 : t 24 = (.bool false) := e24
                have e26 := hh.2.1
                simp only [pick] at e26
                replace e26 : t 26 = (.bool true) := e26
                clear hh
                simp only [filled, upd, Have, is, any, row, pick, Act.put, List.setIfInBounds_toArray, List.set_cons_zero, List.set_cons_succ, Nat.reduceAdd, Nat.reduceEqDiff, reduceIte] at hK ⊢
                simp only [e24, e26] at hK ⊢
                go_simp
                exact hK _ _ (Below.refl _ _) rfl
              · intro t wq hbq hh K hK
                have e27 := hh.1
                simp only [pick] at e27
                replace e27 : t 27 = (.bool true) := e27
                clear hh
                simp only [filled, upd, Have, is, any, row, pick, Act.put, List.setIfInBounds_toArray, List.set_cons_zero, List.set_cons_succ, Nat.reduceAdd, Nat.reduceEqDiff, reduceIte] at hK ⊢
                simp only [e27] at hK ⊢
                go_simp
                exact hK _ _ (Below.refl _ _) rfl
              · intro t wq hbq hh K hK
                have e27 := hh.1
                simp only [pick] at e27
                replace e27 : t 27 = (.bool true) := e27
                have e28 := hh.2.1
                simp only [pick] at e28
                replace e28 : t 28 = (.pointer (some ⟨gs, 0, none⟩)) := e28
                clear hh
                simp only [filled, upd, Have, is, any, row, pick, Act.put, List.setIfInBounds_toArray, List.set_cons_zero, List.set_cons_succ, Nat.reduceAdd, Nat.reduceEqDiff, reduceIte] at hK ⊢
                simp only [e27, e28] at hK ⊢
                go_simp
                refine (bytes_any w3.heap.size gs gt gu gm _ _ (HK8.out.below hbq)).mono ?_
                rintro e w9 ⟨rfl, hb9⟩
                exact hK _ _ hb9 rfl
              · intro t wq hbq hh K hK
                have e27 := hh.1
                simp only [pick] at e27
                replace e27 : t 27 = (.bool true) := e27
                clear hh
                simp only [filled, upd, Have, is, any, row, pick, Act.put, List.setIfInBounds_toArray, List.set_cons_zero, List.set_cons_succ, Nat.reduceAdd, Nat.reduceEqDiff, reduceIte] at hK ⊢
                simp only [e27] at hK ⊢
                go_simp
                exact hK _ _ (Below.refl _ _) rfl
              · intro t wq hbq hh K hK
                have e27 := hh.1
                simp only [pick] at e27
                replace e27 : t 27 = (.bool true) := e27
                have e29 := hh.2.1
                simp only [pick] at e29
                replace e29 : t 29 = (.int .i64 (total (m) : Int)) := e29
                have e30 := hh.2.2.1
                simp only [pick] at e30
                replace e30 : t 30 = (.int .i64 (total m : Int)) := e30
                clear hh
                simp only [filled, upd, Have, is, any, row, pick, Act.put, List.setIfInBounds_toArray, List.set_cons_zero, List.set_cons_succ, Nat.reduceAdd, Nat.reduceEqDiff, reduceIte] at hK ⊢
                simp only [e27, e29, e30] at hK ⊢
                go_simp
                first | exact hK _ _ (Below.refl _ _) rfl | exact hK _ _ (Below.refl _ _) (int_wrap (by omega) (by omega))
              · intro t wq hbq hh K hK
                have e24 := hh.1
                simp only [pick] at e24
                replace e24 : t 24 = (.bool false) := e24
                have e27 := hh.2.1
                simp only [pick] at e27
                replace e27 : t 27 = (.bool true) := e27
                have e31 := hh.2.2.1
                simp only [pick] at e31
                replace e31 : t 31 = (.bool false) := e31
                clear hh
                simp only [filled, upd, Have, is, any, row, pick, Act.put, List.setIfInBounds_toArray, List.set_cons_zero, List.set_cons_succ, Nat.reduceAdd, Nat.reduceEqDiff, reduceIte] at hK ⊢
                simp only [e24, e27, e31] at hK ⊢
                go_simp
                exact hK _ _ (Below.refl _ _) rfl
              · intro t wq hbq hh K hK
                have e24 := hh.1
                simp only [pick] at e24
                replace e24 : t 24 = (.bool false) := e24
                have e32 := hh.2.1
                simp only [pick] at e32
                replace e32 : t 32 = (.bool false) := e32
                clear hh
                simp only [filled, upd, Have, is, any, row, pick, Act.put, List.setIfInBounds_toArray, List.set_cons_zero, List.set_cons_succ, Nat.reduceAdd, Nat.reduceEqDiff, reduceIte] at hK ⊢
                simp only [e24, e32] at hK ⊢
                go_simp
                exact hK _ _ (Below.refl _ _) rfl
            · intro t wq hbq hh
              have f33 := have_get hh 33 (by decide)
              simp only [pick] at f33
              replace f33 : t 33 = (.bool false) := f33
              clear hh
              simp only [filled, upd, Have, is, any, row, pick, Act.put, List.setIfInBounds_toArray, List.set_cons_zero, List.set_cons_succ, Nat.reduceAdd, Nat.reduceEqDiff, reduceIte]
              simp only [f33]
              have HK9 := hid (HK8.out.below hbq)
              have HBB9 := hid (bel HBB8.out hbq)
              clear hbq HK8 HBB8
              generalize hw9 : wq = w9 at HK9 HBB9 ⊢
              clear hw9
              have HM2 : Hid ((m).bytes = by_ ∧ (m).bcap = b ∧ (m).ucap = u) := HM.out
              have HT2 : Hid (¬ (by_ : Int) < (total (m) : Int)) := by have h1 := HK9.out.fit.sum; have h2 := HM2.out.1; show ¬ _; omega
              have HVN : Hid (Value.int .i64 (m.last : Int) = .int .i64 ((m).last : Int)) := rfl
              have HVH : Hid (Value.int .i64 (m.tbl.length : Int) = .int .i64 ((m).tbl.length : Int)) := rfl
              have HL2 : Hid ((m).last ≤ k + 1) := by have := HLAST.out; show _ ≤ _; omega
              have HN2 : Hid (¬ (b : Int) < (m.tbl.length : Int) ∧ ¬ (m.tbl.length : Int) < 0) := by have h1 := HK9.out.fit.tn; have h2 := HM.out.2.1; show _ ∧ _; omega
              go_upto_region 24 with (fail)
              clear hcap hxi
              refine wp_region_rel (by kernel_rfl) [is (.pointer (some ⟨gs, 0, none⟩)), is (.int .i64 (total (m) : Int)), is (.pointer (some ⟨gC, 2, none⟩)), is (.int .i64 (by_ : Int)), is (.bool false), is (.bool false), is (.int .i64 (m.tbl.length : Int)), is (.pointer (some ⟨gC, 0, none⟩)), is (.int .i64 (b : Int)), is (.bool false), is (.bool false), is (.bool false), is (.int .i64 (m.tbl.length : Int)), is (.bool false), is (.bool false)] [[], [0], [], [2], [1, 3], [4], [5], [5], [5, 7], [5, 6, 8], [5, 9], [10], [11], [11, 12], [11, 13]] (by kernel_rfl) ?_ ?_
              · refine ⟨?_, ?_, ?_, ?_, ?_, ?_, ?_, ?_, ?_, ?_, ?_, ?_, ?_, ?_, ?_, trivial⟩
                · intro t wq hbq hh K hK
                  clear hh
                  simp only [filled, upd, Have, is, any, row, pick, Act.put, List.setIfInBounds_toArray, List.set_cons_zero, List.set_cons_succ, Nat.reduceAdd, Nat.reduceEqDiff, reduceIte] at hK ⊢
                  go_simp
                  exact hK _ _ (Below.refl _ _) rfl
                · intro t wq hbq hh K hK
                  have e0 := hh.1
                  simp only [pick] at e0
                  replace e0 : t 0 = (.pointer (some ⟨gs, 0, none⟩)) := e0
                  clear hh
                  simp only [filled, upd, Have, is, any, row, pick, Act.put, List.setIfInBounds_toArray, List.set_cons_zero, List.set_cons_succ, Nat.reduceAdd, Nat.reduceEqDiff, reduceIte] at hK ⊢
                  simp only [e0] at hK ⊢
                  go_simp
                  refine (bytes_any w3.heap.size gs gt gu gm _ _ (HK9.out.below hbq)).mono ?_
                  rintro e w9 ⟨rfl, hb9⟩
                  exact hK _ _ hb9 rfl
                · intro t wq hbq hh K hK
                  clear hh
                  simp only [filled, upd, Have, is, any, row, pick, Act.put, List.setIfInBounds_toArray, List.set_cons_zero, List.set_cons_succ, Nat.reduceAdd, Nat.reduceEqDiff, reduceIte] at hK ⊢
                  go_simp
                  exact hK _ _ (Below.refl _ _) rfl
                · intro t wq hbq hh K hK
                  have e2 := hh.1
                  simp only [pick] at e2
                  replace e2 : t 2 = (.pointer (some ⟨gC, 2, none⟩)) := e2
                  clear hh
                  simp only [filled, upd, Have, is, any, row, pick, Act.put, List.setIfInBounds_toArray, List.set_cons_zero, List.set_cons_succ, Nat.reduceAdd, Nat.reduceEqDiff, reduceIte] at hK ⊢
                  simp only [e2] at hK ⊢
                  have hq : wq.cell? ⟨gC, 2, none⟩ = some (.int .i64 (by_ : Int)) := (cell_of_row wq gC 2 _ _ _ (CB.below (HCB.out.below HBB9.out) hbq)).trans rfl
                  go_simp
                  exact hK _ _ (Below.refl _ _) rfl
                · intro t wq hbq hh K hK
                  have e1 := hh.1
                  simp only [pick] at e1
                  replace e1 : t 1 = (.int .i64 (total (m) : Int)) := e1
                  have e3 := hh.2.1
                  simp only [pick] at e3
                  replace e3 : t 3 = (.int .i64 (by_ : Int)) := e3
                  clear hh
                  simp only [filled, upd, Have, is, any, row, pick, Act.put, List.setIfInBounds_toArray, List.set_cons_zero, List.set_cons_succ, Nat.reduceAdd, Nat.reduceEqDiff, reduceIte] at hK ⊢
                  simp only [e1, e3] at hK ⊢
                  have hq := HT2.out
                  have hqn : ¬ by_ < total (m) := by omega
                  go_simp
                  exact hK _ _ (Below.refl _ _) rfl
                · intro t wq hbq hh K hK
                  have e4 := hh.1
                  simp only [pick] at e4
                  replace e4 : t 4 = (.bool false) := e4
                  clear hh
                  simp only [filled, upd, Have, is, any, row, pick, Act.put, List.setIfInBounds_toArray, List.set_cons_zero, List.set_cons_succ, Nat.reduceAdd, Nat.reduceEqDiff, reduceIte] at hK ⊢
                  simp only [e4] at hK ⊢
                  go_simp
                  exact hK _ _ (Below.refl _ _) rfl
                · intro t wq hbq hh K hK
                  have e5 := hh.1
                  simp only [pick] at e5
                  replace e5 : t 5 = (.bool false) := e5
                  clear hh
                  simp only [filled, upd, Have, is, any, row, pick, Act.put, List.setIfInBounds_toArray, List.set_cons_zero, List.set_cons_succ, Nat.reduceAdd, Nat.reduceEqDiff, reduceIte] at hK ⊢
                  simp only [e5] at hK ⊢
                  go_simp
                  exact hK _ _ (Below.refl _ _) rfl
                · intro t wq hbq hh K hK
                  have e5 := hh.1
                  simp only [pick] at e5
                  replace e5 : t 5 = (.bool false) := e5
                  clear hh
                  simp only [filled, upd, Have, is, any, row, pick, Act.put, List.setIfInBounds_toArray, List.set_cons_zero, List.set_cons_succ, Nat.reduceAdd, Nat.reduceEqDiff, reduceIte] at hK ⊢
                  simp only [e5] at hK ⊢
                  go_simp
                  exact hK _ _ (Below.refl _ _) rfl
                · intro t wq hbq hh K hK
                  have e5 := hh.1
                  simp only [pick] at e5
                  replace e5 : t 5 = (.bool false) := e5
                  have e7 := hh.2.1
                  simp only [pick] at e7
                  replace e7 : t 7 = (.pointer (some ⟨gC, 0, none⟩)) := e7
                  clear hh
                  simp only [filled, upd, Have, is, any, row, pick, Act.put, List.setIfInBounds_toArray, List.set_cons_zero, List.set_cons_succ, Nat.reduceAdd, Nat.reduceEqDiff, reduceIte] at hK ⊢
                  simp only [e5, e7] at hK ⊢
                  have hq : wq.cell? ⟨gC, 0, none⟩ = some (.int .i64 (b : Int)) := (cell_of_row wq gC 0 _ _ _ (CB.below (HCB.out.below HBB9.out) hbq)).trans rfl
                  go_simp
                  exact hK _ _ (Below.refl _ _) rfl
                · intro t wq hbq hh K hK
                  have e5 := hh.1
                  simp only [pick] at e5
                  replace e5 : t 5 = (.bool false) := e5
                  have e6 := hh.2.1
                  simp only [pick] at e6
                  replace e6 : t 6 = (.int .i64 (m.tbl.length : Int)) := e6
                  have e8 := hh.2.2.1
                  simp only [pick] at e8
                  replace e8 : t 8 = (.int .i64 (b : Int)) := e8
                  clear hh
                  simp only [filled, upd, Have, is, any, row, pick, Act.put, List.setIfInBounds_toArray, List.set_cons_zero, List.set_cons_succ, Nat.reduceAdd, Nat.reduceEqDiff, reduceIte] at hK ⊢
                  simp only [e5, e6, e8] at hK ⊢
                  have hq := HN2.out.1
                  have hqn : ¬ b < m.tbl.length := by omega
                  go_simp
                  first | exact hK _ _ (Below.refl _ _) rfl | exact hK _ _ (Below.refl _ _) (congrArg Value.bool (decide_eq_false (by have := HN2.out; omega)))
                · intro t wq hbq hh K hK
                  have e5 := hh.1
                  simp only [pick] at e5
                  replace e5 : t 5 = (.bool false) := e5
                  have e9 := hh.2.1
                  simp only [pick] at e9
                  replace e9 : t 9 = (.bool false) := e9
                  clear hh
                  simp only [filled, upd, Have, is, any, row, pick, Act.put, List.setIfInBounds_toArray, List.set_cons_zero, List.set_cons_succ, Nat.reduceAdd, Nat.reduceEqDiff, reduceIte] at hK ⊢
                  simp only [e5, e9] at hK ⊢
                  go_simp
                  exact hK _ _ (Below.refl _ _) rfl
                · intro t wq hbq hh K hK
                  have e10 := hh.1
                  simp only [pick] at e10
                  replace e10 : t 10 = (.bool false) := e10
                  clear hh
                  simp only [filled, upd, Have, is, any, row, pick, Act.put, List.setIfInBounds_toArray, List.set_cons_zero, List.set_cons_succ, Nat.reduceAdd, Nat.reduceEqDiff, reduceIte] at hK ⊢
                  simp only [e10] at hK ⊢
                  go_simp
                  exact hK _ _ (Below.refl _ _) rfl
                · intro t wq hbq hh K hK
                  have e11 := hh.1
                  simp only [pick] at e11
                  replace e11 : t 11 = (.bool false) := e11
                  clear hh
                  simp only [filled, upd, Have, is, any, row, pick, Act.put, List.setIfInBounds_toArray, List.set_cons_zero, List.set_cons_succ, Nat.reduceAdd, Nat.reduceEqDiff, reduceIte] at hK ⊢
                  simp only [e11] at hK ⊢
                  go_simp
                  exact hK _ _ (Below.refl _ _) rfl
                · intro t wq hbq hh K hK
                  have e11 := hh.1
                  simp only [pick] at e11
                  replace e11 : t 11 = (.bool false) := e11
                  have e12 := hh.2.1
                  simp only [pick] at e12
                  replace e12 : t 12 = (.int .i64 (m.tbl.length : Int)) := e12
                  clear hh
                  simp only [filled, upd, Have, is, any, row, pick, Act.put, List.setIfInBounds_toArray, List.set_cons_zero, List.set_cons_succ, Nat.reduceAdd, Nat.reduceEqDiff, reduceIte] at hK ⊢
                  simp only [e11, e12] at hK ⊢
                  have hq := HN2.out.2
                  go_simp
                  first | exact hK _ _ (Below.refl _ _) rfl | exact hK _ _ (Below.refl _ _) (congrArg Value.bool (decide_eq_false (by have := HN2.out; omega)))
                · intro t wq hbq hh K hK
                  have e11 := hh.1
                  simp only [pick] at e11
                  replace e11 : t 11 = (.bool false) := e11
                  have e13 := hh.2.1
                  simp only [pick] at e13
                  replace e13 : t 13 = (.bool false) := e13
                  clear hh
                  simp only [filled, upd, Have, is, any, row, pick, Act.put, List.setIfInBounds_toArray, List.set_cons_zero, List.set_cons_succ, Nat.reduceAdd, Nat.reduceEqDiff, reduceIte] at hK ⊢
                  simp only [e11, e13] at hK ⊢
                  go_simp
                  exact hK _ _ (Below.refl _ _) rfl
              · intro t wq hbq hh
                have f14 := have_get hh 14 (by decide)
                simp only [pick] at f14
                replace f14 : t 14 = (.bool false) := f14
                clear hh
                simp only [filled, upd, Have, is, any, row, pick, Act.put, List.setIfInBounds_toArray, List.set_cons_zero, List.set_cons_succ, Nat.reduceAdd, Nat.reduceEqDiff, reduceIte]
                simp only [f14]
                have HKE := hid (HK9.out.below hbq)
                have HBBE := hid (bel HBB9.out hbq)
                clear hbq
                go_wp2
                go_roundw
                case rel => exact ⟨k + 1, m, by omega, by go_num, (by first | rfl | exact HVN.out), (by first | rfl | exact HVH.out), HL2.out, HM2.out, HKE.out, HBBE.out⟩
                case measure => simp [intOf]; omega
          by_cases hfull : b ≤ m.tbl.length
          · skip
            have HQ : Hid (¬ by_ < total m + X.size) := hq
            have HFU := hid hfull
            clear hq hfull
            refine (create_full w3.heap.size gs gt gu gm m _ X.size q X.data.toList KB _ HK7.out HRX.out (by have := HX6.out; omega) (by have := HKB6.out; unfold maxLen; omega) (by have h1 := HQ.out; have h2 := HM.out.1; omega) (by have h1 := HFU.out; have h2 := HM.out.2.1; omega)).mono ?_
            rintro e w8 ⟨rfl, hb8⟩
            have HK8 := hid (HK7.out.below hb8)
            have HBB8 := hid (bel HBB7.out hb8)
            have HOA8 := hid (OB.below HOA7.out hb8)
            clear hb8 HK7 HBB7 HOA7 HRX
            have HEQ : Hid ((m.tbl.length : Int) = (b : Int)) := by have h1 := HFU.out; have h2 := HK8.out.fit.tn; have h3 := HM.out.2.1; show _ = _; omega
            have c1 : w8.cell? ⟨gA, 1, none⟩ = some (.string X) := OB.cell HOA8.out 1 (by rw [HXX.out]; rfl)
            have k2 : w8.cell? ⟨gC, 2, none⟩ = some (.int .i64 (by_ : Int)) := (cell_of_row w8 gC 2 _ _ _ (HCB.out.below HBB8.out)).trans rfl
            have hcap := HCAP.out
            have hxi : (X.size : Int) ≤ 600 := by have := HX6.out; omega
            have HBIG : Hid (decide ((by_ : Int) < (total m : Int) + (X.size : Int)) = false) := by show _ = _; have := HQ.out; rw [decide_eq_false_iff_not]; omega
            go_upto_region 15 with (fail)
            rw [HBIG.out]
            clear c1 k2 HBIG
            refine wp_region_rel (by kernel_rfl) [is (.int .i64 4), is (.bool false), is (.bool false), is (.bool false), is (.bool false), is (.int .i64 4), is (.bool false), is (.bool false), is (undef), is (undef), is (undef), is (undef), is (undef), is (undef), is (undef), is (undef), is (undef), is (undef), is (undef), is (undef), is (undef), is (undef), is (.bool false), is (.bool false), is (.bool false), is (.int .i64 4), is (.bool true), is (.bool true), is (.pointer (some ⟨gs, 0, none⟩)), is (.int .i64 (total (m) : Int)), is (.int .i64 (total m : Int)), is (.bool false), is (.bool false), is (.bool false)] [[], [0], [], [1, 2], [3], [4], [4, 5], [4, 6], [7], [7], [7, 9], [7, 8, 10], [7, 11], [12], [12, 13], [12], [12], [12, 16], [12, 17], [12, 15, 18], [12, 14, 19], [7, 12, 20], [4, 7, 21], [4, 22], [23], [24], [24, 25], [24, 26], [27], [27, 28], [27], [27, 29, 30], [24, 27, 31], [24, 32]] (by kernel_rfl) ?_ ?_
            · refine ⟨?_, ?_, ?_, ?_, ?_, ?_, ?_, ?_, ?_, ?_, ?_, ?_, ?_, ?_, ?_, ?_, ?_, ?_, ?_, ?_, ?_, ?_, ?_, ?_, ?_, ?_, ?_, ?_, ?_, ?_, ?_, ?_, ?_, ?_, trivial⟩
              · intro t wq hbq hh K hK
                clear hh
                simp only [filled, upd, Have, is, any, row, pick, Act.put, List.setIfInBounds_toArray, List.set_cons_zero, List.set_cons_succ, Nat.reduceAdd, Nat.reduceEqDiff, reduceIte] at hK ⊢
                go_simp
                exact hK _ _ (Below.refl _ _) rfl
              · intro t wq hbq hh K hK
                have e0 := hh.1
                simp only [pick] at e0
                replace e0 : t 0 = (.int .i64 4) := e0
                clear hh
                simp only [filled, upd, Have, is, any, row, pick, Act.put, List.setIfInBounds_toArray, List.set_cons_zero, List.set_cons_succ, Nat.reduceAdd, Nat.reduceEqDiff, reduceIte] at hK ⊢
                simp only [e0] at hK ⊢
                go_simp
                first | exact hK _ _ (Below.refl _ _) rfl | exact hK _ _ (Below.refl _ _) (int_wrap (by omega) (by omega))
              · intro t wq hbq hh K hK
                clear hh
                simp only [filled, upd, Have, is, any, row, pick, Act.put, List.setIfInBounds_toArray, List.set_cons_zero, List.set_cons_succ, Nat.reduceAdd, Nat.reduceEqDiff, reduceIte] at hK ⊢
                go_simp
                exact hK _ _ (Below.refl _ _) rfl
              · intro t wq hbq hh K hK
                have e1 := hh.1
                simp only [pick] at e1
                replace e1 : t 1 = (.bool false) := e1
                have e2 := hh.2.1
                simp only [pick] at e2
                replace e2 : t 2 = (.bool false) := e2
                clear hh
                simp only [filled, upd, Have, is, any, row, pick, Act.put, List.setIfInBounds_toArray, List.set_cons_zero, List.set_cons_succ, Nat.reduceAdd, Nat.reduceEqDiff, reduceIte] at hK ⊢
                simp only [e1, e2] at hK ⊢
                go_simp
                first | exact hK _ _ (Below.refl _ _) rfl | exact hK _ _ (Below.refl _ _) (int_wrap (by omega) (by omega))
              · intro t wq hbq hh K hK
                have e3 := hh.1
                simp only [pick] at e3
                replace e3 : t 3 = (.bool false) := e3
                clear hh
                simp only [filled, upd, Have, is, any, row, pick, Act.put, List.setIfInBounds_toArray, List.set_cons_zero, List.set_cons_succ, Nat.reduceAdd, Nat.reduceEqDiff, reduceIte] at hK ⊢
                simp only [e3] at hK ⊢
                go_simp
                exact hK _ _ (Below.refl _ _) rfl
              · intro t wq hbq hh K hK
                have e4 := hh.1
                simp only [pick] at e4
                replace e4 : t 4 = (.bool false) := e4
                clear hh
                simp only [filled, upd, Have, is, any, row, pick, Act.put, List.setIfInBounds_toArray, List.set_cons_zero, List.set_cons_succ, Nat.reduceAdd, Nat.reduceEqDiff, reduceIte] at hK ⊢
                simp only [e4] at hK ⊢
                go_simp
                exact hK _ _ (Below.refl _ _) rfl
              · intro t wq hbq hh K hK
                have e4 := hh.1
                simp only [pick] at e4
                replace e4 : t 4 = (.bool false) := e4
                have e5 := hh.2.1
                simp only [pick] at e5
                replace e5 : t 5 = (.int .i64 4) := e5
                clear hh
                simp only [filled, upd, Have, is, any, row, pick, Act.put, List.setIfInBounds_toArray, List.set_cons_zero, List.set_cons_succ, Nat.reduceAdd, Nat.reduceEqDiff, reduceIte] at hK ⊢
                simp only [e4, e5] at hK ⊢
                go_simp
                first | exact hK _ _ (Below.refl _ _) rfl | exact hK _ _ (Below.refl _ _) (int_wrap (by omega) (by omega))
              · intro t wq hbq hh K hK
                have e4 := hh.1
                simp only [pick] at e4
                replace e4 : t 4 = (.bool false) := e4
                have e6 := hh.2.1
                simp only [pick] at e6
                replace e6 : t 6 = (.bool false) := e6
                clear hh
                simp only [filled, upd, Have, is, any, row, pick, Act.put, List.setIfInBounds_toArray, List.set_cons_zero, List.set_cons_succ, Nat.reduceAdd, Nat.reduceEqDiff, reduceIte] at hK ⊢
                simp only [e4, e6] at hK ⊢
                go_simp
                exact hK _ _ (Below.refl _ _) rfl
              · intro t wq hbq hh K hK
                have e7 := hh.1
                simp only [pick] at e7
                replace e7 : t 7 = (.bool false) := e7
                clear hh
                simp only [filled, upd, Have, is, any, row, pick, Act.put, List.setIfInBounds_toArray, List.set_cons_zero, List.set_cons_succ, Nat.reduceAdd, Nat.reduceEqDiff, reduceIte] at hK ⊢
                simp only [e7] at hK ⊢
                go_simp
                exact hK _ _ (Below.refl _ _) rfl
              · intro t wq hbq hh K hK
                have e7 := hh.1
                simp only [pick] at e7
                replace e7 : t 7 = (.bool false) := e7
                clear hh
                simp only [filled, upd, Have, is, any, row, pick, Act.put, List.setIfInBounds_toArray, List.set_cons_zero, List.set_cons_succ, Nat.reduceAdd, Nat.reduceEqDiff, reduceIte] at hK ⊢
                simp only [e7] at hK ⊢
                go_simp
                exact hK _ _ (Below.refl _ _) rfl
              · intro t wq hbq hh K hK
                have e7 := hh.1
                simp only [pick] at e7
                replace e7 : t 7 = (.bool false) := e7
                have e9 := hh.2.1
                simp only [pick] at e9
                replace e9 : t 9 = (undef) := e9
                clear hh
                simp only [filled, upd, Have, is, any, row, pick, Act.put, List.setIfInBounds_toArray, List.set_cons_zero, List.set_cons_succ, Nat.reduceAdd, Nat.reduceEqDiff, reduceIte] at hK ⊢
                simp only [e7, e9] at hK ⊢
                go_simp
                first | exact hK _ _ (Below.refl _ _) rfl | exact hK _ _ (Below.refl _ _) (int_wrap (by omega) (by omega))
              · intro t wq hbq hh K hK
                have e7 := hh.1
                simp only [pick] at e7
                replace e7 : t 7 = (.bool false) := e7
                have e8 := hh.2.1
                simp only [pick] at e8
                replace e8 : t 8 = (undef) := e8
                have e10 := hh.2.2.1
                simp only [pick] at e10
                replace e10 : t 10 = (undef) := e10
                clear hh
                simp only [filled, upd, Have, is, any, row, pick, Act.put, List.setIfInBounds_toArray, List.set_cons_zero, List.set_cons_succ, Nat.reduceAdd, Nat.reduceEqDiff, reduceIte] at hK ⊢
                simp only [e7, e8, e10] at hK ⊢
                go_simp
                first | exact hK _ _ (Below.refl _ _) rfl | exact hK _ _ (Below.refl _ _) (int_wrap (by omega) (by omega))
              · intro t wq hbq hh K hK
                have e7 := hh.1
                simp only [pick] at e7
                replace e7 : t 7 = (.bool false) := e7
                have e11 := hh.2.1
                simp only [pick] at e11
                replace e11 : t 11 = (undef) := e11
                clear hh
                simp only [filled, upd, Have, is, any, row, pick, Act.put, List.setIfInBounds_toArray, List.set_cons_zero, List.set_cons_succ, Nat.reduceAdd, Nat.reduceEqDiff, reduceIte] at hK ⊢
                simp only [e7, e11] at hK ⊢
                go_simp
                exact hK _ _ (Below.refl _ _) rfl
              · intro t wq hbq hh K hK
                have e12 := hh.1
                simp only [pick] at e12
                replace e12 : t 12 = (undef) := e12
                clear hh
                simp only [filled, upd, Have, is, any, row, pick, Act.put, List.setIfInBounds_toArray, List.set_cons_zero, List.set_cons_succ, Nat.reduceAdd, Nat.reduceEqDiff, reduceIte] at hK ⊢
                simp only [e12] at hK ⊢
                go_simp
                exact hK _ _ (Below.refl _ _) rfl
              · intro t wq hbq hh K hK
                have e12 := hh.1
                simp only [pick] at e12
                replace e12 : t 12 = (undef) := e12
                have e13 := hh.2.1
                simp only [pick] at e13
                replace e13 : t 13 = (undef) := e13
                clear hh
                simp only [filled, upd, Have, is, any, row, pick, Act.put, List.setIfInBounds_toArray, List.set_cons_zero, List.set_cons_succ, Nat.reduceAdd, Nat.reduceEqDiff, reduceIte] at hK ⊢
                simp only [e12, e13] at hK ⊢
                go_simp
                exact hK _ _ (Below.refl _ _) rfl
              · intro t wq hbq hh K hK
                have e12 := hh.1
                simp only [pick] at e12
                replace e12 : t 12 = (undef) := e12
                clear hh
                simp only [filled, upd, Have, is, any, row, pick, Act.put, List.setIfInBounds_toArray, List.set_cons_zero, List.set_cons_succ, Nat.reduceAdd, Nat.reduceEqDiff, reduceIte] at hK ⊢
                simp only [e12] at hK ⊢
                go_simp
                exact hK _ _ (Below.refl _ _) rfl
              · intro t wq hbq hh K hK
                have e12 := hh.1
                simp only [pick] at e12
                replace e12 : t 12 = (undef) := e12
                clear hh
                simp only [filled, upd, Have, is, any, row, pick, Act.put, List.setIfInBounds_toArray, List.set_cons_zero, List.set_cons_succ, Nat.reduceAdd, Nat.reduceEqDiff, reduceIte] at hK ⊢
                simp only [e12] at hK ⊢
                go_simp
                exact hK _ _ (Below.refl _ _) rfl
              · intro t wq hbq hh K hK
                have e12 := hh.1
                simp only [pick] at e12
                replace e12 : t 12 = (undef) := e12
                have e16 := hh.2.1
                simp only [pick] at e16
                replace e16 : t 16 = (undef) := e16
                clear hh
                simp only [filled, upd, Have, is, any, row, pick, Act.put, List.setIfInBounds_toArray, List.set_cons_zero, List.set_cons_succ, Nat.reduceAdd, Nat.reduceEqDiff, reduceIte] at hK ⊢
                simp only [e12, e16] at hK ⊢
                go_simp
                exact hK _ _ (Below.refl _ _) rfl
              · intro t wq hbq hh K hK
                have e12 := hh.1
                simp only [pick] at e12
                replace e12 : t 12 = (undef) := e12
                have e17 := hh.2.1
                simp only [pick] at e17
                replace e17 : t 17 = (undef) := e17
                clear hh
                simp only [filled, upd, Have, is, any, row, pick, Act.put, List.setIfInBounds_toArray, List.set_cons_zero, List.set_cons_succ, Nat.reduceAdd, Nat.reduceEqDiff, reduceIte] at hK ⊢
                simp only [e12, e17] at hK ⊢
                go_simp
                exact hK _ _ (Below.refl _ _) rfl
              · intro t wq hbq hh K hK
                have e12 := hh.1
                simp only [pick] at e12
                replace e12 : t 12 = (undef) := e12
                have e15 := hh.2.1
                simp only [pick] at e15
                replace e15 : t 15 = (undef) := e15
                have e18 := hh.2.2.1
                simp only [pick] at e18
                replace e18 : t 18 = (undef) := e18
                clear hh
                simp only [filled, upd, Have, is, any, row, pick, Act.put, List.setIfInBounds_toArray, List.set_cons_zero, List.set_cons_succ, Nat.reduceAdd, Nat.reduceEqDiff, reduceIte] at hK ⊢
                simp only [e12, e15, e18] at hK ⊢
                go_simp
                first | exact hK _ _ (Below.refl _ _) rfl | exact hK _ _ (Below.refl _ _) (int_wrap (by omega) (by omega))
              · intro t wq hbq hh K hK
                have e12 := hh.1
                simp only [pick] at e12
                replace e12 : t 12 = (undef) := e12
                have e14 := hh.2.1
                simp only [pick] at e14
                replace e14 : t 14 = (undef) := e14
                have e19 := hh.2.2.1
                simp only [pick] at e19
                replace e19 : t 19 = (undef) := e19
                clear hh
                simp only [filled, upd, Have, is, any, row, pick, Act.put, List.setIfInBounds_toArray, List.set_cons_zero, List.set_cons_succ, Nat.reduceAdd, Nat.reduceEqDiff, reduceIte] at hK ⊢
                simp only [e12, e14, e19] at hK ⊢
                go_simp
                first | exact hK _ _ (Below.refl _ _) rfl | exact hK _ _ (Below.refl _ _) (int_wrap (by omega) (by omega))
              · intro t wq hbq hh K hK
                have e7 := hh.1
                simp only [pick] at e7
                replace e7 : t 7 = (.bool false) := e7
                have e12 := hh.2.1
                simp only [pick] at e12
                replace e12 : t 12 = (undef) := e12
                have e20 := hh.2.2.1
                simp only [pick] at e20
                replace e20 : t 20 = (undef) := e20
                clear hh
                simp only [filled, upd, Have, is, any, row, pick, Act.put, List.setIfInBounds_toArray, List.set_cons_zero, List.set_cons_succ, Nat.reduceAdd, Nat.reduceEqDiff, reduceIte] at hK ⊢
                simp only [e7, e12, e20] at hK ⊢
                go_simp
                exact hK _ _ (Below.refl _ _) rfl
              · intro t wq hbq hh K hK
                have e4 := hh.1
                simp only [pick] at e4
                replace e4 : t 4 = (.bool false) := e4
                have e7 := hh.2.1
                simp only [pick] at e7
                replace e7 : t 7 = (.bool false) := e7
                have e21 := hh.2.2.1
                simp only [pick] at e21
                replace e21 : t 21 = (undef) := e21
                clear hh
                simp only [filled, upd, Have, is, any, row, pick, Act.put, List.setIfInBounds_toArray, List.set_cons_zero, List.set_cons_succ, Nat.reduceAdd, Nat.reduceEqDiff, reduceIte] at hK ⊢
                simp only [e4, e7, e21] at hK ⊢
                go_simp
                exact hK _ _ (Below.refl _ _) rfl
              · intro t wq hbq hh K hK
                have e4 := hh.1
                simp only [pick] at e4
                replace e4 : t 4 = (.bool false) := e4
                have e22 := hh.2.1
                simp only [pick] at e22
                replace e22 : t 22 = (.bool false) := e22
                clear hh
                simp only [filled, upd, Have, is, any, row, pick, Act.put, List.setIfInBounds_toArray, List.set_cons_zero, List.set_cons_succ, Nat.reduceAdd, Nat.reduceEqDiff, reduceIte] at hK ⊢
                simp only [e4, e22] at hK ⊢
                go_simp
                exact hK _ _ (Below.refl _ _) rfl
              · intro t wq hbq hh K hK
                have e23 := hh.1
                simp only [pick] at e23
                replace e23 : t 23 = (.bool false) := e23
                clear hh
                simp only [filled, upd, Have, is, any, row, pick, Act.put, List.setIfInBounds_toArray, List.set_cons_zero, List.set_cons_succ, Nat.reduceAdd, Nat.reduceEqDiff, reduceIte] at hK ⊢
                simp only [e23] at hK ⊢
                go_simp
                exact hK _ _ (Below.refl _ _) rfl
              · intro t wq hbq hh K hK
                have e24 := hh.1
                simp only [pick] at e24
                replace e24 : t 24 = (.bool false) := e24
                clear hh
                simp only [filled, upd, Have, is, any, row, pick, Act.put, List.setIfInBounds_toArray, List.set_cons_zero, List.set_cons_succ, Nat.reduceAdd, Nat.reduceEqDiff, reduceIte] at hK ⊢
                simp only [e24] at hK ⊢
                go_simp
                exact hK _ _ (Below.refl _ _) rfl
              · intro t wq hbq hh K hK
                have e24 := hh.1
                simp only [pick] at e24
                replace e24 : t 24 = (.bool false) := e24
                have e25 := hh.2.1
                simp only [pick] at e25
                replace e25 : t 25 = (.int .i64 4) := e25
                clear hh
                simp only [filled, upd, Have, is, any, row, pick, Act.put, List.setIfInBounds_toArray, List.set_cons_zero, List.set_cons_succ, Nat.reduceAdd, Nat.reduceEqDiff, reduceIte] at hK ⊢
                simp only [e24, e25] at hK ⊢
                go_simp
                first | exact hK _ _ (Below.refl _ _) rfl | exact hK _ _ (Below.refl _ _) (int_wrap (by omega) (by omega))
              · intro t wq hbq hh K hK
                have e24 := hh.1
                simp only [pick] at e24
                replace e24 : t 24 = (.bool false) := e24
                have e26 := hh.2.1
                simp only [pick] at e26
                replace e26 : t 26 = (.bool true) := e26
                clear hh
                simp only [filled, upd, Have, is, any, row, pick, Act.put, List.setIfInBounds_toArray, List.set_cons_zero, List.set_cons_succ, Nat.reduceAdd, Nat.reduceEqDiff, reduceIte] at hK ⊢
                simp only [e24, e26] at hK ⊢
                go_simp
                exact hK _ _ (Below.refl _ _) rfl
              · intro t wq hbq hh K hK
                have e27 := hh.1
                simp only [pick] at e27
                replace e27 : t 27 = (.bool true) := e27
                clear hh
                simp only [filled, upd, Have, is, any, row, pick, Act.put, List.setIfInBounds_toArray, List.set_cons_zero, List.set_cons_succ, Nat.reduceAdd, Nat.reduceEqDiff, reduceIte] at hK ⊢
                simp only [e27] at hK ⊢
                go_simp
                exact hK _ _ (Below.refl _ _) rfl
              · intro t wq hbq hh K hK
                have e27 := hh.1
                simp only [pick] at e27
                replace e27 : t 27 = (.bool true) := e27
                have e28 := hh.2.1
                simp only [pick] at e28
                replace e28 : t 28 = (.pointer (some ⟨gs, 0, none⟩)) := e28
                clear hh
                simp only [filled, upd, Have, is, any, row, pick, Act.put, List.setIfInBounds_toArray, List.set_cons_zero, List.set_cons_succ, Nat.reduceAdd, Nat.reduceEqDiff, reduceIte] at hK ⊢
                simp only [e27, e28] at hK ⊢
                go_simp
                refine (bytes_any w3.heap.size gs gt gu gm _ _ (HK8.out.below hbq)).mono ?_
                rintro e w9 ⟨rfl, hb9⟩
                exact hK _ _ hb9 rfl
              · intro t wq hbq hh K hK
                have e27 := hh.1
                simp only [pick] at e27
                replace e27 : t 27 = (.bool true) := e27
                clear hh
                simp only [filled, upd, Have, is, any, row, pick, Act.put, List.setIfInBounds_toArray, List.set_cons_zero, List.set_cons_succ, Nat.reduceAdd, Nat.reduceEqDiff, reduceIte] at hK ⊢
                simp only [e27] at hK ⊢
                go_simp
                exact hK _ _ (Below.refl _ _) rfl
              · intro t wq hbq hh K hK
                have e27 := hh.1
                simp only [pick] at e27
                replace e27 : t 27 = (.bool true) := e27
                have e29 := hh.2.1
                simp only [pick] at e29
                replace e29 : t 29 = (.int .i64 (total (m) : Int)) := e29
                have e30 := hh.2.2.1
                simp only [pick] at e30
                replace e30 : t 30 = (.int .i64 (total m : Int)) := e30
                clear hh
                simp only [filled, upd, Have, is, any, row, pick, Act.put, List.setIfInBounds_toArray, List.set_cons_zero, List.set_cons_succ, Nat.reduceAdd, Nat.reduceEqDiff, reduceIte] at hK ⊢
                simp only [e27, e29, e30] at hK ⊢
                go_simp
                first | exact hK _ _ (Below.refl _ _) rfl | exact hK _ _ (Below.refl _ _) (int_wrap (by omega) (by omega))
              · intro t wq hbq hh K hK
                have e24 := hh.1
                simp only [pick] at e24
                replace e24 : t 24 = (.bool false) := e24
                have e27 := hh.2.1
                simp only [pick] at e27
                replace e27 : t 27 = (.bool true) := e27
                have e31 := hh.2.2.1
                simp only [pick] at e31
                replace e31 : t 31 = (.bool false) := e31
                clear hh
                simp only [filled, upd, Have, is, any, row, pick, Act.put, List.setIfInBounds_toArray, List.set_cons_zero, List.set_cons_succ, Nat.reduceAdd, Nat.reduceEqDiff, reduceIte] at hK ⊢
                simp only [e24, e27, e31] at hK ⊢
                go_simp
                exact hK _ _ (Below.refl _ _) rfl
              · intro t wq hbq hh K hK
                have e24 := hh.1
                simp only [pick] at e24
                replace e24 : t 24 = (.bool false) := e24
                have e32 := hh.2.1
                simp only [pick] at e32
                replace e32 : t 32 = (.bool false) := e32
                clear hh
                simp only [filled, upd, Have, is, any, row, pick, Act.put, List.setIfInBounds_toArray, List.set_cons_zero, List.set_cons_succ, Nat.reduceAdd, Nat.reduceEqDiff, reduceIte] at hK ⊢
                simp only [e24, e32] at hK ⊢
                go_simp
                exact hK _ _ (Below.refl _ _) rfl
            · intro t wq hbq hh
              have f33 := have_get hh 33 (by decide)
              simp only [pick] at f33
              replace f33 : t 33 = (.bool false) := f33
              clear hh
              simp only [filled, upd, Have, is, any, row, pick, Act.put, List.setIfInBounds_toArray, List.set_cons_zero, List.set_cons_succ, Nat.reduceAdd, Nat.reduceEqDiff, reduceIte]
              simp only [f33]
              have HK9 := hid (HK8.out.below hbq)
              have HBB9 := hid (bel HBB8.out hbq)
              clear hbq HK8 HBB8
              generalize hw9 : wq = w9 at HK9 HBB9 ⊢
              clear hw9
              have k0 : w9.cell? ⟨gC, 0, none⟩ = some (.int .i64 (b : Int)) := (cell_of_row w9 gC 0 _ _ _ (HCB.out.below HBB9.out)).trans rfl
              have heq := HEQ.out
              have HM2 : Hid ((m).bytes = by_ ∧ (m).bcap = b ∧ (m).ucap = u) := HM.out
              have HT2 : Hid (¬ (by_ : Int) < (total (m) : Int)) := by have h1 := HK9.out.fit.sum; have h2 := HM2.out.1; show ¬ _; omega
              have HVN : Hid (Value.int .i64 (m.last : Int) = .int .i64 ((m).last : Int)) := rfl
              have HVH : Hid (Value.int .i64 (m.tbl.length : Int) = .int .i64 ((m).tbl.length : Int)) := rfl
              have HL2 : Hid ((m).last ≤ k + 1) := by have := HLAST.out; show _ ≤ _; omega
              have HN2 : Hid (¬ (b : Int) < (m.tbl.length : Int) ∧ ¬ (m.tbl.length : Int) < 0) := by have h1 := HK9.out.fit.tn; have h2 := HM.out.2.1; show _ ∧ _; omega
              go_upto_region 24 with (fail)
              clear k0 heq
              clear hcap hxi
              refine wp_region_rel (by kernel_rfl) [is (.pointer (some ⟨gs, 0, none⟩)), is (.int .i64 (total (m) : Int)), is (.pointer (some ⟨gC, 2, none⟩)), is (.int .i64 (by_ : Int)), is (.bool false), is (.bool false), is (.int .i64 (m.tbl.length : Int)), is (.pointer (some ⟨gC, 0, none⟩)), is (.int .i64 (b : Int)), is (.bool false), is (.bool false), is (.bool false), is (.int .i64 (m.tbl.length : Int)), is (.bool false), is (.bool false)] [[], [0], [], [2], [1, 3], [4], [5], [5], [5, 7], [5, 6, 8], [5, 9], [10], [11], [11, 12], [11, 13]] (by kernel_rfl) ?_ ?_
              · refine ⟨?_, ?_, ?_, ?_, ?_, ?_, ?_, ?_, ?_, ?_, ?_, ?_, ?_, ?_, ?_, trivial⟩
                · intro t wq hbq hh K hK
                  clear hh
                  simp only [filled, upd, Have, is, any, row, pick, Act.put, List.setIfInBounds_toArray, List.set_cons_zero, List.set_cons_succ, Nat.reduceAdd, Nat.reduceEqDiff, reduceIte] at hK ⊢
                  go_simp
                  exact hK _ _ (Below.refl _ _) rfl
                · intro t wq hbq hh K hK
                  have e0 := hh.1
                  simp only [pick] at e0
                  replace e0 : t 0 = (.pointer (some ⟨gs, 0, none⟩)) := e0
                  clear hh
                  simp only [filled, upd, Have, is, any, row, pick, Act.put, List.setIfInBounds_toArray, List.set_cons_zero, List.set_cons_succ, Nat.reduceAdd, Nat.reduceEqDiff, reduceIte] at hK ⊢
                  simp only [e0] at hK ⊢
                  go_simp
                  refine (bytes_any w3.heap.size gs gt gu gm _ _ (HK9.out.below hbq)).mono ?_
                  rintro e w9 ⟨rfl, hb9⟩
                  exact hK _ _ hb9 rfl
                · intro t wq hbq hh K hK
                  clear hh
                  simp only [filled, upd, Have, is, any, row, pick, Act.put, List.setIfInBounds_toArray, List.set_cons_zero, List.set_cons_succ, Nat.reduceAdd, Nat.reduceEqDiff, reduceIte] at hK ⊢
                  go_simp
                  exact hK _ _ (Below.refl _ _) rfl
                · intro t wq hbq hh K hK
                  have e2 := hh.1
                  simp only [pick] at e2
                  replace e2 : t 2 = (.pointer (some ⟨gC, 2, none⟩)) := e2
                  clear hh
                  simp only [filled, upd, Have, is, any, row, pick, Act.put, List.setIfInBounds_toArray, List.set_cons_zero, List.set_cons_succ, Nat.reduceAdd, Nat.reduceEqDiff, reduceIte] at hK ⊢
                  simp only [e2] at hK ⊢
                  have hq : wq.cell? ⟨gC, 2, none⟩ = some (.int .i64 (by_ : Int)) := (cell_of_row wq gC 2 _ _ _ (CB.below (HCB.out.below HBB9.out) hbq)).trans rfl
                  go_simp
                  exact hK _ _ (Below.refl _ _) rfl
                · intro t wq hbq hh K hK
                  have e1 := hh.1
                  simp only [pick] at e1
                  replace e1 : t 1 = (.int .i64 (total (m) : Int)) := e1
                  have e3 := hh.2.1
                  simp only [pick] at e3
                  replace e3 : t 3 = (.int .i64 (by_ : Int)) := e3
                  clear hh
                  simp only [filled, upd, Have, is, any, row, pick, Act.put, List.setIfInBounds_toArray, List.set_cons_zero, List.set_cons_succ, Nat.reduceAdd, Nat.reduceEqDiff, reduceIte] at hK ⊢
                  simp only [e1, e3] at hK ⊢
                  have hq := HT2.out
                  have hqn : ¬ by_ < total (m) := by omega
                  go_simp
                  exact hK _ _ (Below.refl _ _) rfl
                · intro t wq hbq hh K hK
                  have e4 := hh.1
                  simp only [pick] at e4
                  replace e4 : t 4 = (.bool false) := e4
                  clear hh
                  simp only [filled, upd, Have, is, any, row, pick, Act.put, List.setIfInBounds_toArray, List.set_cons_zero, List.set_cons_succ, Nat.reduceAdd, Nat.reduceEqDiff, reduceIte] at hK ⊢
                  simp only [e4] at hK ⊢
                  go_simp
                  exact hK _ _ (Below.refl _ _) rfl
                · intro t wq hbq hh K hK
                  have e5 := hh.1
                  simp only [pick] at e5
                  replace e5 : t 5 = (.bool false) := e5
                  clear hh
                  simp only [filled, upd, Have, is, any, row, pick, Act.put, List.setIfInBounds_toArray, List.set_cons_zero, List.set_cons_succ, Nat.reduceAdd, Nat.reduceEqDiff, reduceIte] at hK ⊢
                  simp only [e5] at hK ⊢
                  go_simp
                  exact hK _ _ (Below.refl _ _) rfl
                · intro t wq hbq hh K hK
                  have e5 := hh.1
                  simp only [pick] at e5
                  replace e5 : t 5 = (.bool false) := e5
                  clear hh
                  simp only [filled, upd, Have, is, any, row, pick, Act.put, List.setIfInBounds_toArray, List.set_cons_zero, List.set_cons_succ, Nat.reduceAdd, Nat.reduceEqDiff, reduceIte] at hK ⊢
                  simp only [e5] at hK ⊢
                  go_simp
                  exact hK _ _ (Below.refl _ _) rfl
                · intro t wq hbq hh K hK
                  have e5 := hh.1
                  simp only [pick] at e5
                  replace e5 : t 5 = (.bool false) := e5
                  have e7 := hh.2.1
                  simp only [pick] at e7
                  replace e7 : t 7 = (.pointer (some ⟨gC, 0, none⟩)) := e7
                  clear hh
                  simp only [filled, upd, Have, is, any, row, pick, Act.put, List.setIfInBounds_toArray, List.set_cons_zero, List.set_cons_succ, Nat.reduceAdd, Nat.reduceEqDiff, reduceIte] at hK ⊢
                  simp only [e5, e7] at hK ⊢
                  have hq : wq.cell? ⟨gC, 0, none⟩ = some (.int .i64 (b : Int)) := (cell_of_row wq gC 0 _ _ _ (CB.below (HCB.out.below HBB9.out) hbq)).trans rfl
                  go_simp
                  exact hK _ _ (Below.refl _ _) rfl
                · intro t wq hbq hh K hK
                  have e5 := hh.1
                  simp only [pick] at e5
                  replace e5 : t 5 = (.bool false) := e5
                  have e6 := hh.2.1
                  simp only [pick] at e6
                  replace e6 : t 6 = (.int .i64 (m.tbl.length : Int)) := e6
                  have e8 := hh.2.2.1
                  simp only [pick] at e8
                  replace e8 : t 8 = (.int .i64 (b : Int)) := e8
                  clear hh
                  simp only [filled, upd, Have, is, any, row, pick, Act.put, List.setIfInBounds_toArray, List.set_cons_zero, List.set_cons_succ, Nat.reduceAdd, Nat.reduceEqDiff, reduceIte] at hK ⊢
                  simp only [e5, e6, e8] at hK ⊢
                  have hq := HN2.out.1
                  have hqn : ¬ b < m.tbl.length := by omega
                  go_simp
                  first | exact hK _ _ (Below.refl _ _) rfl | exact hK _ _ (Below.refl _ _) (congrArg Value.bool (decide_eq_false (by have := HN2.out; omega)))
                · intro t wq hbq hh K hK
                  have e5 := hh.1
                  simp only [pick] at e5
                  replace e5 : t 5 = (.bool false) := e5
                  have e9 := hh.2.1
                  simp only [pick] at e9
                  replace e9 : t 9 = (.bool false) := e9
                  clear hh
                  simp only [filled, upd, Have, is, any, row, pick, Act.put, List.setIfInBounds_toArray, List.set_cons_zero, List.set_cons_succ, Nat.reduceAdd, Nat.reduceEqDiff, reduceIte] at hK ⊢
                  simp only [e5, e9] at hK ⊢
                  go_simp
                  exact hK _ _ (Below.refl _ _) rfl
                · intro t wq hbq hh K hK
                  have e10 := hh.1
                  simp only [pick] at e10
                  replace e10 : t 10 = (.bool false) := e10
                  clear hh
                  simp only [filled, upd, Have, is, any, row, pick, Act.put, List.setIfInBounds_toArray, List.set_cons_zero, List.set_cons_succ, Nat.reduceAdd, Nat.reduceEqDiff, reduceIte] at hK ⊢
                  simp only [e10] at hK ⊢
                  go_simp
                  exact hK _ _ (Below.refl _ _) rfl
                · intro t wq hbq hh K hK
                  have e11 := hh.1
                  simp only [pick] at e11
                  replace e11 : t 11 = (.bool false) := e11
                  clear hh
                  simp only [filled, upd, Have, is, any, row, pick, Act.put, List.setIfInBounds_toArray, List.set_cons_zero, List.set_cons_succ, Nat.reduceAdd, Nat.reduceEqDiff, reduceIte] at hK ⊢
                  simp only [e11] at hK ⊢
                  go_simp
                  exact hK _ _ (Below.refl _ _) rfl
                · intro t wq hbq hh K hK
                  have e11 := hh.1
                  simp only [pick] at e11
                  replace e11 : t 11 = (.bool false) := e11
                  have e12 := hh.2.1
                  simp only [pick] at e12
                  replace e12 : t 12 = (.int .i64 (m.tbl.length : Int)) := e12
                  clear hh
                  simp only [filled, upd, Have, is, any, row, pick, Act.put, List.setIfInBounds_toArray, List.set_cons_zero, List.set_cons_succ, Nat.reduceAdd, Nat.reduceEqDiff, reduceIte] at hK ⊢
                  simp only [e11, e12] at hK ⊢
                  have hq := HN2.out.2
                  go_simp
                  first | exact hK _ _ (Below.refl _ _) rfl | exact hK _ _ (Below.refl _ _) (congrArg Value.bool (decide_eq_false (by have := HN2.out; omega)))
                · intro t wq hbq hh K hK
                  have e11 := hh.1
                  simp only [pick] at e11
                  replace e11 : t 11 = (.bool false) := e11
                  have e13 := hh.2.1
                  simp only [pick] at e13
                  replace e13 : t 13 = (.bool false) := e13
                  clear hh
                  simp only [filled, upd, Have, is, any, row, pick, Act.put, List.setIfInBounds_toArray, List.set_cons_zero, List.set_cons_succ, Nat.reduceAdd, Nat.reduceEqDiff, reduceIte] at hK ⊢
                  simp only [e11, e13] at hK ⊢
                  go_simp
                  exact hK _ _ (Below.refl _ _) rfl
              · intro t wq hbq hh
                have f14 := have_get hh 14 (by decide)
                simp only [pick] at f14
                replace f14 : t 14 = (.bool false) := f14
                clear hh
                simp only [filled, upd, Have, is, any, row, pick, Act.put, List.setIfInBounds_toArray, List.set_cons_zero, List.set_cons_succ, Nat.reduceAdd, Nat.reduceEqDiff, reduceIte]
                simp only [f14]
                have HKE := hid (HK9.out.below hbq)
                have HBBE := hid (bel HBB9.out hbq)
                clear hbq
                go_wp2
                go_roundw
                case rel => exact ⟨k + 1, m, by omega, by go_num, (by first | rfl | exact HVN.out), (by first | rfl | exact HVH.out), HL2.out, HM2.out, HKE.out, HBBE.out⟩
                case measure => simp [intOf]; omega
          · skip
            have HQ : Hid (¬ by_ < total m + X.size) := hq
            have HFU : Hid (m.tbl.length < b) := Nat.lt_of_not_le hfull
            clear hq hfull
            refine (create_ok w3.heap.size gs gt gu gm m _ X.size q X.data.toList KB _ HK7.out HRX.out (by have := HX6.out; omega) (by have := HKB6.out; unfold maxLen; omega) (by have h1 := HQ.out; have h2 := HM.out.1; omega) (by have h1 := HFU.out; have h2 := HM.out.2.1; omega) (by have h1 := HLAST.out; have h2 := HN30.out; have h3 := HLK.out; omega)).mono ?_
            rintro e w8 ⟨g, rfl, hgn, hK, hb8, hks8⟩
            have HNL : Hid (¬ Live m g) := fun hl => by have h1 := IsK.live_lt HK7.out hl; omega
            have HK8 := hid hK
            have HBB8 : Hid (Below w3.heap.size w3 w8) := HBB7.out.trans hb8
            have HOA8 : Hid (OB 35 w8 gA o) := hks8 _ _ _ _ HOA7.out (by decide) (by decide) (by decide) (by decide)
            clear hgn hK hb8 hks8 HK7 HBB7 HOA7 HRX
            have HTM : Hid ((total m : Int) + (X.size : Int) = (total (more m g X.data.toList (kd KB.data.toList)) : Int)) := by show _ = _; rw [total_more m g _ _ HNL.out, show X.data.toList.length = X.size from Array.length_toList]; omega
            have HLB : Hid ((m.last : Int) ≤ 30) := by have h1 := HLAST.out; have h2 := HN30.out; have h3 := HLK.out; show _ ≤ _; omega
            have c1 : w8.cell? ⟨gA, 1, none⟩ = some (.string X) := OB.cell HOA8.out 1 (by rw [HXX.out]; rfl)
            have k2 : w8.cell? ⟨gC, 2, none⟩ = some (.int .i64 (by_ : Int)) := (cell_of_row w8 gC 2 _ _ _ (HCB.out.below HBB8.out)).trans rfl
            have hcap := HCAP.out
            have hxi : (X.size : Int) ≤ 600 := by have := HX6.out; omega
            have HBIG : Hid (decide ((by_ : Int) < (total m : Int) + (X.size : Int)) = false) := by show _ = _; have := HQ.out; rw [decide_eq_false_iff_not]; omega
            go_upto_region 15 with (fail)
            rw [HBIG.out]
            clear c1 k2 HBIG
            refine wp_region_rel (by kernel_rfl) [is (.int .i64 0), is (.bool false), is (.bool false), is (.bool false), is (.bool false), is (.int .i64 0), is (.bool true), is (.bool true), is (.int .i64 ((m.last : Int) + 1)), is (.int .i64 (m.last : Int)), is (.int .i64 ((m.last : Int) + 1)), is (.bool false), is (.bool false), is (.pointer (some ⟨gs, 0, none⟩)), is (.int .i64 (total (more m g X.data.toList (kd KB.data.toList)) : Int)), is (.int .i64 (total m : Int)), is (.pointer (some ⟨gA, 1, none⟩)), is (.string X), is (.int .i64 (X.size : Int)), is (.int .i64 (total (more m g X.data.toList (kd KB.data.toList)) : Int)), is (.bool false), is (.bool false), is (.bool false), is (.bool false), is (.bool false), is (.int .i64 0), is (.bool false), is (.bool false), is (undef), is (undef), is (undef), is (undef), is (.bool false), is (.bool false)] [[], [0], [], [1, 2], [3], [4], [4, 5], [4, 6], [7], [7], [7, 9], [7, 8, 10], [7, 11], [12], [12, 13], [12], [12], [12, 16], [12, 17], [12, 15, 18], [12, 14, 19], [7, 12, 20], [4, 7, 21], [4, 22], [23], [24], [24, 25], [24, 26], [27], [27, 28], [27], [27, 29, 30], [24, 27, 31], [24, 32]] (by kernel_rfl) ?_ ?_
            · refine ⟨?_, ?_, ?_, ?_, ?_, ?_, ?_, ?_, ?_, ?_, ?_, ?_, ?_, ?_, ?_, ?_, ?_, ?_, ?_, ?_, ?_, ?_, ?_, ?_, ?_, ?_, ?_, ?_, ?_, ?_, ?_, ?_, ?_, ?_, trivial⟩
              · intro t wq hbq hh K hK
                clear hh
                simp only [filled, upd, Have, is, any, row, pick, Act.put, List.setIfInBounds_toArray, List.set_cons_zero, List.set_cons_succ, Nat.reduceAdd, Nat.reduceEqDiff, reduceIte] at hK ⊢
                go_simp
                exact hK _ _ (Below.refl _ _) rfl
              · intro t wq hbq hh K hK
                have e0 := hh.1
                simp only [pick] at e0
                replace e0 : t 0 = (.int .i64 0) := e0
                clear hh
                simp only [filled, upd, Have, is, any, row, pick, Act.put, List.setIfInBounds_toArray, List.set_cons_zero, List.set_cons_succ, Nat.reduceAdd, Nat.reduceEqDiff, reduceIte] at hK ⊢
                simp only [e0] at hK ⊢
                go_simp
                first | exact hK _ _ (Below.refl _ _) rfl | exact hK _ _ (Below.refl _ _) (int_wrap (by omega) (by omega))
              · intro t wq hbq hh K hK
                clear hh
                simp only [filled, upd, Have, is, any, row, pick, Act.put, List.setIfInBounds_toArray, List.set_cons_zero, List.set_cons_succ, Nat.reduceAdd, Nat.reduceEqDiff, reduceIte] at hK ⊢
                go_simp
                exact hK _ _ (Below.refl _ _) rfl
              · intro t wq hbq hh K hK
                have e1 := hh.1
                simp only [pick] at e1
                replace e1 : t 1 = (.bool false) := e1
                have e2 := hh.2.1
                simp only [pick] at e2
                replace e2 : t 2 = (.bool false) := e2
                clear hh
                simp only [filled, upd, Have, is, any, row, pick, Act.put, List.setIfInBounds_toArray, List.set_cons_zero, List.set_cons_succ, Nat.reduceAdd, Nat.reduceEqDiff, reduceIte] at hK ⊢
                simp only [e1, e2] at hK ⊢
                go_simp
                first | exact hK _ _ (Below.refl _ _) rfl | exact hK _ _ (Below.refl _ _) (int_wrap (by omega) (by omega))
              · intro t wq hbq hh K hK
                have e3 := hh.1
                simp only [pick] at e3
                replace e3 : t 3 = (.bool false) := e3
                clear hh
                simp only [filled, upd, Have, is, any, row, pick, Act.put, List.setIfInBounds_toArray, List.set_cons_zero, List.set_cons_succ, Nat.reduceAdd, Nat.reduceEqDiff, reduceIte] at hK ⊢
                simp only [e3] at hK ⊢
                go_simp
                exact hK _ _ (Below.refl _ _) rfl
              · intro t wq hbq hh K hK
                have e4 := hh.1
                simp only [pick] at e4
                replace e4 : t 4 = (.bool false) := e4
                clear hh
                simp only [filled, upd, Have, is, any, row, pick, Act.put, List.setIfInBounds_toArray, List.set_cons_zero, List.set_cons_succ, Nat.reduceAdd, Nat.reduceEqDiff, reduceIte] at hK ⊢
                simp only [e4] at hK ⊢
                go_simp
                exact hK _ _ (Below.refl _ _) rfl
              · intro t wq hbq hh K hK
                have e4 := hh.1
                simp only [pick] at e4
                replace e4 : t 4 = (.bool false) := e4
                have e5 := hh.2.1
                simp only [pick] at e5
                replace e5 : t 5 = (.int .i64 0) := e5
                clear hh
                simp only [filled, upd, Have, is, any, row, pick, Act.put, List.setIfInBounds_toArray, List.set_cons_zero, List.set_cons_succ, Nat.reduceAdd, Nat.reduceEqDiff, reduceIte] at hK ⊢
                simp only [e4, e5] at hK ⊢
                go_simp
                first | exact hK _ _ (Below.refl _ _) rfl | exact hK _ _ (Below.refl _ _) (int_wrap (by omega) (by omega))
              · intro t wq hbq hh K hK
                have e4 := hh.1
                simp only [pick] at e4
                replace e4 : t 4 = (.bool false) := e4
                have e6 := hh.2.1
                simp only [pick] at e6
                replace e6 : t 6 = (.bool true) := e6
                clear hh
                simp only [filled, upd, Have, is, any, row, pick, Act.put, List.setIfInBounds_toArray, List.set_cons_zero, List.set_cons_succ, Nat.reduceAdd, Nat.reduceEqDiff, reduceIte] at hK ⊢
                simp only [e4, e6] at hK ⊢
                go_simp
                exact hK _ _ (Below.refl _ _) rfl
              · intro t wq hbq hh K hK
                have e7 := hh.1
                simp only [pick] at e7
                replace e7 : t 7 = (.bool true) := e7
                clear hh
                simp only [filled, upd, Have, is, any, row, pick, Act.put, List.setIfInBounds_toArray, List.set_cons_zero, List.set_cons_succ, Nat.reduceAdd, Nat.reduceEqDiff, reduceIte] at hK ⊢
                simp only [e7] at hK ⊢
                go_simp
                exact hK _ _ (Below.refl _ _) rfl
              · intro t wq hbq hh K hK
                have e7 := hh.1
                simp only [pick] at e7
                replace e7 : t 7 = (.bool true) := e7
                clear hh
                simp only [filled, upd, Have, is, any, row, pick, Act.put, List.setIfInBounds_toArray, List.set_cons_zero, List.set_cons_succ, Nat.reduceAdd, Nat.reduceEqDiff, reduceIte] at hK ⊢
                simp only [e7] at hK ⊢
                go_simp
                exact hK _ _ (Below.refl _ _) rfl
              · intro t wq hbq hh K hK
                have e7 := hh.1
                simp only [pick] at e7
                replace e7 : t 7 = (.bool true) := e7
                have e9 := hh.2.1
                simp only [pick] at e9
                replace e9 : t 9 = (.int .i64 (m.last : Int)) := e9
                clear hh
                simp only [filled, upd, Have, is, any, row, pick, Act.put, List.setIfInBounds_toArray, List.set_cons_zero, List.set_cons_succ, Nat.reduceAdd, Nat.reduceEqDiff, reduceIte] at hK ⊢
                simp only [e7, e9] at hK ⊢
                have hq := HLB.out
                go_simp
                first | exact hK _ _ (Below.refl _ _) rfl | exact hK _ _ (Below.refl _ _) (int_wrap (by omega) (by omega))
              · intro t wq hbq hh K hK
                have e7 := hh.1
                simp only [pick] at e7
                replace e7 : t 7 = (.bool true) := e7
                have e8 := hh.2.1
                simp only [pick] at e8
                replace e8 : t 8 = (.int .i64 ((m.last : Int) + 1)) := e8
                have e10 := hh.2.2.1
                simp only [pick] at e10
                replace e10 : t 10 = (.int .i64 ((m.last : Int) + 1)) := e10
                clear hh
                simp only [filled, upd, Have, is, any, row, pick, Act.put, List.setIfInBounds_toArray, List.set_cons_zero, List.set_cons_succ, Nat.reduceAdd, Nat.reduceEqDiff, reduceIte] at hK ⊢
                simp only [e7, e8, e10] at hK ⊢
                go_simp
                first | exact hK _ _ (Below.refl _ _) rfl | exact hK _ _ (Below.refl _ _) (int_wrap (by omega) (by omega))
              · intro t wq hbq hh K hK
                have e7 := hh.1
                simp only [pick] at e7
                replace e7 : t 7 = (.bool true) := e7
                have e11 := hh.2.1
                simp only [pick] at e11
                replace e11 : t 11 = (.bool false) := e11
                clear hh
                simp only [filled, upd, Have, is, any, row, pick, Act.put, List.setIfInBounds_toArray, List.set_cons_zero, List.set_cons_succ, Nat.reduceAdd, Nat.reduceEqDiff, reduceIte] at hK ⊢
                simp only [e7, e11] at hK ⊢
                go_simp
                exact hK _ _ (Below.refl _ _) rfl
              · intro t wq hbq hh K hK
                have e12 := hh.1
                simp only [pick] at e12
                replace e12 : t 12 = (.bool false) := e12
                clear hh
                simp only [filled, upd, Have, is, any, row, pick, Act.put, List.setIfInBounds_toArray, List.set_cons_zero, List.set_cons_succ, Nat.reduceAdd, Nat.reduceEqDiff, reduceIte] at hK ⊢
                simp only [e12] at hK ⊢
                go_simp
                exact hK _ _ (Below.refl _ _) rfl
              · intro t wq hbq hh K hK
                have e12 := hh.1
                simp only [pick] at e12
                replace e12 : t 12 = (.bool false) := e12
                have e13 := hh.2.1
                simp only [pick] at e13
                replace e13 : t 13 = (.pointer (some ⟨gs, 0, none⟩)) := e13
                clear hh
                simp only [filled, upd, Have, is, any, row, pick, Act.put, List.setIfInBounds_toArray, List.set_cons_zero, List.set_cons_succ, Nat.reduceAdd, Nat.reduceEqDiff, reduceIte] at hK ⊢
                simp only [e12, e13] at hK ⊢
                go_simp
                refine (bytes_any w3.heap.size gs gt gu gm _ _ (HK8.out.below hbq)).mono ?_
                rintro e w9 ⟨rfl, hb9⟩
                exact hK _ _ hb9 rfl
              · intro t wq hbq hh K hK
                have e12 := hh.1
                simp only [pick] at e12
                replace e12 : t 12 = (.bool false) := e12
                clear hh
                simp only [filled, upd, Have, is, any, row, pick, Act.put, List.setIfInBounds_toArray, List.set_cons_zero, List.set_cons_succ, Nat.reduceAdd, Nat.reduceEqDiff, reduceIte] at hK ⊢
                simp only [e12] at hK ⊢
                go_simp
                exact hK _ _ (Below.refl _ _) rfl
              · intro t wq hbq hh K hK
                have e12 := hh.1
                simp only [pick] at e12
                replace e12 : t 12 = (.bool false) := e12
                clear hh
                simp only [filled, upd, Have, is, any, row, pick, Act.put, List.setIfInBounds_toArray, List.set_cons_zero, List.set_cons_succ, Nat.reduceAdd, Nat.reduceEqDiff, reduceIte] at hK ⊢
                simp only [e12] at hK ⊢
                go_simp
                exact hK _ _ (Below.refl _ _) rfl
              · intro t wq hbq hh K hK
                have e12 := hh.1
                simp only [pick] at e12
                replace e12 : t 12 = (.bool false) := e12
                have e16 := hh.2.1
                simp only [pick] at e16
                replace e16 : t 16 = (.pointer (some ⟨gA, 1, none⟩)) := e16
                clear hh
                simp only [filled, upd, Have, is, any, row, pick, Act.put, List.setIfInBounds_toArray, List.set_cons_zero, List.set_cons_succ, Nat.reduceAdd, Nat.reduceEqDiff, reduceIte] at hK ⊢
                simp only [e12, e16] at hK ⊢
                have hq : wq.cell? ⟨gA, 1, none⟩ = some (.string X) := OB.cell (OB.below HOA8.out hbq) 1 (by rw [HXX.out]; rfl)
                go_simp
                exact hK _ _ (Below.refl _ _) rfl
              · intro t wq hbq hh K hK
                have e12 := hh.1
                simp only [pick] at e12
                replace e12 : t 12 = (.bool false) := e12
                have e17 := hh.2.1
                simp only [pick] at e17
                replace e17 : t 17 = (.string X) := e17
                clear hh
                simp only [filled, upd, Have, is, any, row, pick, Act.put, List.setIfInBounds_toArray, List.set_cons_zero, List.set_cons_succ, Nat.reduceAdd, Nat.reduceEqDiff, reduceIte] at hK ⊢
                simp only [e12, e17] at hK ⊢
                go_simp
                exact hK _ _ (Below.refl _ _) rfl
              · intro t wq hbq hh K hK
                have e12 := hh.1
                simp only [pick] at e12
                replace e12 : t 12 = (.bool false) := e12
                have e15 := hh.2.1
                simp only [pick] at e15
                replace e15 : t 15 = (.int .i64 (total m : Int)) := e15
                have e18 := hh.2.2.1
                simp only [pick] at e18
                replace e18 : t 18 = (.int .i64 (X.size : Int)) := e18
                clear hh
                simp only [filled, upd, Have, is, any, row, pick, Act.put, List.setIfInBounds_toArray, List.set_cons_zero, List.set_cons_succ, Nat.reduceAdd, Nat.reduceEqDiff, reduceIte] at hK ⊢
                simp only [e12, e15, e18] at hK ⊢
                have hq2 := HCAP.out
                go_simp
                first | exact hK _ _ (Below.refl _ _) (congrArg (Value.int .i64) HTM.out) | exact hK _ _ (Below.refl _ _) (congrArg (Value.int .i64) (by have h1 := HX6.out; rw [IntKind.wrap_i64]; have h2 := HTM.out; omega))
              · intro t wq hbq hh K hK
                have e12 := hh.1
                simp only [pick] at e12
                replace e12 : t 12 = (.bool false) := e12
                have e14 := hh.2.1
                simp only [pick] at e14
                replace e14 : t 14 = (.int .i64 (total (more m g X.data.toList (kd KB.data.toList)) : Int)) := e14
                have e19 := hh.2.2.1
                simp only [pick] at e19
                replace e19 : t 19 = (.int .i64 (total (more m g X.data.toList (kd KB.data.toList)) : Int)) := e19
                clear hh
                simp only [filled, upd, Have, is, any, row, pick, Act.put, List.setIfInBounds_toArray, List.set_cons_zero, List.set_cons_succ, Nat.reduceAdd, Nat.reduceEqDiff, reduceIte] at hK ⊢
                simp only [e12, e14, e19] at hK ⊢
                go_simp
                first | exact hK _ _ (Below.refl _ _) rfl | exact hK _ _ (Below.refl _ _) (int_wrap (by omega) (by omega))
              · intro t wq hbq hh K hK
                have e7 := hh.1
                simp only [pick] at e7
                replace e7 : t 7 = (.bool true) := e7
                have e12 := hh.2.1
                simp only [pick] at e12
                replace e12 : t 12 = (.bool false) := e12
                have e20 := hh.2.2.1
                simp only [pick] at e20
                replace e20 : t 20 = (.bool false) := e20
                clear hh
                simp only [filled, upd, Have, is, any, row, pick, Act.put, List.setIfInBounds_toArray, List.set_cons_zero, List.set_cons_succ, Nat.reduceAdd, Nat.reduceEqDiff, reduceIte] at hK ⊢
                simp only [e7, e12, e20] at hK ⊢
                go_simp
                exact hK _ _ (Below.refl _ _) rfl
              · intro t wq hbq hh K hK
                have e4 := hh.1
                simp only [pick] at e4
                replace e4 : t 4 = (.bool false) := e4
                have e7 := hh.2.1
                simp only [pick] at e7
                replace e7 : t 7 = (.bool true) := e7
                have e21 := hh.2.2.1
                simp only [pick] at e21
                replace e21 : t 21 = (.bool false) := e21
                clear hh
                simp only [filled, upd, Have, is, any, row, pick, Act.put, List.setIfInBounds_toArray, List.set_cons_zero, List.set_cons_succ, Nat.reduceAdd, Nat.reduceEqDiff, reduceIte] at hK ⊢
                simp only [e4, e7, e21] at hK ⊢
                go_simp
                exact hK _ _ (Below.refl _ _) rfl
              · intro t wq hbq hh K hK
                have e4 := hh.1
                simp only [pick] at e4
                replace e4 : t 4 = (.bool false) := e4
                have e22 := hh.2.1
                simp only [pick] at e22
                replace e22 : t 22 = (.bool false) := e22
                clear hh
                simp only [filled, upd, Have, is, any, row, pick, Act.put, List.setIfInBounds_toArray, List.set_cons_zero, List.set_cons_succ, Nat.reduceAdd, Nat.reduceEqDiff, reduceIte] at hK ⊢
                simp only [e4, e22] at hK ⊢
                go_simp
                exact hK _ _ (Below.refl _ _) rfl
              · intro t wq hbq hh K hK
                have e23 := hh.1
                simp only [pick] at e23
                replace e23 : t 23 = (.bool false) := e23
                clear hh
                simp only [filled, upd, Have, is, any, row, pick, Act.put, List.setIfInBounds_toArray, List.set_cons_zero, List.set_cons_succ, Nat.reduceAdd, Nat.reduceEqDiff, reduceIte] at hK ⊢
                simp only [e23] at hK ⊢
                go_simp
                exact hK _ _ (Below.refl _ _) rfl
              · intro t wq hbq hh K hK
                have e24 := hh.1
                simp only [pick] at e24
                replace e24 : t 24 = (.bool false) := e24
                clear hh
                simp only [filled, upd, Have, is, any, row, pick, Act.put, List.setIfInBounds_toArray, List.set_cons_zero, List.set_cons_succ, Nat.reduceAdd, Nat.reduceEqDiff, reduceIte] at hK ⊢
                simp only [e24] at hK ⊢
                go_simp
                exact hK _ _ (Below.refl _ _) rfl
              · intro t wq hbq hh K hK
                have e24 := hh.1
                simp only [pick] at e24
                replace e24 : t 24 = (.bool false) := e24
                have e25 := hh.2.1
                simp only [pick] at e25
                replace e25 : t 25 = (.int .i64 0) := e25
                clear hh
                simp only [filled, upd, Have, is, any, row, pick, Act.put, List.setIfInBounds_toArray, List.set_cons_zero, List.set_cons_succ, Nat.reduceAdd, Nat.reduceEqDiff, reduceIte] at hK ⊢
                simp only [e24, e25] at hK ⊢
                go_simp
                first | exact hK _ _ (Below.refl _ _) rfl | exact hK _ _ (Below.refl _ _) (int_wrap (by omega) (by omega))
              · intro t wq hbq hh K hK
                have e24 := hh.1
                simp only [pick] at e24
                replace e24 : t 24 = (.bool false) := e24
                have e26 := hh.2.1
                simp only [pick] at e26
                replace e26 : t 26 = (.bool false) := e26
                clear hh
                simp only [filled, upd, Have, is, any, row, pick, Act.put, List.setIfInBounds_toArray, List.set_cons_zero, List.set_cons_succ, Nat.reduceAdd, Nat.reduceEqDiff, reduceIte] at hK ⊢
                simp only [e24, e26] at hK ⊢
                go_simp
                exact hK _ _ (Below.refl _ _) rfl
              · intro t wq hbq hh K hK
                have e27 := hh.1
                simp only [pick] at e27
                replace e27 : t 27 = (.bool false) := e27
                clear hh
                simp only [filled, upd, Have, is, any, row, pick, Act.put, List.setIfInBounds_toArray, List.set_cons_zero, List.set_cons_succ, Nat.reduceAdd, Nat.reduceEqDiff, reduceIte] at hK ⊢
                simp only [e27] at hK ⊢
                go_simp
                exact hK _ _ (Below.refl _ _) rfl
              · intro t wq hbq hh K hK
                have e27 := hh.1
                simp only [pick] at e27
                replace e27 : t 27 = (.bool false) := e27
                have e28 := hh.2.1
                simp only [pick] at e28
                replace e28 : t 28 = (undef) := e28
                clear hh
                simp only [filled, upd, Have, is, any, row, pick, Act.put, List.setIfInBounds_toArray, List.set_cons_zero, List.set_cons_succ, Nat.reduceAdd, Nat.reduceEqDiff, reduceIte] at hK ⊢
                simp only [e27, e28] at hK ⊢
                go_simp
                exact hK _ _ (Below.refl _ _) rfl
              · intro t wq hbq hh K hK
                have e27 := hh.1
                simp only [pick] at e27
                replace e27 : t 27 = (.bool false) := e27
                clear hh
                simp only [filled, upd, Have, is, any, row, pick, Act.put, List.setIfInBounds_toArray, List.set_cons_zero, List.set_cons_succ, Nat.reduceAdd, Nat.reduceEqDiff, reduceIte] at hK ⊢
                simp only [e27] at hK ⊢
                go_simp
                exact hK _ _ (Below.refl _ _) rfl
              · intro t wq hbq hh K hK
                have e27 := hh.1
                simp only [pick] at e27
                replace e27 : t 27 = (.bool false) := e27
                have e29 := hh.2.1
                simp only [pick] at e29
                replace e29 : t 29 = (undef) := e29
                have e30 := hh.2.2.1
                simp only [pick] at e30
                replace e30 : t 30 = (undef) := e30
                clear hh
                simp only [filled, upd, Have, is, any, row, pick, Act.put, List.setIfInBounds_toArray, List.set_cons_zero, List.set_cons_succ, Nat.reduceAdd, Nat.reduceEqDiff, reduceIte] at hK ⊢
                simp only [e27, e29, e30] at hK ⊢
                go_simp
                first | exact hK _ _ (Below.refl _ _) rfl | exact hK _ _ (Below.refl _ _) (int_wrap (by omega) (by omega))
              · intro t wq hbq hh K hK
                have e24 := hh.1
                simp only [pick] at e24
                replace e24 : t 24 = (.bool false) := e24
                have e27 := hh.2.1
                simp only [pick] at e27
                replace e27 : t 27 = (.bool false) := e27
                have e31 := hh.2.2.1
                simp only [pick] at e31
                replace e31 : t 31 = (undef) := e31
                clear hh
                simp only [filled, upd, Have, is, any, row, pick, Act.put, List.setIfInBounds_toArray, List.set_cons_zero, List.set_cons_succ, Nat.reduceAdd, Nat.reduceEqDiff, reduceIte] at hK ⊢
                simp only [e24, e27, e31] at hK ⊢
                go_simp
                exact hK _ _ (Below.refl _ _) rfl
              · intro t wq hbq hh K hK
                have e24 := hh.1
                simp only [pick] at e24
                replace e24 : t 24 = (.bool false) := e24
                have e32 := hh.2.1
                simp only [pick] at e32
                replace e32 : t 32 = (.bool false) := e32
                clear hh
                simp only [filled, upd, Have, is, any, row, pick, Act.put, List.setIfInBounds_toArray, List.set_cons_zero, List.set_cons_succ, Nat.reduceAdd, Nat.reduceEqDiff, reduceIte] at hK ⊢
                simp only [e24, e32] at hK ⊢
                go_simp
                exact hK _ _ (Below.refl _ _) rfl
            · intro t wq hbq hh
              have f33 := have_get hh 33 (by decide)
              simp only [pick] at f33
              replace f33 : t 33 = (.bool false) := f33
              clear hh
              simp only [filled, upd, Have, is, any, row, pick, Act.put, List.setIfInBounds_toArray, List.set_cons_zero, List.set_cons_succ, Nat.reduceAdd, Nat.reduceEqDiff, reduceIte]
              simp only [f33]
              have HK9 := hid (HK8.out.below hbq)
              have HBB9 := hid (bel HBB8.out hbq)
              clear hbq HK8 HBB8
              generalize hw9 : wq = w9 at HK9 HBB9 ⊢
              clear hw9
              have hlb := HLB.out
              have htl : (m.tbl.length : Int) ≤ 64 := by have h1 := HFU.out; have h2 := HCAPS.out.2.1; omega
              have HM2 : Hid ((more m g X.data.toList (kd KB.data.toList)).bytes = by_ ∧ (more m g X.data.toList (kd KB.data.toList)).bcap = b ∧ (more m g X.data.toList (kd KB.data.toList)).ucap = u) := HM.out
              have HT2 : Hid (¬ (by_ : Int) < (total (more m g X.data.toList (kd KB.data.toList)) : Int)) := by have h1 := HK9.out.fit.sum; have h2 := HM2.out.1; show ¬ _; omega
              have HVN : Hid (Value.int .i64 ((m.last : Int) + 1) = .int .i64 ((more m g X.data.toList (kd KB.data.toList)).last : Int)) := rfl
              have HVH : Hid (Value.int .i64 ((m.tbl.length : Int) + 1) = .int .i64 ((more m g X.data.toList (kd KB.data.toList)).tbl.length : Int)) := by show _ = _; unfold more; simp
              have HL2 : Hid ((more m g X.data.toList (kd KB.data.toList)).last ≤ k + 1) := by have := HLAST.out; show _ ≤ _; show m.last + 1 ≤ _; omega
              have HN2 : Hid (¬ (b : Int) < ((m.tbl.length : Int) + 1) ∧ ¬ ((m.tbl.length : Int) + 1) < 0) := by have h1 := HFU.out; show _ ∧ _; omega
              go_upto_region 24 with (fail)
              clear hlb htl
              clear hcap hxi
              refine wp_region_rel (by kernel_rfl) [is (.pointer (some ⟨gs, 0, none⟩)), is (.int .i64 (total (more m g X.data.toList (kd KB.data.toList)) : Int)), is (.pointer (some ⟨gC, 2, none⟩)), is (.int .i64 (by_ : Int)), is (.bool false), is (.bool false), is (.int .i64 ((m.tbl.length : Int) + 1)), is (.pointer (some ⟨gC, 0, none⟩)), is (.int .i64 (b : Int)), is (.bool false), is (.bool false), is (.bool false), is (.int .i64 ((m.tbl.length : Int) + 1)), is (.bool false), is (.bool false)] [[], [0], [], [2], [1, 3], [4], [5], [5], [5, 7], [5, 6, 8], [5, 9], [10], [11], [11, 12], [11, 13]] (by kernel_rfl) ?_ ?_
              · refine ⟨?_, ?_, ?_, ?_, ?_, ?_, ?_, ?_, ?_, ?_, ?_, ?_, ?_, ?_, ?_, trivial⟩
                · intro t wq hbq hh K hK
                  clear hh
                  simp only [filled, upd, Have, is, any, row, pick, Act.put, List.setIfInBounds_toArray, List.set_cons_zero, List.set_cons_succ, Nat.reduceAdd, Nat.reduceEqDiff, reduceIte] at hK ⊢
                  go_simp
                  exact hK _ _ (Below.refl _ _) rfl
                · intro t wq hbq hh K hK
                  have e0 := hh.1
                  simp only [pick] at e0
                  replace e0 : t 0 = (.pointer (some ⟨gs, 0, none⟩)) := e0
                  clear hh
                  simp only [filled, upd, Have, is, any, row, pick, Act.put, List.setIfInBounds_toArray, List.set_cons_zero, List.set_cons_succ, Nat.reduceAdd, Nat.reduceEqDiff, reduceIte] at hK ⊢
                  simp only [e0] at hK ⊢
                  go_simp
                  refine (bytes_any w3.heap.size gs gt gu gm _ _ (HK9.out.below hbq)).mono ?_
                  rintro e w9 ⟨rfl, hb9⟩
                  exact hK _ _ hb9 rfl
                · intro t wq hbq hh K hK
                  clear hh
                  simp only [filled, upd, Have, is, any, row, pick, Act.put, List.setIfInBounds_toArray, List.set_cons_zero, List.set_cons_succ, Nat.reduceAdd, Nat.reduceEqDiff, reduceIte] at hK ⊢
                  go_simp
                  exact hK _ _ (Below.refl _ _) rfl
                · intro t wq hbq hh K hK
                  have e2 := hh.1
                  simp only [pick] at e2
                  replace e2 : t 2 = (.pointer (some ⟨gC, 2, none⟩)) := e2
                  clear hh
                  simp only [filled, upd, Have, is, any, row, pick, Act.put, List.setIfInBounds_toArray, List.set_cons_zero, List.set_cons_succ, Nat.reduceAdd, Nat.reduceEqDiff, reduceIte] at hK ⊢
                  simp only [e2] at hK ⊢
                  have hq : wq.cell? ⟨gC, 2, none⟩ = some (.int .i64 (by_ : Int)) := (cell_of_row wq gC 2 _ _ _ (CB.below (HCB.out.below HBB9.out) hbq)).trans rfl
                  go_simp
                  exact hK _ _ (Below.refl _ _) rfl
                · intro t wq hbq hh K hK
                  have e1 := hh.1
                  simp only [pick] at e1
                  replace e1 : t 1 = (.int .i64 (total (more m g X.data.toList (kd KB.data.toList)) : Int)) := e1
                  have e3 := hh.2.1
                  simp only [pick] at e3
                  replace e3 : t 3 = (.int .i64 (by_ : Int)) := e3
                  clear hh
                  simp only [filled, upd, Have, is, any, row, pick, Act.put, List.setIfInBounds_toArray, List.set_cons_zero, List.set_cons_succ, Nat.reduceAdd, Nat.reduceEqDiff, reduceIte] at hK ⊢
                  simp only [e1, e3] at hK ⊢
                  have hq := HT2.out
                  have hqn : ¬ by_ < total (more m g X.data.toList (kd KB.data.toList)) := by omega
                  go_simp
                  exact hK _ _ (Below.refl _ _) rfl
                · intro t wq hbq hh K hK
                  have e4 := hh.1
                  simp only [pick] at e4
                  replace e4 : t 4 = (.bool false) := e4
                  clear hh
                  simp only [filled, upd, Have, is, any, row, pick, Act.put, List.setIfInBounds_toArray, List.set_cons_zero, List.set_cons_succ, Nat.reduceAdd, Nat.reduceEqDiff, reduceIte] at hK ⊢
                  simp only [e4] at hK ⊢
                  go_simp
                  exact hK _ _ (Below.refl _ _) rfl
                · intro t wq hbq hh K hK
                  have e5 := hh.1
                  simp only [pick] at e5
                  replace e5 : t 5 = (.bool false) := e5
                  clear hh
                  simp only [filled, upd, Have, is, any, row, pick, Act.put, List.setIfInBounds_toArray, List.set_cons_zero, List.set_cons_succ, Nat.reduceAdd, Nat.reduceEqDiff, reduceIte] at hK ⊢
                  simp only [e5] at hK ⊢
                  go_simp
                  exact hK _ _ (Below.refl _ _) rfl
                · intro t wq hbq hh K hK
                  have e5 := hh.1
                  simp only [pick] at e5
                  replace e5 : t 5 = (.bool false) := e5
                  clear hh
                  simp only [filled, upd, Have, is, any, row, pick, Act.put, List.setIfInBounds_toArray, List.set_cons_zero, List.set_cons_succ, Nat.reduceAdd, Nat.reduceEqDiff, reduceIte] at hK ⊢
                  simp only [e5] at hK ⊢
                  go_simp
                  exact hK _ _ (Below.refl _ _) rfl
                · intro t wq hbq hh K hK
                  have e5 := hh.1
                  simp only [pick] at e5
                  replace e5 : t 5 = (.bool false) := e5
                  have e7 := hh.2.1
                  simp only [pick] at e7
                  replace e7 : t 7 = (.pointer (some ⟨gC, 0, none⟩)) := e7
                  clear hh
                  simp only [filled, upd, Have, is, any, row, pick, Act.put, List.setIfInBounds_toArray, List.set_cons_zero, List.set_cons_succ, Nat.reduceAdd, Nat.reduceEqDiff, reduceIte] at hK ⊢
                  simp only [e5, e7] at hK ⊢
                  have hq : wq.cell? ⟨gC, 0, none⟩ = some (.int .i64 (b : Int)) := (cell_of_row wq gC 0 _ _ _ (CB.below (HCB.out.below HBB9.out) hbq)).trans rfl
                  go_simp
                  exact hK _ _ (Below.refl _ _) rfl
                · intro t wq hbq hh K hK
                  have e5 := hh.1
                  simp only [pick] at e5
                  replace e5 : t 5 = (.bool false) := e5
                  have e6 := hh.2.1
                  simp only [pick] at e6
                  replace e6 : t 6 = (.int .i64 ((m.tbl.length : Int) + 1)) := e6
                  have e8 := hh.2.2.1
                  simp only [pick] at e8
                  replace e8 : t 8 = (.int .i64 (b : Int)) := e8
                  clear hh
                  simp only [filled, upd, Have, is, any, row, pick, Act.put, List.setIfInBounds_toArray, List.set_cons_zero, List.set_cons_succ, Nat.reduceAdd, Nat.reduceEqDiff, reduceIte] at hK ⊢
                  simp only [e5, e6, e8] at hK ⊢
                  have hq := HN2.out.1
                  have hqn : ¬ b < m.tbl.length + 1 := by omega
                  go_simp
                  first | exact hK _ _ (Below.refl _ _) rfl | exact hK _ _ (Below.refl _ _) (congrArg Value.bool (decide_eq_false (by have := HN2.out; omega)))
                · intro t wq hbq hh K hK
                  have e5 := hh.1
                  simp only [pick] at e5
                  replace e5 : t 5 = (.bool false) := e5
                  have e9 := hh.2.1
                  simp only [pick] at e9
                  replace e9 : t 9 = (.bool false) := e9
                  clear hh
                  simp only [filled, upd, Have, is, any, row, pick, Act.put, List.setIfInBounds_toArray, List.set_cons_zero, List.set_cons_succ, Nat.reduceAdd, Nat.reduceEqDiff, reduceIte] at hK ⊢
                  simp only [e5, e9] at hK ⊢
                  go_simp
                  exact hK _ _ (Below.refl _ _) rfl
                · intro t wq hbq hh K hK
                  have e10 := hh.1
                  simp only [pick] at e10
                  replace e10 : t 10 = (.bool false) := e10
                  clear hh
                  simp only [filled, upd, Have, is, any, row, pick, Act.put, List.setIfInBounds_toArray, List.set_cons_zero, List.set_cons_succ, Nat.reduceAdd, Nat.reduceEqDiff, reduceIte] at hK ⊢
                  simp only [e10] at hK ⊢
                  go_simp
                  exact hK _ _ (Below.refl _ _) rfl
                · intro t wq hbq hh K hK
                  have e11 := hh.1
                  simp only [pick] at e11
                  replace e11 : t 11 = (.bool false) := e11
                  clear hh
                  simp only [filled, upd, Have, is, any, row, pick, Act.put, List.setIfInBounds_toArray, List.set_cons_zero, List.set_cons_succ, Nat.reduceAdd, Nat.reduceEqDiff, reduceIte] at hK ⊢
                  simp only [e11] at hK ⊢
                  go_simp
                  exact hK _ _ (Below.refl _ _) rfl
                · intro t wq hbq hh K hK
                  have e11 := hh.1
                  simp only [pick] at e11
                  replace e11 : t 11 = (.bool false) := e11
                  have e12 := hh.2.1
                  simp only [pick] at e12
                  replace e12 : t 12 = (.int .i64 ((m.tbl.length : Int) + 1)) := e12
                  clear hh
                  simp only [filled, upd, Have, is, any, row, pick, Act.put, List.setIfInBounds_toArray, List.set_cons_zero, List.set_cons_succ, Nat.reduceAdd, Nat.reduceEqDiff, reduceIte] at hK ⊢
                  simp only [e11, e12] at hK ⊢
                  have hq := HN2.out.2
                  go_simp
                  first | exact hK _ _ (Below.refl _ _) rfl | exact hK _ _ (Below.refl _ _) (congrArg Value.bool (decide_eq_false (by have := HN2.out; omega)))
                · intro t wq hbq hh K hK
                  have e11 := hh.1
                  simp only [pick] at e11
                  replace e11 : t 11 = (.bool false) := e11
                  have e13 := hh.2.1
                  simp only [pick] at e13
                  replace e13 : t 13 = (.bool false) := e13
                  clear hh
                  simp only [filled, upd, Have, is, any, row, pick, Act.put, List.setIfInBounds_toArray, List.set_cons_zero, List.set_cons_succ, Nat.reduceAdd, Nat.reduceEqDiff, reduceIte] at hK ⊢
                  simp only [e11, e13] at hK ⊢
                  go_simp
                  exact hK _ _ (Below.refl _ _) rfl
              · intro t wq hbq hh
                have f14 := have_get hh 14 (by decide)
                simp only [pick] at f14
                replace f14 : t 14 = (.bool false) := f14
                clear hh
                simp only [filled, upd, Have, is, any, row, pick, Act.put, List.setIfInBounds_toArray, List.set_cons_zero, List.set_cons_succ, Nat.reduceAdd, Nat.reduceEqDiff, reduceIte]
                simp only [f14]
                have HKE := hid (HK9.out.below hbq)
                have HBBE := hid (bel HBB9.out hbq)
                clear hbq
                go_wp2
                go_roundw
                case rel => exact ⟨k + 1, more m g X.data.toList (kd KB.data.toList), by omega, by go_num, (by first | rfl | exact HVN.out), (by first | rfl | exact HVH.out), HL2.out, HM2.out, HKE.out, HBBE.out⟩
                case measure => simp [intOf]; omega
        · skip
          have hmod : ((o.k : Nat) : Int).tmod 2 = 1 := by rw [Int.tmod_eq_emod_of_nonneg (by omega)]; omega
          clear hpar
          cases hi : TbK.idx m.tbl o.h with
          | none =>
            have HI := hid hi
            clear hi
            go_wp2_with fail
            clear hmod c0 c1 c2 c3
            refine (forget_no w3.heap.size gs gt gu gm m o.h _ HK6.out HI.out).mono ?_
            rintro e w8 ⟨rfl, hK, hb8, _⟩
            have HK9 := hid hK
            have HBB9 : Hid (Below w3.heap.size w3 w8) := HBB6.out.trans hb8
            have htl : (m.tbl.length : Int) ≤ 64 := by have h1 := HK6.out.fit.tn; have h2 := HM.out.2.1; have h3 := HCAPS.out.2.1; omega
            clear hK hb8 HK6 HBB6 HOA6
            skip
            have HM2 : Hid ((m : SM).bytes = by_ ∧ (m : SM).bcap = b ∧ (m : SM).ucap = u) := HM.out
            have HT2 : Hid (¬ (by_ : Int) < (total (m) : Int)) := by have h1 := HK9.out.fit.sum; have h2 := HM2.out.1; show ¬ _; omega
            have HVN : Hid (Value.int .i64 (m.last : Int) = .int .i64 ((m : SM).last : Int)) := rfl
            have HVH : Hid (Value.int .i64 (m.tbl.length : Int) = .int .i64 ((m : SM).tbl.length : Int)) := rfl
            have HL2 : Hid ((m : SM).last ≤ k + 1) := by have := HLAST.out; show m.last ≤ _; omega
            have HN2 : Hid (¬ (b : Int) < (m.tbl.length : Int) ∧ ¬ (m.tbl.length : Int) < 0) := by have h1 := HK9.out.fit.tn; have h2 := HM.out.2.1; show _ ∧ _; omega
            go_upto_region 24 with (fail)
            clear htl
            refine wp_region_rel (by kernel_rfl) [is (.pointer (some ⟨gs, 0, none⟩)), is (.int .i64 (total (m) : Int)), is (.pointer (some ⟨gC, 2, none⟩)), is (.int .i64 (by_ : Int)), is (.bool false), is (.bool false), is (.int .i64 (m.tbl.length : Int)), is (.pointer (some ⟨gC, 0, none⟩)), is (.int .i64 (b : Int)), is (.bool false), is (.bool false), is (.bool false), is (.int .i64 (m.tbl.length : Int)), is (.bool false), is (.bool false)] [[], [0], [], [2], [1, 3], [4], [5], [5], [5, 7], [5, 6, 8], [5, 9], [10], [11], [11, 12], [11, 13]] (by kernel_rfl) ?_ ?_
            · refine ⟨?_, ?_, ?_, ?_, ?_, ?_, ?_, ?_, ?_, ?_, ?_, ?_, ?_, ?_, ?_, trivial⟩
              · intro t wq hbq hh K hK
                clear hh
                simp only [filled, upd, Have, is, any, row, pick, Act.put, List.setIfInBounds_toArray, List.set_cons_zero, List.set_cons_succ, Nat.reduceAdd, Nat.reduceEqDiff, reduceIte] at hK ⊢
                go_simp
                exact hK _ _ (Below.refl _ _) rfl
              · intro t wq hbq hh K hK
                have e0 := hh.1
                simp only [pick] at e0
                replace e0 : t 0 = (.pointer (some ⟨gs, 0, none⟩)) := e0
                clear hh
                simp only [filled, upd, Have, is, any, row, pick, Act.put, List.setIfInBounds_toArray, List.set_cons_zero, List.set_cons_succ, Nat.reduceAdd, Nat.reduceEqDiff, reduceIte] at hK ⊢
                simp only [e0] at hK ⊢
                go_simp
                refine (bytes_any w3.heap.size gs gt gu gm _ _ (HK9.out.below hbq)).mono ?_
                rintro e w9 ⟨rfl, hb9⟩
                exact hK _ _ hb9 rfl
              · intro t wq hbq hh K hK
                clear hh
                simp only [filled, upd, Have, is, any, row, pick, Act.put, List.setIfInBounds_toArray, List.set_cons_zero, List.set_cons_succ, Nat.reduceAdd, Nat.reduceEqDiff, reduceIte] at hK ⊢
                go_simp
                exact hK _ _ (Below.refl _ _) rfl
              · intro t wq hbq hh K hK
                have e2 := hh.1
                simp only [pick] at e2
                replace e2 : t 2 = (.pointer (some ⟨gC, 2, none⟩)) := e2
                clear hh
                simp only [filled, upd, Have, is, any, row, pick, Act.put, List.setIfInBounds_toArray, List.set_cons_zero, List.set_cons_succ, Nat.reduceAdd, Nat.reduceEqDiff, reduceIte] at hK ⊢
                simp only [e2] at hK ⊢
                have hq : wq.cell? ⟨gC, 2, none⟩ = some (.int .i64 (by_ : Int)) := (cell_of_row wq gC 2 _ _ _ (CB.below (HCB.out.below HBB9.out) hbq)).trans rfl
                go_simp
                exact hK _ _ (Below.refl _ _) rfl
              · intro t wq hbq hh K hK
                have e1 := hh.1
                simp only [pick] at e1
                replace e1 : t 1 = (.int .i64 (total (m) : Int)) := e1
                have e3 := hh.2.1
                simp only [pick] at e3
                replace e3 : t 3 = (.int .i64 (by_ : Int)) := e3
                clear hh
                simp only [filled, upd, Have, is, any, row, pick, Act.put, List.setIfInBounds_toArray, List.set_cons_zero, List.set_cons_succ, Nat.reduceAdd, Nat.reduceEqDiff, reduceIte] at hK ⊢
                simp only [e1, e3] at hK ⊢
                have hq := HT2.out
                have hqn : ¬ by_ < total (m) := by omega
                go_simp
                exact hK _ _ (Below.refl _ _) rfl
              · intro t wq hbq hh K hK
                have e4 := hh.1
                simp only [pick] at e4
                replace e4 : t 4 = (.bool false) := e4
                clear hh
                simp only [filled, upd, Have, is, any, row, pick, Act.put, List.setIfInBounds_toArray, List.set_cons_zero, List.set_cons_succ, Nat.reduceAdd, Nat.reduceEqDiff, reduceIte] at hK ⊢
                simp only [e4] at hK ⊢
                go_simp
                exact hK _ _ (Below.refl _ _) rfl
              · intro t wq hbq hh K hK
                have e5 := hh.1
                simp only [pick] at e5
                replace e5 : t 5 = (.bool false) := e5
                clear hh
                simp only [filled, upd, Have, is, any, row, pick, Act.put, List.setIfInBounds_toArray, List.set_cons_zero, List.set_cons_succ, Nat.reduceAdd, Nat.reduceEqDiff, reduceIte] at hK ⊢
                simp only [e5] at hK ⊢
                go_simp
                exact hK _ _ (Below.refl _ _) rfl
              · intro t wq hbq hh K hK
                have e5 := hh.1
                simp only [pick] at e5
                replace e5 : t 5 = (.bool false) := e5
                clear hh
                simp only [filled, upd, Have, is, any, row, pick, Act.put, List.setIfInBounds_toArray, List.set_cons_zero, List.set_cons_succ, Nat.reduceAdd, Nat.reduceEqDiff, reduceIte] at hK ⊢
                simp only [e5] at hK ⊢
                go_simp
                exact hK _ _ (Below.refl _ _) rfl
              · intro t wq hbq hh K hK
                have e5 := hh.1
                simp only [pick] at e5
                replace e5 : t 5 = (.bool false) := e5
                have e7 := hh.2.1
                simp only [pick] at e7
                replace e7 : t 7 = (.pointer (some ⟨gC, 0, none⟩)) := e7
                clear hh
                simp only [filled, upd, Have, is, any, row, pick, Act.put, List.setIfInBounds_toArray, List.set_cons_zero, List.set_cons_succ, Nat.reduceAdd, Nat.reduceEqDiff, reduceIte] at hK ⊢
                simp only [e5, e7] at hK ⊢
                have hq : wq.cell? ⟨gC, 0, none⟩ = some (.int .i64 (b : Int)) := (cell_of_row wq gC 0 _ _ _ (CB.below (HCB.out.below HBB9.out) hbq)).trans rfl
                go_simp
                exact hK _ _ (Below.refl _ _) rfl
              · intro t wq hbq hh K hK
                have e5 := hh.1
                simp only [pick] at e5
                replace e5 : t 5 = (.bool false) := e5
                have e6 := hh.2.1
                simp only [pick] at e6
                replace e6 : t 6 = (.int .i64 (m.tbl.length : Int)) := e6
                have e8 := hh.2.2.1
                simp only [pick] at e8
                replace e8 : t 8 = (.int .i64 (b : Int)) := e8
                clear hh
                simp only [filled, upd, Have, is, any, row, pick, Act.put, List.setIfInBounds_toArray, List.set_cons_zero, List.set_cons_succ, Nat.reduceAdd, Nat.reduceEqDiff, reduceIte] at hK ⊢
                simp only [e5, e6, e8] at hK ⊢
                have hq := HN2.out.1
                have hqn : ¬ b < m.tbl.length := by omega
                go_simp
                first | exact hK _ _ (Below.refl _ _) rfl | exact hK _ _ (Below.refl _ _) (congrArg Value.bool (decide_eq_false (by have := HN2.out; omega)))
              · intro t wq hbq hh K hK
                have e5 := hh.1
                simp only [pick] at e5
                replace e5 : t 5 = (.bool false) := e5
                have e9 := hh.2.1
                simp only [pick] at e9
                replace e9 : t 9 = (.bool false) := e9
                clear hh
                simp only [filled, upd, Have, is, any, row, pick, Act.put, List.setIfInBounds_toArray, List.set_cons_zero, List.set_cons_succ, Nat.reduceAdd, Nat.reduceEqDiff, reduceIte] at hK ⊢
                simp only [e5, e9] at hK ⊢
                go_simp
                exact hK _ _ (Below.refl _ _) rfl
              · intro t wq hbq hh K hK
                have e10 := hh.1
                simp only [pick] at e10
                replace e10 : t 10 = (.bool false) := e10
                clear hh
                simp only [filled, upd, Have, is, any, row, pick, Act.put, List.setIfInBounds_toArray, List.set_cons_zero, List.set_cons_succ, Nat.reduceAdd, Nat.reduceEqDiff, reduceIte] at hK ⊢
                simp only [e10] at hK ⊢
                go_simp
                exact hK _ _ (Below.refl _ _) rfl
              · intro t wq hbq hh K hK
                have e11 := hh.1
                simp only [pick] at e11
                replace e11 : t 11 = (.bool false) := e11
                clear hh
                simp only [filled, upd, Have, is, any, row, pick, Act.put, List.setIfInBounds_toArray, List.set_cons_zero, List.set_cons_succ, Nat.reduceAdd, Nat.reduceEqDiff, reduceIte] at hK ⊢
                simp only [e11] at hK ⊢
                go_simp
                exact hK _ _ (Below.refl _ _) rfl
              · intro t wq hbq hh K hK
                have e11 := hh.1
                simp only [pick] at e11
                replace e11 : t 11 = (.bool false) := e11
                have e12 := hh.2.1
                simp only [pick] at e12
                replace e12 : t 12 = (.int .i64 (m.tbl.length : Int)) := e12
                clear hh
                simp only [filled, upd, Have, is, any, row, pick, Act.put, List.setIfInBounds_toArray, List.set_cons_zero, List.set_cons_succ, Nat.reduceAdd, Nat.reduceEqDiff, reduceIte] at hK ⊢
                simp only [e11, e12] at hK ⊢
                have hq := HN2.out.2
                go_simp
                first | exact hK _ _ (Below.refl _ _) rfl | exact hK _ _ (Below.refl _ _) (congrArg Value.bool (decide_eq_false (by have := HN2.out; omega)))
              · intro t wq hbq hh K hK
                have e11 := hh.1
                simp only [pick] at e11
                replace e11 : t 11 = (.bool false) := e11
                have e13 := hh.2.1
                simp only [pick] at e13
                replace e13 : t 13 = (.bool false) := e13
                clear hh
                simp only [filled, upd, Have, is, any, row, pick, Act.put, List.setIfInBounds_toArray, List.set_cons_zero, List.set_cons_succ, Nat.reduceAdd, Nat.reduceEqDiff, reduceIte] at hK ⊢
                simp only [e11, e13] at hK ⊢
                go_simp
                exact hK _ _ (Below.refl _ _) rfl
            · intro t wq hbq hh
              have f14 := have_get hh 14 (by decide)
              simp only [pick] at f14
              replace f14 : t 14 = (.bool false) := f14
              clear hh
              simp only [filled, upd, Have, is, any, row, pick, Act.put, List.setIfInBounds_toArray, List.set_cons_zero, List.set_cons_succ, Nat.reduceAdd, Nat.reduceEqDiff, reduceIte]
              simp only [f14]
              have HKE := hid (HK9.out.below hbq)
              have HBBE := hid (bel HBB9.out hbq)
              clear hbq
              go_wp2
              go_roundw
              case rel => exact ⟨k + 1, m, by omega, by go_num, (by first | rfl | exact HVN.out), (by first | rfl | exact HVH.out), HL2.out, HM2.out, HKE.out, HBBE.out⟩
              case measure => simp [intOf]; omega
          | some j =>
            have HI := hid hi
            have HJ : Hid (j < m.tbl.length) := (TbK.idx_some hi).1
            clear hi
            go_wp2_with fail
            clear hmod c0 c1 c2 c3
            refine (forget_yes w3.heap.size gs gt gu gm m o.h j _ HK6.out HI.out).mono ?_
            rintro e w8 ⟨rfl, hK, hb8, _⟩
            have HK9 := hid hK
            have HBB9 : Hid (Below w3.heap.size w3 w8) := HBB6.out.trans hb8
            have htl : (m.tbl.length : Int) ≤ 64 := by have h1 := HK6.out.fit.tn; have h2 := HM.out.2.1; have h3 := HCAPS.out.2.1; omega
            clear hK hb8 HK6 HBB6 HOA6
            skip
            have HM2 : Hid (({ m with tbl := m.tbl.eraseIdx j } : SM).bytes = by_ ∧ ({ m with tbl := m.tbl.eraseIdx j } : SM).bcap = b ∧ ({ m with tbl := m.tbl.eraseIdx j } : SM).ucap = u) := HM.out
            have HT2 : Hid (¬ (by_ : Int) < (total ({ m with tbl := m.tbl.eraseIdx j }) : Int)) := by have h1 := HK9.out.fit.sum; have h2 := HM2.out.1; show ¬ _; omega
            have HVN : Hid (Value.int .i64 (m.last : Int) = .int .i64 (({ m with tbl := m.tbl.eraseIdx j } : SM).last : Int)) := rfl
            have HVH : Hid (Value.int .i64 ((m.tbl.length : Int) - 1) = .int .i64 (({ m with tbl := m.tbl.eraseIdx j } : SM).tbl.length : Int)) := by have := HJ.out; show _ = Value.int .i64 ((m.tbl.eraseIdx j).length : Int); rw [List.length_eraseIdx, if_pos HJ.out]; congr 1; omega
            have HL2 : Hid (({ m with tbl := m.tbl.eraseIdx j } : SM).last ≤ k + 1) := by have := HLAST.out; show m.last ≤ _; omega
            have HN2 : Hid (¬ (b : Int) < ((m.tbl.length : Int) - 1) ∧ ¬ ((m.tbl.length : Int) - 1) < 0) := by have h0 := HJ.out; have h1 := HK9.out.fit.tn; have h2 := HM.out.2.1; have h4 : (m.tbl.eraseIdx j).length ≤ m.bcap := h1; rw [List.length_eraseIdx, if_pos HJ.out] at h4; show _ ∧ _; omega
            go_upto_region 24 with (fail)
            clear htl
            refine wp_region_rel (by kernel_rfl) [is (.pointer (some ⟨gs, 0, none⟩)), is (.int .i64 (total ({ m with tbl := m.tbl.eraseIdx j }) : Int)), is (.pointer (some ⟨gC, 2, none⟩)), is (.int .i64 (by_ : Int)), is (.bool false), is (.bool false), is (.int .i64 ((m.tbl.length : Int) - 1)), is (.pointer (some ⟨gC, 0, none⟩)), is (.int .i64 (b : Int)), is (.bool false), is (.bool false), is (.bool false), is (.int .i64 ((m.tbl.length : Int) - 1)), is (.bool false), is (.bool false)] [[], [0], [], [2], [1, 3], [4], [5], [5], [5, 7], [5, 6, 8], [5, 9], [10], [11], [11, 12], [11, 13]] (by kernel_rfl) ?_ ?_
            · refine ⟨?_, ?_, ?_, ?_, ?_, ?_, ?_, ?_, ?_, ?_, ?_, ?_, ?_, ?_, ?_, trivial⟩
              · intro t wq hbq hh K hK
                clear hh
                simp only [filled, upd, Have, is, any, row, pick, Act.put, List.setIfInBounds_toArray, List.set_cons_zero, List.set_cons_succ, Nat.reduceAdd, Nat.reduceEqDiff, reduceIte] at hK ⊢
                go_simp
                exact hK _ _ (Below.refl _ _) rfl
              · intro t wq hbq hh K hK
                have e0 := hh.1
                simp only [pick] at e0
                replace e0 : t 0 = (.pointer (some ⟨gs, 0, none⟩)) := e0
                clear hh
                simp only [filled, upd, Have, is, any, row, pick, Act.put, List.setIfInBounds_toArray, List.set_cons_zero, List.set_cons_succ, Nat.reduceAdd, Nat.reduceEqDiff, reduceIte] at hK ⊢
                simp only [e0] at hK ⊢
                go_simp
                refine (bytes_any w3.heap.size gs gt gu gm _ _ (HK9.out.below hbq)).mono ?_
                rintro e w9 ⟨rfl, hb9⟩
                exact hK _ _ hb9 rfl
              · intro t wq hbq hh K hK
                clear hh
                simp only [filled, upd, Have, is, any, row, pick, Act.put, List.setIfInBounds_toArray, List.set_cons_zero, List.set_cons_succ, Nat.reduceAdd, Nat.reduceEqDiff, reduceIte] at hK ⊢
                go_simp
                exact hK _ _ (Below.refl _ _) rfl
              · intro t wq hbq hh K hK
                have e2 := hh.1
                simp only [pick] at e2
                replace e2 : t 2 = (.pointer (some ⟨gC, 2, none⟩)) := e2
                clear hh
                simp only [filled, upd, Have, is, any, row, pick, Act.put, List.setIfInBounds_toArray, List.set_cons_zero, List.set_cons_succ, Nat.reduceAdd, Nat.reduceEqDiff, reduceIte] at hK ⊢
                simp only [e2] at hK ⊢
                have hq : wq.cell? ⟨gC, 2, none⟩ = some (.int .i64 (by_ : Int)) := (cell_of_row wq gC 2 _ _ _ (CB.below (HCB.out.below HBB9.out) hbq)).trans rfl
                go_simp
                exact hK _ _ (Below.refl _ _) rfl
              · intro t wq hbq hh K hK
                have e1 := hh.1
                simp only [pick] at e1
                replace e1 : t 1 = (.int .i64 (total ({ m with tbl := m.tbl.eraseIdx j }) : Int)) := e1
                have e3 := hh.2.1
                simp only [pick] at e3
                replace e3 : t 3 = (.int .i64 (by_ : Int)) := e3
                clear hh
                simp only [filled, upd, Have, is, any, row, pick, Act.put, List.setIfInBounds_toArray, List.set_cons_zero, List.set_cons_succ, Nat.reduceAdd, Nat.reduceEqDiff, reduceIte] at hK ⊢
                simp only [e1, e3] at hK ⊢
                have hq := HT2.out
                have hqn : ¬ by_ < total ({ m with tbl := m.tbl.eraseIdx j }) := by omega
                go_simp
                exact hK _ _ (Below.refl _ _) rfl
              · intro t wq hbq hh K hK
                have e4 := hh.1
                simp only [pick] at e4
                replace e4 : t 4 = (.bool false) := e4
                clear hh
                simp only [filled, upd, Have, is, any, row, pick, Act.put, List.setIfInBounds_toArray, List.set_cons_zero, List.set_cons_succ, Nat.reduceAdd, Nat.reduceEqDiff, reduceIte] at hK ⊢
                simp only [e4] at hK ⊢
                go_simp
                exact hK _ _ (Below.refl _ _) rfl
              · intro t wq hbq hh K hK
                have e5 := hh.1
                simp only [pick] at e5
                replace e5 : t 5 = (.bool false) := e5
                clear hh
                simp only [filled, upd, Have, is, any, row, pick, Act.put, List.setIfInBounds_toArray, List.set_cons_zero, List.set_cons_succ, Nat.reduceAdd, Nat.reduceEqDiff, reduceIte] at hK ⊢
                simp only [e5] at hK ⊢
                go_simp
                exact hK _ _ (Below.refl _ _) rfl
              · intro t wq hbq hh K hK
                have e5 := hh.1
                simp only [pick] at e5
                replace e5 : t 5 = (.bool false) := e5
                clear hh
                simp only [filled, upd, Have, is, any, row, pick, Act.put, List.setIfInBounds_toArray, List.set_cons_zero, List.set_cons_succ, Nat.reduceAdd, Nat.reduceEqDiff, reduceIte] at hK ⊢
                simp only [e5] at hK ⊢
                go_simp
                exact hK _ _ (Below.refl _ _) rfl
              · intro t wq hbq hh K hK
                have e5 := hh.1
                simp only [pick] at e5
                replace e5 : t 5 = (.bool false) := e5
                have e7 := hh.2.1
                simp only [pick] at e7
                replace e7 : t 7 = (.pointer (some ⟨gC, 0, none⟩)) := e7
                clear hh
                simp only [filled, upd, Have, is, any, row, pick, Act.put, List.setIfInBounds_toArray, List.set_cons_zero, List.set_cons_succ, Nat.reduceAdd, Nat.reduceEqDiff, reduceIte] at hK ⊢
                simp only [e5, e7] at hK ⊢
                have hq : wq.cell? ⟨gC, 0, none⟩ = some (.int .i64 (b : Int)) := (cell_of_row wq gC 0 _ _ _ (CB.below (HCB.out.below HBB9.out) hbq)).trans rfl
                go_simp
                exact hK _ _ (Below.refl _ _) rfl
              · intro t wq hbq hh K hK
                have e5 := hh.1
                simp only [pick] at e5
                replace e5 : t 5 = (.bool false) := e5
                have e6 := hh.2.1
                simp only [pick] at e6
                replace e6 : t 6 = (.int .i64 ((m.tbl.length : Int) - 1)) := e6
                have e8 := hh.2.2.1
                simp only [pick] at e8
                replace e8 : t 8 = (.int .i64 (b : Int)) := e8
                clear hh
                simp only [filled, upd, Have, is, any, row, pick, Act.put, List.setIfInBounds_toArray, List.set_cons_zero, List.set_cons_succ, Nat.reduceAdd, Nat.reduceEqDiff, reduceIte] at hK ⊢
                simp only [e5, e6, e8] at hK ⊢
                have hq := HN2.out.1
                have hqn : ¬ b < m.tbl.length - 1 := by omega
                go_simp
                first | exact hK _ _ (Below.refl _ _) rfl | exact hK _ _ (Below.refl _ _) (congrArg Value.bool (decide_eq_false (by have := HN2.out; omega)))
              · intro t wq hbq hh K hK
                have e5 := hh.1
                simp only [pick] at e5
                replace e5 : t 5 = (.bool false) := e5
                have e9 := hh.2.1
                simp only [pick] at e9
                replace e9 : t 9 = (.bool false) := e9
                clear hh
                simp only [filled, upd, Have, is, any, row, pick, Act.put, List.setIfInBounds_toArray, List.set_cons_zero, List.set_cons_succ, Nat.reduceAdd, Nat.reduceEqDiff, reduceIte] at hK ⊢
                simp only [e5, e9] at hK ⊢
                go_simp
                exact hK _ _ (Below.refl _ _) rfl
              · intro t wq hbq hh K hK
                have e10 := hh.1
                simp only [pick] at e10
                replace e10 : t 10 = (.bool false) := e10
                clear hh
                simp only [filled, upd, Have, is, any, row, pick, Act.put, List.setIfInBounds_toArray, List.set_cons_zero, List.set_cons_succ, Nat.reduceAdd, Nat.reduceEqDiff, reduceIte] at hK ⊢
                simp only [e10] at hK ⊢
                go_simp
                exact hK _ _ (Below.refl _ _) rfl
              · intro t wq hbq hh K hK
                have e11 := hh.1
                simp only [pick] at e11
                replace e11 : t 11 = (.bool false) := e11
                clear hh
                simp only [filled, upd, Have, is, any, row, pick, Act.put, List.setIfInBounds_toArray, List.set_cons_zero, List.set_cons_succ, Nat.reduceAdd, Nat.reduceEqDiff, reduceIte] at hK ⊢
                simp only [e11] at hK ⊢
                go_simp
                exact hK _ _ (Below.refl _ _) rfl
              · intro t wq hbq hh K hK
                have e11 := hh.1
                simp only [pick] at e11
                replace e11 : t 11 = (.bool false) := e11
                have e12 := hh.2.1
                simp only [pick] at e12
                replace e12 : t 12 = (.int .i64 ((m.tbl.length : Int) - 1)) := e12
                clear hh
                simp only [filled, upd, Have, is, any, row, pick, Act.put, List.setIfInBounds_toArray, List.set_cons_zero, List.set_cons_succ, Nat.reduceAdd, Nat.reduceEqDiff, reduceIte] at hK ⊢
                simp only [e11, e12] at hK ⊢
                have hq := HN2.out.2
                go_simp
                first | exact hK _ _ (Below.refl _ _) rfl | exact hK _ _ (Below.refl _ _) (congrArg Value.bool (decide_eq_false (by have := HN2.out; omega)))
              · intro t wq hbq hh K hK
                have e11 := hh.1
                simp only [pick] at e11
                replace e11 : t 11 = (.bool false) := e11
                have e13 := hh.2.1
                simp only [pick] at e13
                replace e13 : t 13 = (.bool false) := e13
                clear hh
                simp only [filled, upd, Have, is, any, row, pick, Act.put, List.setIfInBounds_toArray, List.set_cons_zero, List.set_cons_succ, Nat.reduceAdd, Nat.reduceEqDiff, reduceIte] at hK ⊢
                simp only [e11, e13] at hK ⊢
                go_simp
                exact hK _ _ (Below.refl _ _) rfl
            · intro t wq hbq hh
              have f14 := have_get hh 14 (by decide)
              simp only [pick] at f14
              replace f14 : t 14 = (.bool false) := f14
              clear hh
              simp only [filled, upd, Have, is, any, row, pick, Act.put, List.setIfInBounds_toArray, List.set_cons_zero, List.set_cons_succ, Nat.reduceAdd, Nat.reduceEqDiff, reduceIte]
              simp only [f14]
              have HKE := hid (HK9.out.below hbq)
              have HBBE := hid (bel HBB9.out hbq)
              clear hbq
              go_wp2
              go_roundw
              case rel => exact ⟨k + 1, { m with tbl := m.tbl.eraseIdx j }, by omega, by go_num, (by first | rfl | exact HVN.out), (by first | rfl | exact HVH.out), HL2.out, HM2.out, HKE.out, HBBE.out⟩
              case measure => simp [intOf]; omega
      · obtain rfl : k = n := by omega
        have HBF : Hid (Below w.heap.size w wr) := bel HB3.out HBB.out
        go_wp2
        go_ret
        exact ⟨rfl, HBF.out⟩
end Go.Proofs.YtegpfgccaminkaaGreatDoor.Laws
