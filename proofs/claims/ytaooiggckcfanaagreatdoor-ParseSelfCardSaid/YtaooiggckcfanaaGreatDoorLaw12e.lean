/- The law ParseSelf, walked. -/
import Derived.Test.YtaooiggckcfanaaGreatDoorMS
import Derived.Test.YtaooiggckcfanaaGreatDoorMR
namespace Go.Proofs.YtaooiggckcfanaaGreatDoor.Laws
open Go.RowKit Go.Proofs.YtaooiggckcfanaaGreatDoor.Base Go.Proofs.YtaooiggckcfanaaGreatDoor.Base2 Go.Proofs.YtaooiggckcfanaaGreatDoor.UtfL Go.Proofs.YtaooiggckcfanaaGreatDoor.UrlA Go.Proofs.YtaooiggckcfanaaGreatDoor.UrlC Go.Proofs.YtaooiggckcfanaaGreatDoor.UrlF Go.Proofs.YtaooiggckcfanaaGreatDoor.HstC Go.Proofs.YtaooiggckcfanaaGreatDoor.PrsP Go.Proofs.YtaooiggckcfanaaGreatDoor.Ubx Go.Proofs.YtaooiggckcfanaaGreatDoor.PrsC Go.Proofs.YtaooiggckcfanaaGreatDoor.PrsD Go.Proofs.YtaooiggckcfanaaGreatDoor.SixG Go.Proofs.YtaooiggckcfanaaGreatDoor.Spl Go.Proofs.YtaooiggckcfanaaGreatDoor.PrsG Go.Proofs.YtaooiggckcfanaaGreatDoor.PrsR Go.Proofs.YtaooiggckcfanaaGreatDoor.PrsS Go.Proofs.YtaooiggckcfanaaGreatDoor.PrsV Go.Proofs.YtaooiggckcfanaaGreatDoor.PrsY Go.Proofs.YtaooiggckcfanaaGreatDoor.Ulw Go.Proofs.YtaooiggckcfanaaGreatDoor.PrsW Go.Proofs.YtaooiggckcfanaaGreatDoor.Regs Go.Proofs.YtaooiggckcfanaaGreatDoor.PrsT Go.Proofs.YtaooiggckcfanaaGreatDoor.PrsU

set_option linter.unusedSimpArgs false in
set_option maxRecDepth 100000 in
set_option maxHeartbeats 8000000 in
theorem ParseSelf_any (s0 s1 : ByteArray) (w : World) (h0 : s0.size ≤ 140737488351232) (h1 : s1.size ≤ 140737488351232) (hT : Tab.Pow w) (hL : Lad w) (hM : Max w) (hU : Utab w) : Calls Tryz.prog 9 #[.string s0, .string s1] w fun e w' => e = .returned (.bool true) ∧ Below w.heap.size w w' := by
  have HE := hid (⟨hT, hL, hM, hU⟩ : Env w)
  have HAW : Hid (∀ w : World, Env w → Calls Tryz.prog 15 #[] w fun e w' => e = .returned (.bool true) ∧ Below w.heap.size w w') := fun w E => awake_any w E
  clear hT hL hM hU
  by_cases hl0 : s0.size ≤ 1000
  · have hli0 : ¬ (1000 : Int) < (s0.size : Int) := by omega
    by_cases hl1 : s1.size ≤ 100
    · have hli1 : ¬ (100 : Int) < (s1.size : Int) := by omega
      obtain ⟨u0, hu0⟩ : ∃ u0, u0 = U0 := ⟨_, rfl⟩
      have HU0 := hid hu0
      have HU0S : Hid (u0.sch = []) := by show _ = _; rw [hu0]; rfl
      clear hu0
      obtain ⟨J, hJ⟩ : ∃ J, J = strOf ([35] ++ s1.data.toList) := ⟨_, rfl⟩
      have hJd : J.data.toList = [35] ++ s1.data.toList := by rw [hJ]; rfl
      have hJs : J.size ≤ 65536 := by rw [hJ, size_strOf, List.length_append, Ulw.dl]; simp only [List.length_cons, List.length_nil]; omega
      have a0 : ∀ w, (Op.stringOp .add ⟨#[35]⟩ s1).run Tryz.prog w = .ok (.string J) w := fun w => by
        have h := str_add' (P := Tryz.prog) ⟨#[35]⟩ s1 w (by show 1 + s1.size ≤ _; omega)
        rw [h, hJ]
      have HJD := hid hJd
      have HJS := hid hJs
      clear hJd hJs hJ h0 h1
      cases e1 : PrsP.url s0.data.toList none with
      | none =>
        have HP1 : Hid (∀ w, Env w → Calls Tryz.prog 16 #[.string s0, .pointer none] w fun e w' => ∃ A' n' c', e = .returned (.tuple #[.agg #[.string (strOf u0.sch), .string (strOf u0.usr), .string (strOf u0.pwd), .string (strOf u0.hst), .bool u0.hh, .int .i64 u0.port, .bool u0.opq, .string (strOf u0.txt), .slice A' n' c', .bool u0.hq, .bool u0.hf, .string (strOf u0.qry), .string (strOf u0.frg)], .int .i64 2]) ∧ Pt w' u0 A' n' c' ∧ Below w.heap.size w w') := fun w E => parse_none HU0.out e1 (by omega) w E
        clear e1
        go_enter Tryz.func9, Tryz.ntmps9
        go_wp2_with fail
        refine (HAW.out _ HE.out).mono ?_
        rintro e w1 ⟨rfl, hb⟩
        have HB1 := hid hb
        have E_1 := hid (HE.out.below hb)
        clear hb
        go_wp2_with fail
        refine (HP1.out _ E_1.out).mono ?_
        rintro e w2 ⟨A1, n1, c1, rfl, hpt, hb⟩
        have HB2 := hid (bel HB1.out hb)
        have E_2 := hid (E_1.out.below hb)
        clear hb
        have T1 := hid (hpt)
        clear hpt
        go_upto_region 4 with (fail)
        generalize hwa : World.alloc _ _ = v3
        have hxa : UB v3 (w2.heap.size) u0 (.slice A1 n1 c1) := by rw [← hwa]; exact heap_alloc_new _ _
        have hb : Below w2.heap.size w2 v3 := by rw [← hwa]; exact (Below.refl _ _).alloc (Nat.le_refl _) _
        have X1 := hid hxa
        clear hwa hxa
        have HB3 := hid (bel HB2.out hb)
        have E_3 := hid (E_2.out.below hb)
        have T1_3 := hid (T1.out.below hb)
        clear hb
        go_wp2
        go_ret
        exact ⟨rfl, HB3.out⟩
      | some b =>
        have HP1 : Hid (∀ w, Env w → Calls Tryz.prog 16 #[.string s0, .pointer none] w fun e w' => ∃ A' n' c', e = .returned (.tuple #[.agg #[.string (strOf b.sch), .string (strOf b.usr), .string (strOf b.pwd), .string (strOf b.hst), .bool b.hh, .int .i64 b.port, .bool b.opq, .string (strOf b.txt), .slice A' n' c', .bool b.hq, .bool b.hf, .string (strOf b.qry), .string (strOf b.frg)], .int .i64 0]) ∧ Pt w' b A' n' c' ∧ Below w.heap.size w w') := fun w E => parse_some e1 (by omega) w E
        have f1 := url_fit (M := 0) e1 (fun _ e => by cases e)
        have hsz : s0.data.toList.length ≤ 1000 := by rw [Ulw.dl]; exact hl0
        have fb := f1.mono (show 0 + 15 * s0.data.toList.length + 300 ≤ 15300 by omega)
        have HF1 := hid fb
        clear e1 f1 hsz
        have hbl : (bareU b).length ≤ 15360 := by
          have h := print_len fb
          rw [printU_eq, List.length_append] at h
          omega
        obtain ⟨BL, hBL⟩ : ∃ L, L = bareU b := ⟨_, rfl⟩
        rw [← hBL] at hbl
        obtain ⟨BM, hBM⟩ : ∃ L, L = BL ++ [35] := ⟨_, rfl⟩
        obtain ⟨PV, hPV⟩ : ∃ L, L = BM ++ s1.data.toList := ⟨_, rfl⟩
        have a1 : ∀ w, (Op.stringOp .add (strOf BL) ⟨#[35]⟩).run Tryz.prog w = .ok (.string (strOf BM)) w := fun w => by rw [hBM]; exact str_add' _ ⟨#[35]⟩ w (by rw [size_strOf]; show _ + 1 ≤ _; omega)
        have a2 : ∀ w, (Op.stringOp .add (strOf BM) s1).run Tryz.prog w = .ok (.string (strOf PV)) w := fun w => by rw [hPV]; exact str_add' _ s1 w (by rw [size_strOf, hBM, List.length_append]; simp only [List.length_cons, List.length_nil]; omega)
        have HBA : Hid (∀ (A : Option Addr) (n c : Nat) (w : World), Pt w b A n c → Env w → Calls Tryz.prog 25 #[.agg #[.string (strOf b.sch), .string (strOf b.usr), .string (strOf b.pwd), .string (strOf b.hst), .bool b.hh, .int .i64 b.port, .bool b.opq, .string (strOf b.txt), .slice A n c, .bool b.hq, .bool b.hf, .string (strOf b.qry), .string (strOf b.frg)]] w fun e w' => e = .returned (.string (strOf BL)) ∧ Below w.heap.size w w') := fun A n c w hP E => by rw [hBL]; exact bare_u fb (by decide) A n c w hP E
        have qB : ((strOf BL).toList == (strOf BL).toList) = true := by simp
        have qV : ((strOf PV).toList == (strOf PV).toList) = true := by simp
        cases ho : b.opq with
        | true =>
          obtain ⟨v, hv⟩ : ∃ v : U, v = { b with hf := true, frg := s1.data.toList } := ⟨_, rfl⟩
          have hbv : bareU v = BL := by rw [hv, hBL]; rfl
          have hpv : printU v = PV := by
            rw [printU_eq, hbv, hPV, hBM, hv]
            simp
          have fv : Fit v 15400 := by
            have hq : s1.data.toList.length ≤ 100 := by rw [Ulw.dl]; exact hl1
            have h := fb
            have h2 := h.all
            rw [hv]
            refine ⟨?_, h.lo, h.hi⟩
            simp only [] at h2 ⊢
            omega
          have HPV : Hid (∀ (A : Option Addr) (n c : Nat) (w : World), Pt w v A n c → Env w → Calls Tryz.prog 22 #[.agg #[.string (strOf v.sch), .string (strOf v.usr), .string (strOf v.pwd), .string (strOf v.hst), .bool v.hh, .int .i64 v.port, .bool v.opq, .string (strOf v.txt), .slice A n c, .bool v.hq, .bool v.hf, .string (strOf v.qry), .string (strOf v.frg)]] w fun e w' => e = .returned (.string (strOf PV)) ∧ Below w.heap.size w w') := fun A n c w hP E => by rw [← hpv]; exact print_u fv (by decide) A n c w hP E
          have hu2 : PrsP.url (⟨#[]⟩ : ByteArray).data.toList (some b) = none := by
            have h := PrsU.url_nil b
            rw [ho] at h
            exact h
          have HP2 : Hid (∀ (gb : Nat) (A : Option Addr) (n c : Nat), n ≤ 100000 → ∀ w, UB w gb b (.slice A n c) → Pt w b A n c → Env w → Calls Tryz.prog 16 #[.string ⟨#[]⟩, .pointer (some ⟨gb, 0, none⟩)] w fun e w' => ∃ A' n' c', e = .returned (.tuple #[.agg #[.string (strOf u0.sch), .string (strOf u0.usr), .string (strOf u0.pwd), .string (strOf u0.hst), .bool u0.hh, .int .i64 u0.port, .bool u0.opq, .string (strOf u0.txt), .slice A' n' c', .bool u0.hq, .bool u0.hf, .string (strOf u0.qry), .string (strOf u0.frg)], .int .i64 2]) ∧ Pt w' u0 A' n' c' ∧ Below w.heap.size w w') := fun gb A n c hn w hB hP E => parseB_none HU0.out hu2 (by decide) gb A n c hn w hB hP E
          have hfr : Small s1.data.toList → PrsP.url J.data.toList (some b) = some v := fun h => by
            have h2 := PrsU.url_frag b h
            rw [ho] at h2
            rw [HJD.out, hv]
            exact h2
          have HFR := hid hfr
          clear hfr hu2 hpv fv hbv hv
          have HO := hid ho
          clear fb hBL hbl hBM hPV ho
          go_enter Tryz.func9, Tryz.ntmps9
          go_wp2_with fail
          refine (HAW.out _ HE.out).mono ?_
          rintro e w1 ⟨rfl, hb⟩
          have HB1 := hid hb
          have E_1 := hid (HE.out.below hb)
          clear hb
          go_wp2_with fail
          refine (HP1.out _ E_1.out).mono ?_
          rintro e w2 ⟨A1, n1, c1, rfl, hpt, hb⟩
          have HB2 := hid (bel HB1.out hb)
          have E_2 := hid (E_1.out.below hb)
          clear hb
          have T1 := hid (hpt)
          clear hpt
          go_upto_region 4 with (fail)
          generalize hwa : World.alloc _ _ = v3
          have hxa : UB v3 (w2.heap.size) b (.slice A1 n1 c1) := by rw [← hwa]; exact heap_alloc_new _ _
          have hb : Below w2.heap.size w2 v3 := by rw [← hwa]; exact (Below.refl _ _).alloc (Nat.le_refl _) _
          have X1 := hid hxa
          clear hwa hxa
          have HB3 := hid (bel HB2.out hb)
          have E_3 := hid (E_2.out.below hb)
          have T1_3 := hid (T1.out.below hb)
          clear hb
          go_wp2
          go_loopw [7, 34] (fun _ vk wrc => ∃ j : Nat, j ≤ s1.size ∧ vk = .int .i64 (j : Int) ∧ wrc = v3 ∧ Hid (∀ i (h : i < s1.data.toList.length), i < j → 97 ≤ (s1.data.toList[i]).toNat ∧ (s1.data.toList[i]).toNat ≤ 122)) (fun _ vk _ => s1.size - (intOf vk).toNat)
          case atStart => exact ⟨0, Nat.zero_le _, rfl, rfl, fun i _ h => by omega⟩
          case round =>
            obtain ⟨j, hj, rfl, hwr, HNOc⟩ := hrel
            subst hwr
            by_cases hlt : j < s1.size
            · obtain ⟨x, hx⟩ : ∃ x, s1[j] = x := ⟨_, rfl⟩
              have hxl : s1.data.toList[j]'(by rw [Ulw.dl]; exact hlt) = x := hx
              by_cases h0 : x.toNat < 97
              · have q0 : (x.toNat : Int) < 97 := by omega
                clear hxl
                go_wp2
                go_ret
                exact ⟨rfl, HB3.out⟩
              have q0 : ¬ (x.toNat : Int) < 97 := by omega
              by_cases h1 : 122 < x.toNat
              · have q1 : (122 : Int) < (x.toNat : Int) := by omega
                clear hxl
                go_wp2
                go_ret
                exact ⟨rfl, HB3.out⟩
              have q1 : ¬ (122 : Int) < (x.toNat : Int) := by omega
              have HNO2 : Hid (∀ i (h : i < s1.data.toList.length), i < j + 1 → 97 ≤ (s1.data.toList[i]).toNat ∧ (s1.data.toList[i]).toNat ≤ 122) := by
                intro i h hi
                by_cases hij : i < j
                · exact HNOc.out i h hij
                · obtain rfl : i = j := by omega
                  rw [hxl]
                  exact ⟨by omega, by omega⟩
              clear hxl h0 h1
              go_wp2
              go_roundw
              case rel => exact ⟨j + 1, by omega, by go_num, by first | rfl | trivial, HNO2.out⟩
              case measure => simp [intOf]; omega
            · obtain rfl : j = s1.size := by omega
              have hallc : ∀ c ∈ s1.data.toList, 97 ≤ c.toNat ∧ c.toNat ≤ 122 := fun c hc => by
                obtain ⟨i, hi, rfl⟩ := List.getElem_of_mem hc
                exact HNOc.out i hi (by rw [← Ulw.dl]; exact hi)
              have HALLc := hid hallc
              clear HNOc hallc
              have hP3 := HFR.out HALLc.out
              have HP3 : Hid (∀ (gb : Nat) (A : Option Addr) (n c : Nat), n ≤ 100000 → ∀ w, UB w gb b (.slice A n c) → Pt w b A n c → Env w → Calls Tryz.prog 16 #[.string J, .pointer (some ⟨gb, 0, none⟩)] w fun e w' => ∃ A' n' c', e = .returned (.tuple #[.agg #[.string (strOf v.sch), .string (strOf v.usr), .string (strOf v.pwd), .string (strOf v.hst), .bool v.hh, .int .i64 v.port, .bool v.opq, .string (strOf v.txt), .slice A' n' c', .bool v.hq, .bool v.hf, .string (strOf v.qry), .string (strOf v.frg)], .int .i64 0]) ∧ Pt w' v A' n' c' ∧ Below w.heap.size w w') := fun gb A n c hn w hB hP E => parseB_some hP3 HJS.out gb A n c hn w hB hP E
              clear hP3
              go_wp2_with fail
              refine (HP2.out _ _ _ _ (Nat.le_trans (T1_3.out.len HF1.out) (by decide)) _ X1.out T1_3.out E_3.out).mono ?_
              rintro e w4 ⟨A2, n2, c2, rfl, hpt, hb⟩
              have HB4 := hid (bel HB3.out hb)
              have E_4 := hid (E_3.out.below hb)
              have T1_4 := hid (T1_3.out.below hb)
              have X1_4 := hid (X1.out.below hb)
              clear hb
              have T2 := hid (hpt)
              clear hpt
              go_upto_region 13 with (fail)
              generalize hwa : World.alloc _ _ = v5
              have hxa : UB v5 (w4.heap.size) u0 (.slice A2 n2 c2) := by rw [← hwa]; exact heap_alloc_new _ _
              have hb : Below w4.heap.size w4 v5 := by rw [← hwa]; exact (Below.refl _ _).alloc (Nat.le_refl _) _
              have X2 := hid hxa
              clear hwa hxa
              have HB5 := hid (bel HB4.out hb)
              have E_5 := hid (E_4.out.below hb)
              have T1_5 := hid (T1_4.out.below hb)
              have X1_5 := hid (X1_4.out.below hb)
              have T2_5 := hid (T2.out.below hb)
              clear hb
              go_wp2_with fail
              refine (HP3.out _ _ _ _ (Nat.le_trans (T1_5.out.len HF1.out) (by decide)) _ X1_5.out T1_5.out E_5.out).mono ?_
              rintro e w6 ⟨A3, n3, c3, rfl, hpt, hb⟩
              have HB6 := hid (bel HB5.out hb)
              have E_6 := hid (E_5.out.below hb)
              have T1_6 := hid (T1_5.out.below hb)
              have X1_6 := hid (X1_5.out.below hb)
              have T2_6 := hid (T2_5.out.below hb)
              have X2_6 := hid (X2.out.below hb)
              clear hb
              have T3 := hid (hpt)
              clear hpt
              go_upto_region 14 with (fail)
              generalize hwa : World.alloc _ _ = v7
              have hxa : UB v7 (w6.heap.size) v (.slice A3 n3 c3) := by rw [← hwa]; exact heap_alloc_new _ _
              have hb : Below w6.heap.size w6 v7 := by rw [← hwa]; exact (Below.refl _ _).alloc (Nat.le_refl _) _
              have X3 := hid hxa
              clear hwa hxa
              have HB7 := hid (bel HB6.out hb)
              have E_7 := hid (E_6.out.below hb)
              have T1_7 := hid (T1_6.out.below hb)
              have X1_7 := hid (X1_6.out.below hb)
              have T2_7 := hid (T2_6.out.below hb)
              have X2_7 := hid (X2_6.out.below hb)
              have T3_7 := hid (T3.out.below hb)
              clear hb
              refine wp_region_rel (by kernel_rfl) [is (.pointer (some ⟨w2.heap.size, 6, none⟩)), is (.bool true), is (.bool true), is (.int .i64 2), is (.bool false), is (.bool false), is (.pointer (some ⟨w4.heap.size, 0, none⟩)), is (.string (strOf [])), is (.bool false), is (.bool false), is (.bool false), is (.bool false), is (.pointer (some ⟨w2.heap.size, 6, none⟩)), is (.bool true), is (.bool false), is (.bool false), is (undef), is (undef), is (undef), is (undef), is (undef), is (undef), is (undef), is (undef), is (undef), is (.bool false), is (.bool false)] [[], [0], [1], [2], [2, 3], [2, 4], [5], [5, 6], [5, 7], [2, 5, 8], [2, 9], [10], [11], [11, 12], [11, 13], [11, 14], [15], [15, 16], [15, 17], [18], [18, 19], [18], [18, 21], [18, 20, 22], [15, 18, 23], [11, 15, 24], [11, 25]] (by kernel_rfl) ?_ ?_
              · refine ⟨?_, ?_, ?_, ?_, ?_, ?_, ?_, ?_, ?_, ?_, ?_, ?_, ?_, ?_, ?_, ?_, ?_, ?_, ?_, ?_, ?_, ?_, ?_, ?_, ?_, ?_, ?_, trivial⟩
                · intro t wq hbq hh K hK
                  clear hh
                  simp only [filled, upd, Have, is, any, row, pick, Act.put, List.setIfInBounds_toArray, List.set_cons_zero, List.set_cons_succ, Nat.reduceAdd, Nat.reduceEqDiff, reduceIte] at hK ⊢
                  go_simp
                  exact hK _ _ (Below.refl _ _) rfl
                · intro t wq hbq hh K hK
                  have e0 := hh.1
                  simp only [pick] at e0
                  replace e0 : t 0 = (.pointer (some ⟨w2.heap.size, 6, none⟩)) := e0
                  clear hh
                  simp only [filled, upd, Have, is, any, row, pick, Act.put, List.setIfInBounds_toArray, List.set_cons_zero, List.set_cons_succ, Nat.reduceAdd, Nat.reduceEqDiff, reduceIte] at hK ⊢
                  simp only [e0] at hK ⊢
                  obtain ⟨ka0, ka1, ka2, ka3, ka4, ka5, ka6, ka7, ka8, ka9, ka10, ka11, ka12⟩ := (X1_7.out.below hbq).facts
                  rw [HO.out] at ka6
                  go_simp
                  exact hK _ _ (Below.refl _ _) rfl
                · intro t wq hbq hh K hK
                  have e1 := hh.1
                  simp only [pick] at e1
                  replace e1 : t 1 = (.bool true) := e1
                  clear hh
                  simp only [filled, upd, Have, is, any, row, pick, Act.put, List.setIfInBounds_toArray, List.set_cons_zero, List.set_cons_succ, Nat.reduceAdd, Nat.reduceEqDiff, reduceIte] at hK ⊢
                  simp only [e1] at hK ⊢
                  go_simp
                  exact hK _ _ (Below.refl _ _) rfl
                · intro t wq hbq hh K hK
                  have e2 := hh.1
                  simp only [pick] at e2
                  replace e2 : t 2 = (.bool true) := e2
                  clear hh
                  simp only [filled, upd, Have, is, any, row, pick, Act.put, List.setIfInBounds_toArray, List.set_cons_zero, List.set_cons_succ, Nat.reduceAdd, Nat.reduceEqDiff, reduceIte] at hK ⊢
                  simp only [e2] at hK ⊢
                  go_simp
                  exact hK _ _ (Below.refl _ _) rfl
                · intro t wq hbq hh K hK
                  have e2 := hh.1
                  simp only [pick] at e2
                  replace e2 : t 2 = (.bool true) := e2
                  have e3 := hh.2.1
                  simp only [pick] at e3
                  replace e3 : t 3 = (.int .i64 2) := e3
                  clear hh
                  simp only [filled, upd, Have, is, any, row, pick, Act.put, List.setIfInBounds_toArray, List.set_cons_zero, List.set_cons_succ, Nat.reduceAdd, Nat.reduceEqDiff, reduceIte] at hK ⊢
                  simp only [e2, e3] at hK ⊢
                  go_simp
                  first | exact hK _ _ (Below.refl _ _) rfl | exact hK _ _ (Below.refl _ _) (int_wrap (by omega) (by omega))
                · intro t wq hbq hh K hK
                  have e2 := hh.1
                  simp only [pick] at e2
                  replace e2 : t 2 = (.bool true) := e2
                  have e4 := hh.2.1
                  simp only [pick] at e4
                  replace e4 : t 4 = (.bool false) := e4
                  clear hh
                  simp only [filled, upd, Have, is, any, row, pick, Act.put, List.setIfInBounds_toArray, List.set_cons_zero, List.set_cons_succ, Nat.reduceAdd, Nat.reduceEqDiff, reduceIte] at hK ⊢
                  simp only [e2, e4] at hK ⊢
                  go_simp
                  exact hK _ _ (Below.refl _ _) rfl
                · intro t wq hbq hh K hK
                  have e5 := hh.1
                  simp only [pick] at e5
                  replace e5 : t 5 = (.bool false) := e5
                  clear hh
                  simp only [filled, upd, Have, is, any, row, pick, Act.put, List.setIfInBounds_toArray, List.set_cons_zero, List.set_cons_succ, Nat.reduceAdd, Nat.reduceEqDiff, reduceIte] at hK ⊢
                  simp only [e5] at hK ⊢
                  go_simp
                  exact hK _ _ (Below.refl _ _) rfl
                · intro t wq hbq hh K hK
                  have e5 := hh.1
                  simp only [pick] at e5
                  replace e5 : t 5 = (.bool false) := e5
                  have e6 := hh.2.1
                  simp only [pick] at e6
                  replace e6 : t 6 = (.pointer (some ⟨w4.heap.size, 0, none⟩)) := e6
                  clear hh
                  simp only [filled, upd, Have, is, any, row, pick, Act.put, List.setIfInBounds_toArray, List.set_cons_zero, List.set_cons_succ, Nat.reduceAdd, Nat.reduceEqDiff, reduceIte] at hK ⊢
                  simp only [e5, e6] at hK ⊢
                  obtain ⟨ka0, ka1, ka2, ka3, ka4, ka5, ka6, ka7, ka8, ka9, ka10, ka11, ka12⟩ := (X2_7.out.below hbq).facts
                  rw [HU0S.out] at ka0
                  go_simp
                  exact hK _ _ (Below.refl _ _) rfl
                · intro t wq hbq hh K hK
                  have e5 := hh.1
                  simp only [pick] at e5
                  replace e5 : t 5 = (.bool false) := e5
                  have e7 := hh.2.1
                  simp only [pick] at e7
                  replace e7 : t 7 = (.string (strOf [])) := e7
                  clear hh
                  simp only [filled, upd, Have, is, any, row, pick, Act.put, List.setIfInBounds_toArray, List.set_cons_zero, List.set_cons_succ, Nat.reduceAdd, Nat.reduceEqDiff, reduceIte] at hK ⊢
                  simp only [e5, e7] at hK ⊢
                  have qN : ((strOf []).toList == []) = true := by rw [str_tl]; rfl
                  have qM : (strOf []).toList = [] := str_tl []
                  go_simp
                  exact hK _ _ (Below.refl _ _) (by first | rfl | simp)
                · intro t wq hbq hh K hK
                  have e2 := hh.1
                  simp only [pick] at e2
                  replace e2 : t 2 = (.bool true) := e2
                  have e5 := hh.2.1
                  simp only [pick] at e5
                  replace e5 : t 5 = (.bool false) := e5
                  have e8 := hh.2.2.1
                  simp only [pick] at e8
                  replace e8 : t 8 = (.bool false) := e8
                  clear hh
                  simp only [filled, upd, Have, is, any, row, pick, Act.put, List.setIfInBounds_toArray, List.set_cons_zero, List.set_cons_succ, Nat.reduceAdd, Nat.reduceEqDiff, reduceIte] at hK ⊢
                  simp only [e2, e5, e8] at hK ⊢
                  go_simp
                  exact hK _ _ (Below.refl _ _) rfl
                · intro t wq hbq hh K hK
                  have e2 := hh.1
                  simp only [pick] at e2
                  replace e2 : t 2 = (.bool true) := e2
                  have e9 := hh.2.1
                  simp only [pick] at e9
                  replace e9 : t 9 = (.bool false) := e9
                  clear hh
                  simp only [filled, upd, Have, is, any, row, pick, Act.put, List.setIfInBounds_toArray, List.set_cons_zero, List.set_cons_succ, Nat.reduceAdd, Nat.reduceEqDiff, reduceIte] at hK ⊢
                  simp only [e2, e9] at hK ⊢
                  go_simp
                  exact hK _ _ (Below.refl _ _) rfl
                · intro t wq hbq hh K hK
                  have e10 := hh.1
                  simp only [pick] at e10
                  replace e10 : t 10 = (.bool false) := e10
                  clear hh
                  simp only [filled, upd, Have, is, any, row, pick, Act.put, List.setIfInBounds_toArray, List.set_cons_zero, List.set_cons_succ, Nat.reduceAdd, Nat.reduceEqDiff, reduceIte] at hK ⊢
                  simp only [e10] at hK ⊢
                  go_simp
                  exact hK _ _ (Below.refl _ _) rfl
                · intro t wq hbq hh K hK
                  have e11 := hh.1
                  simp only [pick] at e11
                  replace e11 : t 11 = (.bool false) := e11
                  clear hh
                  simp only [filled, upd, Have, is, any, row, pick, Act.put, List.setIfInBounds_toArray, List.set_cons_zero, List.set_cons_succ, Nat.reduceAdd, Nat.reduceEqDiff, reduceIte] at hK ⊢
                  simp only [e11] at hK ⊢
                  go_simp
                  exact hK _ _ (Below.refl _ _) rfl
                · intro t wq hbq hh K hK
                  have e11 := hh.1
                  simp only [pick] at e11
                  replace e11 : t 11 = (.bool false) := e11
                  have e12 := hh.2.1
                  simp only [pick] at e12
                  replace e12 : t 12 = (.pointer (some ⟨w2.heap.size, 6, none⟩)) := e12
                  clear hh
                  simp only [filled, upd, Have, is, any, row, pick, Act.put, List.setIfInBounds_toArray, List.set_cons_zero, List.set_cons_succ, Nat.reduceAdd, Nat.reduceEqDiff, reduceIte] at hK ⊢
                  simp only [e11, e12] at hK ⊢
                  obtain ⟨ka0, ka1, ka2, ka3, ka4, ka5, ka6, ka7, ka8, ka9, ka10, ka11, ka12⟩ := (X1_7.out.below hbq).facts
                  rw [HO.out] at ka6
                  go_simp
                  exact hK _ _ (Below.refl _ _) rfl
                · intro t wq hbq hh K hK
                  have e11 := hh.1
                  simp only [pick] at e11
                  replace e11 : t 11 = (.bool false) := e11
                  have e13 := hh.2.1
                  simp only [pick] at e13
                  replace e13 : t 13 = (.bool true) := e13
                  clear hh
                  simp only [filled, upd, Have, is, any, row, pick, Act.put, List.setIfInBounds_toArray, List.set_cons_zero, List.set_cons_succ, Nat.reduceAdd, Nat.reduceEqDiff, reduceIte] at hK ⊢
                  simp only [e11, e13] at hK ⊢
                  go_simp
                  exact hK _ _ (Below.refl _ _) rfl
                · intro t wq hbq hh K hK
                  have e11 := hh.1
                  simp only [pick] at e11
                  replace e11 : t 11 = (.bool false) := e11
                  have e14 := hh.2.1
                  simp only [pick] at e14
                  replace e14 : t 14 = (.bool false) := e14
                  clear hh
                  simp only [filled, upd, Have, is, any, row, pick, Act.put, List.setIfInBounds_toArray, List.set_cons_zero, List.set_cons_succ, Nat.reduceAdd, Nat.reduceEqDiff, reduceIte] at hK ⊢
                  simp only [e11, e14] at hK ⊢
                  go_simp
                  exact hK _ _ (Below.refl _ _) rfl
                · intro t wq hbq hh K hK
                  have e15 := hh.1
                  simp only [pick] at e15
                  replace e15 : t 15 = (.bool false) := e15
                  clear hh
                  simp only [filled, upd, Have, is, any, row, pick, Act.put, List.setIfInBounds_toArray, List.set_cons_zero, List.set_cons_succ, Nat.reduceAdd, Nat.reduceEqDiff, reduceIte] at hK ⊢
                  simp only [e15] at hK ⊢
                  go_simp
                  exact hK _ _ (Below.refl _ _) rfl
                · intro t wq hbq hh K hK
                  have e15 := hh.1
                  simp only [pick] at e15
                  replace e15 : t 15 = (.bool false) := e15
                  have e16 := hh.2.1
                  simp only [pick] at e16
                  replace e16 : t 16 = (undef) := e16
                  clear hh
                  simp only [filled, upd, Have, is, any, row, pick, Act.put, List.setIfInBounds_toArray, List.set_cons_zero, List.set_cons_succ, Nat.reduceAdd, Nat.reduceEqDiff, reduceIte] at hK ⊢
                  simp only [e15, e16] at hK ⊢
                  go_simp
                  first | exact hK _ _ (Below.refl _ _) rfl | exact hK _ _ (Below.refl _ _) (int_wrap (by omega) (by omega))
                · intro t wq hbq hh K hK
                  have e15 := hh.1
                  simp only [pick] at e15
                  replace e15 : t 15 = (.bool false) := e15
                  have e17 := hh.2.1
                  simp only [pick] at e17
                  replace e17 : t 17 = (undef) := e17
                  clear hh
                  simp only [filled, upd, Have, is, any, row, pick, Act.put, List.setIfInBounds_toArray, List.set_cons_zero, List.set_cons_succ, Nat.reduceAdd, Nat.reduceEqDiff, reduceIte] at hK ⊢
                  simp only [e15, e17] at hK ⊢
                  go_simp
                  exact hK _ _ (Below.refl _ _) rfl
                · intro t wq hbq hh K hK
                  have e18 := hh.1
                  simp only [pick] at e18
                  replace e18 : t 18 = (undef) := e18
                  clear hh
                  simp only [filled, upd, Have, is, any, row, pick, Act.put, List.setIfInBounds_toArray, List.set_cons_zero, List.set_cons_succ, Nat.reduceAdd, Nat.reduceEqDiff, reduceIte] at hK ⊢
                  simp only [e18] at hK ⊢
                  go_simp
                  exact hK _ _ (Below.refl _ _) rfl
                · intro t wq hbq hh K hK
                  have e18 := hh.1
                  simp only [pick] at e18
                  replace e18 : t 18 = (undef) := e18
                  have e19 := hh.2.1
                  simp only [pick] at e19
                  replace e19 : t 19 = (undef) := e19
                  clear hh
                  simp only [filled, upd, Have, is, any, row, pick, Act.put, List.setIfInBounds_toArray, List.set_cons_zero, List.set_cons_succ, Nat.reduceAdd, Nat.reduceEqDiff, reduceIte] at hK ⊢
                  simp only [e18, e19] at hK ⊢
                  go_simp
                  exact hK _ _ (Below.refl _ _) rfl
                · intro t wq hbq hh K hK
                  have e18 := hh.1
                  simp only [pick] at e18
                  replace e18 : t 18 = (undef) := e18
                  clear hh
                  simp only [filled, upd, Have, is, any, row, pick, Act.put, List.setIfInBounds_toArray, List.set_cons_zero, List.set_cons_succ, Nat.reduceAdd, Nat.reduceEqDiff, reduceIte] at hK ⊢
                  simp only [e18] at hK ⊢
                  go_simp
                  exact hK _ _ (Below.refl _ _) rfl
                · intro t wq hbq hh K hK
                  have e18 := hh.1
                  simp only [pick] at e18
                  replace e18 : t 18 = (undef) := e18
                  have e21 := hh.2.1
                  simp only [pick] at e21
                  replace e21 : t 21 = (undef) := e21
                  clear hh
                  simp only [filled, upd, Have, is, any, row, pick, Act.put, List.setIfInBounds_toArray, List.set_cons_zero, List.set_cons_succ, Nat.reduceAdd, Nat.reduceEqDiff, reduceIte] at hK ⊢
                  simp only [e18, e21] at hK ⊢
                  go_simp
                  exact hK _ _ (Below.refl _ _) rfl
                · intro t wq hbq hh K hK
                  have e18 := hh.1
                  simp only [pick] at e18
                  replace e18 : t 18 = (undef) := e18
                  have e20 := hh.2.1
                  simp only [pick] at e20
                  replace e20 : t 20 = (undef) := e20
                  have e22 := hh.2.2.1
                  simp only [pick] at e22
                  replace e22 : t 22 = (undef) := e22
                  clear hh
                  simp only [filled, upd, Have, is, any, row, pick, Act.put, List.setIfInBounds_toArray, List.set_cons_zero, List.set_cons_succ, Nat.reduceAdd, Nat.reduceEqDiff, reduceIte] at hK ⊢
                  simp only [e18, e20, e22] at hK ⊢
                  go_simp
                  first | exact hK _ _ (Below.refl _ _) rfl | exact hK _ _ (Below.refl _ _) (int_wrap (by omega) (by omega))
                · intro t wq hbq hh K hK
                  have e15 := hh.1
                  simp only [pick] at e15
                  replace e15 : t 15 = (.bool false) := e15
                  have e18 := hh.2.1
                  simp only [pick] at e18
                  replace e18 : t 18 = (undef) := e18
                  have e23 := hh.2.2.1
                  simp only [pick] at e23
                  replace e23 : t 23 = (undef) := e23
                  clear hh
                  simp only [filled, upd, Have, is, any, row, pick, Act.put, List.setIfInBounds_toArray, List.set_cons_zero, List.set_cons_succ, Nat.reduceAdd, Nat.reduceEqDiff, reduceIte] at hK ⊢
                  simp only [e15, e18, e23] at hK ⊢
                  go_simp
                  exact hK _ _ (Below.refl _ _) rfl
                · intro t wq hbq hh K hK
                  have e11 := hh.1
                  simp only [pick] at e11
                  replace e11 : t 11 = (.bool false) := e11
                  have e15 := hh.2.1
                  simp only [pick] at e15
                  replace e15 : t 15 = (.bool false) := e15
                  have e24 := hh.2.2.1
                  simp only [pick] at e24
                  replace e24 : t 24 = (undef) := e24
                  clear hh
                  simp only [filled, upd, Have, is, any, row, pick, Act.put, List.setIfInBounds_toArray, List.set_cons_zero, List.set_cons_succ, Nat.reduceAdd, Nat.reduceEqDiff, reduceIte] at hK ⊢
                  simp only [e11, e15, e24] at hK ⊢
                  go_simp
                  exact hK _ _ (Below.refl _ _) rfl
                · intro t wq hbq hh K hK
                  have e11 := hh.1
                  simp only [pick] at e11
                  replace e11 : t 11 = (.bool false) := e11
                  have e25 := hh.2.1
                  simp only [pick] at e25
                  replace e25 : t 25 = (.bool false) := e25
                  clear hh
                  simp only [filled, upd, Have, is, any, row, pick, Act.put, List.setIfInBounds_toArray, List.set_cons_zero, List.set_cons_succ, Nat.reduceAdd, Nat.reduceEqDiff, reduceIte] at hK ⊢
                  simp only [e11, e25] at hK ⊢
                  go_simp
                  exact hK _ _ (Below.refl _ _) rfl
              · intro t wq hbq hh
                have f26 := have_get hh 26 (by decide)
                simp only [pick] at f26
                replace f26 : t 26 = (.bool false) := f26
                clear hh
                simp only [filled, upd, Have, is, any, row, pick, Act.put, List.setIfInBounds_toArray, List.set_cons_zero, List.set_cons_succ, Nat.reduceAdd, Nat.reduceEqDiff, reduceIte]
                simp only [f26]
                have HB8 := hid (bel HB7.out hbq)
                have E_8 := hid (E_7.out.below hbq)
                have T1_8 := hid (T1_7.out.below hbq)
                have X1_8 := hid (X1_7.out.below hbq)
                have T2_8 := hid (T2_7.out.below hbq)
                have X2_8 := hid (X2_7.out.below hbq)
                have T3_8 := hid (T3_7.out.below hbq)
                have X3_8 := hid (X3.out.below hbq)
                clear hbq
                go_upto_region 16 with (fail)
                refine wp_region_rel (by kernel_rfl) [is (.int .i64 0), is (.bool true), is (.bool true), is (.agg #[.string (strOf v.sch), .string (strOf v.usr), .string (strOf v.pwd), .string (strOf v.hst), .bool v.hh, .int .i64 v.port, .bool v.opq, .string (strOf v.txt), .slice A3 n3 c3, .bool v.hq, .bool v.hf, .string (strOf v.qry), .string (strOf v.frg)]), is (.string (strOf PV)), is (.agg #[.string (strOf b.sch), .string (strOf b.usr), .string (strOf b.pwd), .string (strOf b.hst), .bool b.hh, .int .i64 b.port, .bool b.opq, .string (strOf b.txt), .slice A1 n1 c1, .bool b.hq, .bool b.hf, .string (strOf b.qry), .string (strOf b.frg)]), is (.string (strOf BL)), is (.string (strOf BM)), is (.string s1), is (.string (strOf PV)), is (.bool true), is (.bool true), is (.bool true)] [[], [0], [1], [2], [2, 3], [2], [2, 5], [2, 6], [2], [2, 7, 8], [2, 4, 9], [2, 10], [11]] (by kernel_rfl) ?_ ?_
                · refine ⟨?_, ?_, ?_, ?_, ?_, ?_, ?_, ?_, ?_, ?_, ?_, ?_, ?_, trivial⟩
                  · intro t wq hbq hh K hK
                    clear hh
                    simp only [filled, upd, Have, is, any, row, pick, Act.put, List.setIfInBounds_toArray, List.set_cons_zero, List.set_cons_succ, Nat.reduceAdd, Nat.reduceEqDiff, reduceIte] at hK ⊢
                    go_simp
                    exact hK _ _ (Below.refl _ _) rfl
                  · intro t wq hbq hh K hK
                    have e0 := hh.1
                    simp only [pick] at e0
                    replace e0 : t 0 = (.int .i64 0) := e0
                    clear hh
                    simp only [filled, upd, Have, is, any, row, pick, Act.put, List.setIfInBounds_toArray, List.set_cons_zero, List.set_cons_succ, Nat.reduceAdd, Nat.reduceEqDiff, reduceIte] at hK ⊢
                    simp only [e0] at hK ⊢
                    go_simp
                    first | exact hK _ _ (Below.refl _ _) rfl | exact hK _ _ (Below.refl _ _) (int_wrap (by omega) (by omega))
                  · intro t wq hbq hh K hK
                    have e1 := hh.1
                    simp only [pick] at e1
                    replace e1 : t 1 = (.bool true) := e1
                    clear hh
                    simp only [filled, upd, Have, is, any, row, pick, Act.put, List.setIfInBounds_toArray, List.set_cons_zero, List.set_cons_succ, Nat.reduceAdd, Nat.reduceEqDiff, reduceIte] at hK ⊢
                    simp only [e1] at hK ⊢
                    go_simp
                    exact hK _ _ (Below.refl _ _) rfl
                  · intro t wq hbq hh K hK
                    have e2 := hh.1
                    simp only [pick] at e2
                    replace e2 : t 2 = (.bool true) := e2
                    clear hh
                    simp only [filled, upd, Have, is, any, row, pick, Act.put, List.setIfInBounds_toArray, List.set_cons_zero, List.set_cons_succ, Nat.reduceAdd, Nat.reduceEqDiff, reduceIte] at hK ⊢
                    simp only [e2] at hK ⊢
                    obtain ⟨ka0, ka1, ka2, ka3, ka4, ka5, ka6, ka7, ka8, ka9, ka10, ka11, ka12⟩ := (X3_8.out.below hbq).facts
                    go_simp
                    exact hK _ _ (Below.refl _ _) rfl
                  · intro t wq hbq hh K hK
                    have e2 := hh.1
                    simp only [pick] at e2
                    replace e2 : t 2 = (.bool true) := e2
                    have e3 := hh.2.1
                    simp only [pick] at e3
                    replace e3 : t 3 = (.agg #[.string (strOf v.sch), .string (strOf v.usr), .string (strOf v.pwd), .string (strOf v.hst), .bool v.hh, .int .i64 v.port, .bool v.opq, .string (strOf v.txt), .slice A3 n3 c3, .bool v.hq, .bool v.hf, .string (strOf v.qry), .string (strOf v.frg)]) := e3
                    clear hh
                    simp only [filled, upd, Have, is, any, row, pick, Act.put, List.setIfInBounds_toArray, List.set_cons_zero, List.set_cons_succ, Nat.reduceAdd, Nat.reduceEqDiff, reduceIte] at hK ⊢
                    simp only [e2, e3] at hK ⊢
                    go_simp
                    refine (HPV.out _ _ _ _ (T3_8.out.below hbq) (E_8.out.below hbq)).mono ?_
                    rintro e w5 ⟨rfl, hb5⟩
                    exact hK _ _ hb5 rfl
                  · intro t wq hbq hh K hK
                    have e2 := hh.1
                    simp only [pick] at e2
                    replace e2 : t 2 = (.bool true) := e2
                    clear hh
                    simp only [filled, upd, Have, is, any, row, pick, Act.put, List.setIfInBounds_toArray, List.set_cons_zero, List.set_cons_succ, Nat.reduceAdd, Nat.reduceEqDiff, reduceIte] at hK ⊢
                    simp only [e2] at hK ⊢
                    obtain ⟨ka0, ka1, ka2, ka3, ka4, ka5, ka6, ka7, ka8, ka9, ka10, ka11, ka12⟩ := (X1_8.out.below hbq).facts
                    go_simp
                    exact hK _ _ (Below.refl _ _) rfl
                  · intro t wq hbq hh K hK
                    have e2 := hh.1
                    simp only [pick] at e2
                    replace e2 : t 2 = (.bool true) := e2
                    have e5 := hh.2.1
                    simp only [pick] at e5
                    replace e5 : t 5 = (.agg #[.string (strOf b.sch), .string (strOf b.usr), .string (strOf b.pwd), .string (strOf b.hst), .bool b.hh, .int .i64 b.port, .bool b.opq, .string (strOf b.txt), .slice A1 n1 c1, .bool b.hq, .bool b.hf, .string (strOf b.qry), .string (strOf b.frg)]) := e5
                    clear hh
                    simp only [filled, upd, Have, is, any, row, pick, Act.put, List.setIfInBounds_toArray, List.set_cons_zero, List.set_cons_succ, Nat.reduceAdd, Nat.reduceEqDiff, reduceIte] at hK ⊢
                    simp only [e2, e5] at hK ⊢
                    go_simp
                    refine (HBA.out _ _ _ _ (T1_8.out.below hbq) (E_8.out.below hbq)).mono ?_
                    rintro e w5 ⟨rfl, hb5⟩
                    exact hK _ _ hb5 rfl
                  · intro t wq hbq hh K hK
                    have e2 := hh.1
                    simp only [pick] at e2
                    replace e2 : t 2 = (.bool true) := e2
                    have e6 := hh.2.1
                    simp only [pick] at e6
                    replace e6 : t 6 = (.string (strOf BL)) := e6
                    clear hh
                    simp only [filled, upd, Have, is, any, row, pick, Act.put, List.setIfInBounds_toArray, List.set_cons_zero, List.set_cons_succ, Nat.reduceAdd, Nat.reduceEqDiff, reduceIte] at hK ⊢
                    simp only [e2, e6] at hK ⊢
                    have hadd := a1 wq
                    go_simp
                    exact hK _ _ (Below.refl _ _) rfl
                  · intro t wq hbq hh K hK
                    have e2 := hh.1
                    simp only [pick] at e2
                    replace e2 : t 2 = (.bool true) := e2
                    clear hh
                    simp only [filled, upd, Have, is, any, row, pick, Act.put, List.setIfInBounds_toArray, List.set_cons_zero, List.set_cons_succ, Nat.reduceAdd, Nat.reduceEqDiff, reduceIte] at hK ⊢
                    simp only [e2] at hK ⊢
                    go_simp
                    exact hK _ _ (Below.refl _ _) rfl
                  · intro t wq hbq hh K hK
                    have e2 := hh.1
                    simp only [pick] at e2
                    replace e2 : t 2 = (.bool true) := e2
                    have e7 := hh.2.1
                    simp only [pick] at e7
                    replace e7 : t 7 = (.string (strOf BM)) := e7
                    have e8 := hh.2.2.1
                    simp only [pick] at e8
                    replace e8 : t 8 = (.string s1) := e8
                    clear hh
                    simp only [filled, upd, Have, is, any, row, pick, Act.put, List.setIfInBounds_toArray, List.set_cons_zero, List.set_cons_succ, Nat.reduceAdd, Nat.reduceEqDiff, reduceIte] at hK ⊢
                    simp only [e2, e7, e8] at hK ⊢
                    have hadd := a2 wq
                    go_simp
                    exact hK _ _ (Below.refl _ _) rfl
                  · intro t wq hbq hh K hK
                    have e2 := hh.1
                    simp only [pick] at e2
                    replace e2 : t 2 = (.bool true) := e2
                    have e4 := hh.2.1
                    simp only [pick] at e4
                    replace e4 : t 4 = (.string (strOf PV)) := e4
                    have e9 := hh.2.2.1
                    simp only [pick] at e9
                    replace e9 : t 9 = (.string (strOf PV)) := e9
                    clear hh
                    simp only [filled, upd, Have, is, any, row, pick, Act.put, List.setIfInBounds_toArray, List.set_cons_zero, List.set_cons_succ, Nat.reduceAdd, Nat.reduceEqDiff, reduceIte] at hK ⊢
                    simp only [e2, e4, e9] at hK ⊢
                    go_simp
                    exact hK _ _ (Below.refl _ _) (by first | rfl | simp)
                  · intro t wq hbq hh K hK
                    have e2 := hh.1
                    simp only [pick] at e2
                    replace e2 : t 2 = (.bool true) := e2
                    have e10 := hh.2.1
                    simp only [pick] at e10
                    replace e10 : t 10 = (.bool true) := e10
                    clear hh
                    simp only [filled, upd, Have, is, any, row, pick, Act.put, List.setIfInBounds_toArray, List.set_cons_zero, List.set_cons_succ, Nat.reduceAdd, Nat.reduceEqDiff, reduceIte] at hK ⊢
                    simp only [e2, e10] at hK ⊢
                    go_simp
                    exact hK _ _ (Below.refl _ _) rfl
                  · intro t wq hbq hh K hK
                    have e11 := hh.1
                    simp only [pick] at e11
                    replace e11 : t 11 = (.bool true) := e11
                    clear hh
                    simp only [filled, upd, Have, is, any, row, pick, Act.put, List.setIfInBounds_toArray, List.set_cons_zero, List.set_cons_succ, Nat.reduceAdd, Nat.reduceEqDiff, reduceIte] at hK ⊢
                    simp only [e11] at hK ⊢
                    go_simp
                    exact hK _ _ (Below.refl _ _) rfl
                · intro t wq hbq hh
                  have f12 := have_get hh 12 (by decide)
                  simp only [pick] at f12
                  replace f12 : t 12 = (.bool true) := f12
                  clear hh
                  simp only [filled, upd, Have, is, any, row, pick, Act.put, List.setIfInBounds_toArray, List.set_cons_zero, List.set_cons_succ, Nat.reduceAdd, Nat.reduceEqDiff, reduceIte]
                  simp only [f12]
                  go_wp2
                  go_ret
                  exact ⟨rfl, bel HB8.out hbq⟩
        | false =>
          obtain ⟨v, hv⟩ : ∃ v : U, v = { (along (hosted b) b) with hf := true, frg := s1.data.toList } := ⟨_, rfl⟩
          obtain ⟨a, ha⟩ : ∃ a : U, a = along (hosted b) b := ⟨_, rfl⟩
          have hba : bareU a = BL := by
            rw [hBL, ha, bareU_eq, bareU_eq]
            unfold midB
            simp only [along, hosted, U0, ho]
            rfl
          have hbv : bareU v = BL := by rw [hv, ← hba, ha]; rfl
          have hpa : printU a = BL := by
            rw [printU_eq, hba, ha]
            exact List.append_nil _
          have fa : Fit a 15300 := by rw [ha]; exact PrsV.along_fit fb
          have HPA : Hid (∀ (A : Option Addr) (n c : Nat) (w : World), Pt w a A n c → Env w → Calls Tryz.prog 22 #[.agg #[.string (strOf a.sch), .string (strOf a.usr), .string (strOf a.pwd), .string (strOf a.hst), .bool a.hh, .int .i64 a.port, .bool a.opq, .string (strOf a.txt), .slice A n c, .bool a.hq, .bool a.hf, .string (strOf a.qry), .string (strOf a.frg)]] w fun e w' => e = .returned (.string (strOf BL)) ∧ Below w.heap.size w w') := fun A n c w hP E => by rw [← hpa]; exact print_u fa (by decide) A n c w hP E
          have hu2 : PrsP.url (⟨#[]⟩ : ByteArray).data.toList (some b) = some a := by
            have h := PrsU.url_nil b
            rw [ho] at h
            rw [ha]
            exact h
          have hpv : printU v = PV := by
            rw [printU_eq, hbv, hPV, hBM, hv]
            simp
          have fv : Fit v 15400 := by
            have hq : s1.data.toList.length ≤ 100 := by rw [Ulw.dl]; exact hl1
            have h := PrsV.along_fit fb
            have h2 := h.all
            rw [hv]
            refine ⟨?_, h.lo, h.hi⟩
            simp only [] at h2 ⊢
            omega
          have HPV : Hid (∀ (A : Option Addr) (n c : Nat) (w : World), Pt w v A n c → Env w → Calls Tryz.prog 22 #[.agg #[.string (strOf v.sch), .string (strOf v.usr), .string (strOf v.pwd), .string (strOf v.hst), .bool v.hh, .int .i64 v.port, .bool v.opq, .string (strOf v.txt), .slice A n c, .bool v.hq, .bool v.hf, .string (strOf v.qry), .string (strOf v.frg)]] w fun e w' => e = .returned (.string (strOf PV)) ∧ Below w.heap.size w w') := fun A n c w hP E => by rw [← hpv]; exact print_u fv (by decide) A n c w hP E
          have HP2 : Hid (∀ (gb : Nat) (A : Option Addr) (n c : Nat), n ≤ 100000 → ∀ w, UB w gb b (.slice A n c) → Pt w b A n c → Env w → Calls Tryz.prog 16 #[.string ⟨#[]⟩, .pointer (some ⟨gb, 0, none⟩)] w fun e w' => ∃ A' n' c', e = .returned (.tuple #[.agg #[.string (strOf a.sch), .string (strOf a.usr), .string (strOf a.pwd), .string (strOf a.hst), .bool a.hh, .int .i64 a.port, .bool a.opq, .string (strOf a.txt), .slice A' n' c', .bool a.hq, .bool a.hf, .string (strOf a.qry), .string (strOf a.frg)], .int .i64 0]) ∧ Pt w' a A' n' c' ∧ Below w.heap.size w w') := fun gb A n c hn w hB hP E => parseB_some hu2 (by decide) gb A n c hn w hB hP E
          have hfr : Small s1.data.toList → PrsP.url J.data.toList (some b) = some v := fun h => by
            have h2 := PrsU.url_frag b h
            rw [ho] at h2
            rw [HJD.out, hv]
            exact h2
          have HFR := hid hfr
          clear hfr hu2 hpv fv hbv hpa hba fa ha hv
          have HO := hid ho
          clear fb hBL hbl hBM hPV ho
          go_enter Tryz.func9, Tryz.ntmps9
          go_wp2_with fail
          refine (HAW.out _ HE.out).mono ?_
          rintro e w1 ⟨rfl, hb⟩
          have HB1 := hid hb
          have E_1 := hid (HE.out.below hb)
          clear hb
          go_wp2_with fail
          refine (HP1.out _ E_1.out).mono ?_
          rintro e w2 ⟨A1, n1, c1, rfl, hpt, hb⟩
          have HB2 := hid (bel HB1.out hb)
          have E_2 := hid (E_1.out.below hb)
          clear hb
          have T1 := hid (hpt)
          clear hpt
          go_upto_region 4 with (fail)
          generalize hwa : World.alloc _ _ = v3
          have hxa : UB v3 (w2.heap.size) b (.slice A1 n1 c1) := by rw [← hwa]; exact heap_alloc_new _ _
          have hb : Below w2.heap.size w2 v3 := by rw [← hwa]; exact (Below.refl _ _).alloc (Nat.le_refl _) _
          have X1 := hid hxa
          clear hwa hxa
          have HB3 := hid (bel HB2.out hb)
          have E_3 := hid (E_2.out.below hb)
          have T1_3 := hid (T1.out.below hb)
          clear hb
          go_wp2
          go_loopw [7, 34] (fun _ vk wrc => ∃ j : Nat, j ≤ s1.size ∧ vk = .int .i64 (j : Int) ∧ wrc = v3 ∧ Hid (∀ i (h : i < s1.data.toList.length), i < j → 97 ≤ (s1.data.toList[i]).toNat ∧ (s1.data.toList[i]).toNat ≤ 122)) (fun _ vk _ => s1.size - (intOf vk).toNat)
          case atStart => exact ⟨0, Nat.zero_le _, rfl, rfl, fun i _ h => by omega⟩
          case round =>
            obtain ⟨j, hj, rfl, hwr, HNOc⟩ := hrel
            subst hwr
            by_cases hlt : j < s1.size
            · obtain ⟨x, hx⟩ : ∃ x, s1[j] = x := ⟨_, rfl⟩
              have hxl : s1.data.toList[j]'(by rw [Ulw.dl]; exact hlt) = x := hx
              by_cases h0 : x.toNat < 97
              · have q0 : (x.toNat : Int) < 97 := by omega
                clear hxl
                go_wp2
                go_ret
                exact ⟨rfl, HB3.out⟩
              have q0 : ¬ (x.toNat : Int) < 97 := by omega
              by_cases h1 : 122 < x.toNat
              · have q1 : (122 : Int) < (x.toNat : Int) := by omega
                clear hxl
                go_wp2
                go_ret
                exact ⟨rfl, HB3.out⟩
              have q1 : ¬ (122 : Int) < (x.toNat : Int) := by omega
              have HNO2 : Hid (∀ i (h : i < s1.data.toList.length), i < j + 1 → 97 ≤ (s1.data.toList[i]).toNat ∧ (s1.data.toList[i]).toNat ≤ 122) := by
                intro i h hi
                by_cases hij : i < j
                · exact HNOc.out i h hij
                · obtain rfl : i = j := by omega
                  rw [hxl]
                  exact ⟨by omega, by omega⟩
              clear hxl h0 h1
              go_wp2
              go_roundw
              case rel => exact ⟨j + 1, by omega, by go_num, by first | rfl | trivial, HNO2.out⟩
              case measure => simp [intOf]; omega
            · obtain rfl : j = s1.size := by omega
              have hallc : ∀ c ∈ s1.data.toList, 97 ≤ c.toNat ∧ c.toNat ≤ 122 := fun c hc => by
                obtain ⟨i, hi, rfl⟩ := List.getElem_of_mem hc
                exact HNOc.out i hi (by rw [← Ulw.dl]; exact hi)
              have HALLc := hid hallc
              clear HNOc hallc
              have hP3 := HFR.out HALLc.out
              have HP3 : Hid (∀ (gb : Nat) (A : Option Addr) (n c : Nat), n ≤ 100000 → ∀ w, UB w gb b (.slice A n c) → Pt w b A n c → Env w → Calls Tryz.prog 16 #[.string J, .pointer (some ⟨gb, 0, none⟩)] w fun e w' => ∃ A' n' c', e = .returned (.tuple #[.agg #[.string (strOf v.sch), .string (strOf v.usr), .string (strOf v.pwd), .string (strOf v.hst), .bool v.hh, .int .i64 v.port, .bool v.opq, .string (strOf v.txt), .slice A' n' c', .bool v.hq, .bool v.hf, .string (strOf v.qry), .string (strOf v.frg)], .int .i64 0]) ∧ Pt w' v A' n' c' ∧ Below w.heap.size w w') := fun gb A n c hn w hB hP E => parseB_some hP3 HJS.out gb A n c hn w hB hP E
              clear hP3
              go_wp2_with fail
              refine (HP2.out _ _ _ _ (Nat.le_trans (T1_3.out.len HF1.out) (by decide)) _ X1.out T1_3.out E_3.out).mono ?_
              rintro e w4 ⟨A2, n2, c2, rfl, hpt, hb⟩
              have HB4 := hid (bel HB3.out hb)
              have E_4 := hid (E_3.out.below hb)
              have T1_4 := hid (T1_3.out.below hb)
              have X1_4 := hid (X1.out.below hb)
              clear hb
              have T2 := hid (hpt)
              clear hpt
              go_upto_region 13 with (fail)
              generalize hwa : World.alloc _ _ = v5
              have hxa : UB v5 (w4.heap.size) a (.slice A2 n2 c2) := by rw [← hwa]; exact heap_alloc_new _ _
              have hb : Below w4.heap.size w4 v5 := by rw [← hwa]; exact (Below.refl _ _).alloc (Nat.le_refl _) _
              have X2 := hid hxa
              clear hwa hxa
              have HB5 := hid (bel HB4.out hb)
              have E_5 := hid (E_4.out.below hb)
              have T1_5 := hid (T1_4.out.below hb)
              have X1_5 := hid (X1_4.out.below hb)
              have T2_5 := hid (T2.out.below hb)
              clear hb
              go_wp2_with fail
              refine (HP3.out _ _ _ _ (Nat.le_trans (T1_5.out.len HF1.out) (by decide)) _ X1_5.out T1_5.out E_5.out).mono ?_
              rintro e w6 ⟨A3, n3, c3, rfl, hpt, hb⟩
              have HB6 := hid (bel HB5.out hb)
              have E_6 := hid (E_5.out.below hb)
              have T1_6 := hid (T1_5.out.below hb)
              have X1_6 := hid (X1_5.out.below hb)
              have T2_6 := hid (T2_5.out.below hb)
              have X2_6 := hid (X2.out.below hb)
              clear hb
              have T3 := hid (hpt)
              clear hpt
              go_upto_region 14 with (fail)
              generalize hwa : World.alloc _ _ = v7
              have hxa : UB v7 (w6.heap.size) v (.slice A3 n3 c3) := by rw [← hwa]; exact heap_alloc_new _ _
              have hb : Below w6.heap.size w6 v7 := by rw [← hwa]; exact (Below.refl _ _).alloc (Nat.le_refl _) _
              have X3 := hid hxa
              clear hwa hxa
              have HB7 := hid (bel HB6.out hb)
              have E_7 := hid (E_6.out.below hb)
              have T1_7 := hid (T1_6.out.below hb)
              have X1_7 := hid (X1_6.out.below hb)
              have T2_7 := hid (T2_6.out.below hb)
              have X2_7 := hid (X2_6.out.below hb)
              have T3_7 := hid (T3.out.below hb)
              clear hb
              refine wp_region_rel (by kernel_rfl) [is (.pointer (some ⟨w2.heap.size, 6, none⟩)), is (.bool false), is (.bool false), is (undef), is (undef), is (undef), is (undef), is (undef), is (undef), is (undef), is (.bool false), is (.bool false), is (.pointer (some ⟨w2.heap.size, 6, none⟩)), is (.bool false), is (.bool true), is (.bool true), is (.int .i64 0), is (.bool false), is (.bool false), is (.agg #[.string (strOf a.sch), .string (strOf a.usr), .string (strOf a.pwd), .string (strOf a.hst), .bool a.hh, .int .i64 a.port, .bool a.opq, .string (strOf a.txt), .slice A2 n2 c2, .bool a.hq, .bool a.hf, .string (strOf a.qry), .string (strOf a.frg)]), is (.string (strOf BL)), is (.agg #[.string (strOf b.sch), .string (strOf b.usr), .string (strOf b.pwd), .string (strOf b.hst), .bool b.hh, .int .i64 b.port, .bool b.opq, .string (strOf b.txt), .slice A1 n1 c1, .bool b.hq, .bool b.hf, .string (strOf b.qry), .string (strOf b.frg)]), is (.string (strOf BL)), is (.bool false), is (.bool false), is (.bool false), is (.bool false)] [[], [0], [1], [2], [2, 3], [2, 4], [5], [5, 6], [5, 7], [2, 5, 8], [2, 9], [10], [11], [11, 12], [11, 13], [11, 14], [15], [15, 16], [15, 17], [18], [18, 19], [18], [18, 21], [18, 20, 22], [15, 18, 23], [11, 15, 24], [11, 25]] (by kernel_rfl) ?_ ?_
              · refine ⟨?_, ?_, ?_, ?_, ?_, ?_, ?_, ?_, ?_, ?_, ?_, ?_, ?_, ?_, ?_, ?_, ?_, ?_, ?_, ?_, ?_, ?_, ?_, ?_, ?_, ?_, ?_, trivial⟩
                · intro t wq hbq hh K hK
                  clear hh
                  simp only [filled, upd, Have, is, any, row, pick, Act.put, List.setIfInBounds_toArray, List.set_cons_zero, List.set_cons_succ, Nat.reduceAdd, Nat.reduceEqDiff, reduceIte] at hK ⊢
                  go_simp
                  exact hK _ _ (Below.refl _ _) rfl
                · intro t wq hbq hh K hK
                  have e0 := hh.1
                  simp only [pick] at e0
                  replace e0 : t 0 = (.pointer (some ⟨w2.heap.size, 6, none⟩)) := e0
                  clear hh
                  simp only [filled, upd, Have, is, any, row, pick, Act.put, List.setIfInBounds_toArray, List.set_cons_zero, List.set_cons_succ, Nat.reduceAdd, Nat.reduceEqDiff, reduceIte] at hK ⊢
                  simp only [e0] at hK ⊢
                  obtain ⟨ka0, ka1, ka2, ka3, ka4, ka5, ka6, ka7, ka8, ka9, ka10, ka11, ka12⟩ := (X1_7.out.below hbq).facts
                  rw [HO.out] at ka6
                  go_simp
                  exact hK _ _ (Below.refl _ _) rfl
                · intro t wq hbq hh K hK
                  have e1 := hh.1
                  simp only [pick] at e1
                  replace e1 : t 1 = (.bool false) := e1
                  clear hh
                  simp only [filled, upd, Have, is, any, row, pick, Act.put, List.setIfInBounds_toArray, List.set_cons_zero, List.set_cons_succ, Nat.reduceAdd, Nat.reduceEqDiff, reduceIte] at hK ⊢
                  simp only [e1] at hK ⊢
                  go_simp
                  exact hK _ _ (Below.refl _ _) rfl
                · intro t wq hbq hh K hK
                  have e2 := hh.1
                  simp only [pick] at e2
                  replace e2 : t 2 = (.bool false) := e2
                  clear hh
                  simp only [filled, upd, Have, is, any, row, pick, Act.put, List.setIfInBounds_toArray, List.set_cons_zero, List.set_cons_succ, Nat.reduceAdd, Nat.reduceEqDiff, reduceIte] at hK ⊢
                  simp only [e2] at hK ⊢
                  go_simp
                  exact hK _ _ (Below.refl _ _) rfl
                · intro t wq hbq hh K hK
                  have e2 := hh.1
                  simp only [pick] at e2
                  replace e2 : t 2 = (.bool false) := e2
                  have e3 := hh.2.1
                  simp only [pick] at e3
                  replace e3 : t 3 = (undef) := e3
                  clear hh
                  simp only [filled, upd, Have, is, any, row, pick, Act.put, List.setIfInBounds_toArray, List.set_cons_zero, List.set_cons_succ, Nat.reduceAdd, Nat.reduceEqDiff, reduceIte] at hK ⊢
                  simp only [e2, e3] at hK ⊢
                  go_simp
                  first | exact hK _ _ (Below.refl _ _) rfl | exact hK _ _ (Below.refl _ _) (int_wrap (by omega) (by omega))
                · intro t wq hbq hh K hK
                  have e2 := hh.1
                  simp only [pick] at e2
                  replace e2 : t 2 = (.bool false) := e2
                  have e4 := hh.2.1
                  simp only [pick] at e4
                  replace e4 : t 4 = (undef) := e4
                  clear hh
                  simp only [filled, upd, Have, is, any, row, pick, Act.put, List.setIfInBounds_toArray, List.set_cons_zero, List.set_cons_succ, Nat.reduceAdd, Nat.reduceEqDiff, reduceIte] at hK ⊢
                  simp only [e2, e4] at hK ⊢
                  go_simp
                  exact hK _ _ (Below.refl _ _) rfl
                · intro t wq hbq hh K hK
                  have e5 := hh.1
                  simp only [pick] at e5
                  replace e5 : t 5 = (undef) := e5
                  clear hh
                  simp only [filled, upd, Have, is, any, row, pick, Act.put, List.setIfInBounds_toArray, List.set_cons_zero, List.set_cons_succ, Nat.reduceAdd, Nat.reduceEqDiff, reduceIte] at hK ⊢
                  simp only [e5] at hK ⊢
                  go_simp
                  exact hK _ _ (Below.refl _ _) rfl
                · intro t wq hbq hh K hK
                  have e5 := hh.1
                  simp only [pick] at e5
                  replace e5 : t 5 = (undef) := e5
                  have e6 := hh.2.1
                  simp only [pick] at e6
                  replace e6 : t 6 = (undef) := e6
                  clear hh
                  simp only [filled, upd, Have, is, any, row, pick, Act.put, List.setIfInBounds_toArray, List.set_cons_zero, List.set_cons_succ, Nat.reduceAdd, Nat.reduceEqDiff, reduceIte] at hK ⊢
                  simp only [e5, e6] at hK ⊢
                  go_simp
                  exact hK _ _ (Below.refl _ _) rfl
                · intro t wq hbq hh K hK
                  have e5 := hh.1
                  simp only [pick] at e5
                  replace e5 : t 5 = (undef) := e5
                  have e7 := hh.2.1
                  simp only [pick] at e7
                  replace e7 : t 7 = (undef) := e7
                  clear hh
                  simp only [filled, upd, Have, is, any, row, pick, Act.put, List.setIfInBounds_toArray, List.set_cons_zero, List.set_cons_succ, Nat.reduceAdd, Nat.reduceEqDiff, reduceIte] at hK ⊢
                  simp only [e5, e7] at hK ⊢
                  go_simp
                  first | exact hK _ _ (Below.refl _ _) rfl | exact hK _ _ (Below.refl _ _) (int_wrap (by omega) (by omega))
                · intro t wq hbq hh K hK
                  have e2 := hh.1
                  simp only [pick] at e2
                  replace e2 : t 2 = (.bool false) := e2
                  have e5 := hh.2.1
                  simp only [pick] at e5
                  replace e5 : t 5 = (undef) := e5
                  have e8 := hh.2.2.1
                  simp only [pick] at e8
                  replace e8 : t 8 = (undef) := e8
                  clear hh
                  simp only [filled, upd, Have, is, any, row, pick, Act.put, List.setIfInBounds_toArray, List.set_cons_zero, List.set_cons_succ, Nat.reduceAdd, Nat.reduceEqDiff, reduceIte] at hK ⊢
                  simp only [e2, e5, e8] at hK ⊢
                  go_simp
                  exact hK _ _ (Below.refl _ _) rfl
                · intro t wq hbq hh K hK
                  have e2 := hh.1
                  simp only [pick] at e2
                  replace e2 : t 2 = (.bool false) := e2
                  have e9 := hh.2.1
                  simp only [pick] at e9
                  replace e9 : t 9 = (undef) := e9
                  clear hh
                  simp only [filled, upd, Have, is, any, row, pick, Act.put, List.setIfInBounds_toArray, List.set_cons_zero, List.set_cons_succ, Nat.reduceAdd, Nat.reduceEqDiff, reduceIte] at hK ⊢
                  simp only [e2, e9] at hK ⊢
                  go_simp
                  exact hK _ _ (Below.refl _ _) rfl
                · intro t wq hbq hh K hK
                  have e10 := hh.1
                  simp only [pick] at e10
                  replace e10 : t 10 = (.bool false) := e10
                  clear hh
                  simp only [filled, upd, Have, is, any, row, pick, Act.put, List.setIfInBounds_toArray, List.set_cons_zero, List.set_cons_succ, Nat.reduceAdd, Nat.reduceEqDiff, reduceIte] at hK ⊢
                  simp only [e10] at hK ⊢
                  go_simp
                  exact hK _ _ (Below.refl _ _) rfl
                · intro t wq hbq hh K hK
                  have e11 := hh.1
                  simp only [pick] at e11
                  replace e11 : t 11 = (.bool false) := e11
                  clear hh
                  simp only [filled, upd, Have, is, any, row, pick, Act.put, List.setIfInBounds_toArray, List.set_cons_zero, List.set_cons_succ, Nat.reduceAdd, Nat.reduceEqDiff, reduceIte] at hK ⊢
                  simp only [e11] at hK ⊢
                  go_simp
                  exact hK _ _ (Below.refl _ _) rfl
                · intro t wq hbq hh K hK
                  have e11 := hh.1
                  simp only [pick] at e11
                  replace e11 : t 11 = (.bool false) := e11
                  have e12 := hh.2.1
                  simp only [pick] at e12
                  replace e12 : t 12 = (.pointer (some ⟨w2.heap.size, 6, none⟩)) := e12
                  clear hh
                  simp only [filled, upd, Have, is, any, row, pick, Act.put, List.setIfInBounds_toArray, List.set_cons_zero, List.set_cons_succ, Nat.reduceAdd, Nat.reduceEqDiff, reduceIte] at hK ⊢
                  simp only [e11, e12] at hK ⊢
                  obtain ⟨ka0, ka1, ka2, ka3, ka4, ka5, ka6, ka7, ka8, ka9, ka10, ka11, ka12⟩ := (X1_7.out.below hbq).facts
                  rw [HO.out] at ka6
                  go_simp
                  exact hK _ _ (Below.refl _ _) rfl
                · intro t wq hbq hh K hK
                  have e11 := hh.1
                  simp only [pick] at e11
                  replace e11 : t 11 = (.bool false) := e11
                  have e13 := hh.2.1
                  simp only [pick] at e13
                  replace e13 : t 13 = (.bool false) := e13
                  clear hh
                  simp only [filled, upd, Have, is, any, row, pick, Act.put, List.setIfInBounds_toArray, List.set_cons_zero, List.set_cons_succ, Nat.reduceAdd, Nat.reduceEqDiff, reduceIte] at hK ⊢
                  simp only [e11, e13] at hK ⊢
                  go_simp
                  exact hK _ _ (Below.refl _ _) rfl
                · intro t wq hbq hh K hK
                  have e11 := hh.1
                  simp only [pick] at e11
                  replace e11 : t 11 = (.bool false) := e11
                  have e14 := hh.2.1
                  simp only [pick] at e14
                  replace e14 : t 14 = (.bool true) := e14
                  clear hh
                  simp only [filled, upd, Have, is, any, row, pick, Act.put, List.setIfInBounds_toArray, List.set_cons_zero, List.set_cons_succ, Nat.reduceAdd, Nat.reduceEqDiff, reduceIte] at hK ⊢
                  simp only [e11, e14] at hK ⊢
                  go_simp
                  exact hK _ _ (Below.refl _ _) rfl
                · intro t wq hbq hh K hK
                  have e15 := hh.1
                  simp only [pick] at e15
                  replace e15 : t 15 = (.bool true) := e15
                  clear hh
                  simp only [filled, upd, Have, is, any, row, pick, Act.put, List.setIfInBounds_toArray, List.set_cons_zero, List.set_cons_succ, Nat.reduceAdd, Nat.reduceEqDiff, reduceIte] at hK ⊢
                  simp only [e15] at hK ⊢
                  go_simp
                  exact hK _ _ (Below.refl _ _) rfl
                · intro t wq hbq hh K hK
                  have e15 := hh.1
                  simp only [pick] at e15
                  replace e15 : t 15 = (.bool true) := e15
                  have e16 := hh.2.1
                  simp only [pick] at e16
                  replace e16 : t 16 = (.int .i64 0) := e16
                  clear hh
                  simp only [filled, upd, Have, is, any, row, pick, Act.put, List.setIfInBounds_toArray, List.set_cons_zero, List.set_cons_succ, Nat.reduceAdd, Nat.reduceEqDiff, reduceIte] at hK ⊢
                  simp only [e15, e16] at hK ⊢
                  go_simp
                  first | exact hK _ _ (Below.refl _ _) rfl | exact hK _ _ (Below.refl _ _) (int_wrap (by omega) (by omega))
                · intro t wq hbq hh K hK
                  have e15 := hh.1
                  simp only [pick] at e15
                  replace e15 : t 15 = (.bool true) := e15
                  have e17 := hh.2.1
                  simp only [pick] at e17
                  replace e17 : t 17 = (.bool false) := e17
                  clear hh
                  simp only [filled, upd, Have, is, any, row, pick, Act.put, List.setIfInBounds_toArray, List.set_cons_zero, List.set_cons_succ, Nat.reduceAdd, Nat.reduceEqDiff, reduceIte] at hK ⊢
                  simp only [e15, e17] at hK ⊢
                  go_simp
                  exact hK _ _ (Below.refl _ _) rfl
                · intro t wq hbq hh K hK
                  have e18 := hh.1
                  simp only [pick] at e18
                  replace e18 : t 18 = (.bool false) := e18
                  clear hh
                  simp only [filled, upd, Have, is, any, row, pick, Act.put, List.setIfInBounds_toArray, List.set_cons_zero, List.set_cons_succ, Nat.reduceAdd, Nat.reduceEqDiff, reduceIte] at hK ⊢
                  simp only [e18] at hK ⊢
                  obtain ⟨ka0, ka1, ka2, ka3, ka4, ka5, ka6, ka7, ka8, ka9, ka10, ka11, ka12⟩ := (X2_7.out.below hbq).facts
                  go_simp
                  exact hK _ _ (Below.refl _ _) rfl
                · intro t wq hbq hh K hK
                  have e18 := hh.1
                  simp only [pick] at e18
                  replace e18 : t 18 = (.bool false) := e18
                  have e19 := hh.2.1
                  simp only [pick] at e19
                  replace e19 : t 19 = (.agg #[.string (strOf a.sch), .string (strOf a.usr), .string (strOf a.pwd), .string (strOf a.hst), .bool a.hh, .int .i64 a.port, .bool a.opq, .string (strOf a.txt), .slice A2 n2 c2, .bool a.hq, .bool a.hf, .string (strOf a.qry), .string (strOf a.frg)]) := e19
                  clear hh
                  simp only [filled, upd, Have, is, any, row, pick, Act.put, List.setIfInBounds_toArray, List.set_cons_zero, List.set_cons_succ, Nat.reduceAdd, Nat.reduceEqDiff, reduceIte] at hK ⊢
                  simp only [e18, e19] at hK ⊢
                  go_simp
                  refine (HPA.out _ _ _ _ (T2_7.out.below hbq) (E_7.out.below hbq)).mono ?_
                  rintro e w5 ⟨rfl, hb5⟩
                  exact hK _ _ hb5 rfl
                · intro t wq hbq hh K hK
                  have e18 := hh.1
                  simp only [pick] at e18
                  replace e18 : t 18 = (.bool false) := e18
                  clear hh
                  simp only [filled, upd, Have, is, any, row, pick, Act.put, List.setIfInBounds_toArray, List.set_cons_zero, List.set_cons_succ, Nat.reduceAdd, Nat.reduceEqDiff, reduceIte] at hK ⊢
                  simp only [e18] at hK ⊢
                  obtain ⟨ka0, ka1, ka2, ka3, ka4, ka5, ka6, ka7, ka8, ka9, ka10, ka11, ka12⟩ := (X1_7.out.below hbq).facts
                  go_simp
                  exact hK _ _ (Below.refl _ _) rfl
                · intro t wq hbq hh K hK
                  have e18 := hh.1
                  simp only [pick] at e18
                  replace e18 : t 18 = (.bool false) := e18
                  have e21 := hh.2.1
                  simp only [pick] at e21
                  replace e21 : t 21 = (.agg #[.string (strOf b.sch), .string (strOf b.usr), .string (strOf b.pwd), .string (strOf b.hst), .bool b.hh, .int .i64 b.port, .bool b.opq, .string (strOf b.txt), .slice A1 n1 c1, .bool b.hq, .bool b.hf, .string (strOf b.qry), .string (strOf b.frg)]) := e21
                  clear hh
                  simp only [filled, upd, Have, is, any, row, pick, Act.put, List.setIfInBounds_toArray, List.set_cons_zero, List.set_cons_succ, Nat.reduceAdd, Nat.reduceEqDiff, reduceIte] at hK ⊢
                  simp only [e18, e21] at hK ⊢
                  go_simp
                  refine (HBA.out _ _ _ _ (T1_7.out.below hbq) (E_7.out.below hbq)).mono ?_
                  rintro e w5 ⟨rfl, hb5⟩
                  exact hK _ _ hb5 rfl
                · intro t wq hbq hh K hK
                  have e18 := hh.1
                  simp only [pick] at e18
                  replace e18 : t 18 = (.bool false) := e18
                  have e20 := hh.2.1
                  simp only [pick] at e20
                  replace e20 : t 20 = (.string (strOf BL)) := e20
                  have e22 := hh.2.2.1
                  simp only [pick] at e22
                  replace e22 : t 22 = (.string (strOf BL)) := e22
                  clear hh
                  simp only [filled, upd, Have, is, any, row, pick, Act.put, List.setIfInBounds_toArray, List.set_cons_zero, List.set_cons_succ, Nat.reduceAdd, Nat.reduceEqDiff, reduceIte] at hK ⊢
                  simp only [e18, e20, e22] at hK ⊢
                  go_simp
                  exact hK _ _ (Below.refl _ _) (by first | rfl | simp)
                · intro t wq hbq hh K hK
                  have e15 := hh.1
                  simp only [pick] at e15
                  replace e15 : t 15 = (.bool true) := e15
                  have e18 := hh.2.1
                  simp only [pick] at e18
                  replace e18 : t 18 = (.bool false) := e18
                  have e23 := hh.2.2.1
                  simp only [pick] at e23
                  replace e23 : t 23 = (.bool false) := e23
                  clear hh
                  simp only [filled, upd, Have, is, any, row, pick, Act.put, List.setIfInBounds_toArray, List.set_cons_zero, List.set_cons_succ, Nat.reduceAdd, Nat.reduceEqDiff, reduceIte] at hK ⊢
                  simp only [e15, e18, e23] at hK ⊢
                  go_simp
                  exact hK _ _ (Below.refl _ _) rfl
                · intro t wq hbq hh K hK
                  have e11 := hh.1
                  simp only [pick] at e11
                  replace e11 : t 11 = (.bool false) := e11
                  have e15 := hh.2.1
                  simp only [pick] at e15
                  replace e15 : t 15 = (.bool true) := e15
                  have e24 := hh.2.2.1
                  simp only [pick] at e24
                  replace e24 : t 24 = (.bool false) := e24
                  clear hh
                  simp only [filled, upd, Have, is, any, row, pick, Act.put, List.setIfInBounds_toArray, List.set_cons_zero, List.set_cons_succ, Nat.reduceAdd, Nat.reduceEqDiff, reduceIte] at hK ⊢
                  simp only [e11, e15, e24] at hK ⊢
                  go_simp
                  exact hK _ _ (Below.refl _ _) rfl
                · intro t wq hbq hh K hK
                  have e11 := hh.1
                  simp only [pick] at e11
                  replace e11 : t 11 = (.bool false) := e11
                  have e25 := hh.2.1
                  simp only [pick] at e25
                  replace e25 : t 25 = (.bool false) := e25
                  clear hh
                  simp only [filled, upd, Have, is, any, row, pick, Act.put, List.setIfInBounds_toArray, List.set_cons_zero, List.set_cons_succ, Nat.reduceAdd, Nat.reduceEqDiff, reduceIte] at hK ⊢
                  simp only [e11, e25] at hK ⊢
                  go_simp
                  exact hK _ _ (Below.refl _ _) rfl
              · intro t wq hbq hh
                have f26 := have_get hh 26 (by decide)
                simp only [pick] at f26
                replace f26 : t 26 = (.bool false) := f26
                clear hh
                simp only [filled, upd, Have, is, any, row, pick, Act.put, List.setIfInBounds_toArray, List.set_cons_zero, List.set_cons_succ, Nat.reduceAdd, Nat.reduceEqDiff, reduceIte]
                simp only [f26]
                have HB8 := hid (bel HB7.out hbq)
                have E_8 := hid (E_7.out.below hbq)
                have T1_8 := hid (T1_7.out.below hbq)
                have X1_8 := hid (X1_7.out.below hbq)
                have T2_8 := hid (T2_7.out.below hbq)
                have X2_8 := hid (X2_7.out.below hbq)
                have T3_8 := hid (T3_7.out.below hbq)
                have X3_8 := hid (X3.out.below hbq)
                clear hbq
                go_upto_region 16 with (fail)
                refine wp_region_rel (by kernel_rfl) [is (.int .i64 0), is (.bool true), is (.bool true), is (.agg #[.string (strOf v.sch), .string (strOf v.usr), .string (strOf v.pwd), .string (strOf v.hst), .bool v.hh, .int .i64 v.port, .bool v.opq, .string (strOf v.txt), .slice A3 n3 c3, .bool v.hq, .bool v.hf, .string (strOf v.qry), .string (strOf v.frg)]), is (.string (strOf PV)), is (.agg #[.string (strOf b.sch), .string (strOf b.usr), .string (strOf b.pwd), .string (strOf b.hst), .bool b.hh, .int .i64 b.port, .bool b.opq, .string (strOf b.txt), .slice A1 n1 c1, .bool b.hq, .bool b.hf, .string (strOf b.qry), .string (strOf b.frg)]), is (.string (strOf BL)), is (.string (strOf BM)), is (.string s1), is (.string (strOf PV)), is (.bool true), is (.bool true), is (.bool true)] [[], [0], [1], [2], [2, 3], [2], [2, 5], [2, 6], [2], [2, 7, 8], [2, 4, 9], [2, 10], [11]] (by kernel_rfl) ?_ ?_
                · refine ⟨?_, ?_, ?_, ?_, ?_, ?_, ?_, ?_, ?_, ?_, ?_, ?_, ?_, trivial⟩
                  · intro t wq hbq hh K hK
                    clear hh
                    simp only [filled, upd, Have, is, any, row, pick, Act.put, List.setIfInBounds_toArray, List.set_cons_zero, List.set_cons_succ, Nat.reduceAdd, Nat.reduceEqDiff, reduceIte] at hK ⊢
                    go_simp
                    exact hK _ _ (Below.refl _ _) rfl
                  · intro t wq hbq hh K hK
                    have e0 := hh.1
                    simp only [pick] at e0
                    replace e0 : t 0 = (.int .i64 0) := e0
                    clear hh
                    simp only [filled, upd, Have, is, any, row, pick, Act.put, List.setIfInBounds_toArray, List.set_cons_zero, List.set_cons_succ, Nat.reduceAdd, Nat.reduceEqDiff, reduceIte] at hK ⊢
                    simp only [e0] at hK ⊢
                    go_simp
                    first | exact hK _ _ (Below.refl _ _) rfl | exact hK _ _ (Below.refl _ _) (int_wrap (by omega) (by omega))
                  · intro t wq hbq hh K hK
                    have e1 := hh.1
                    simp only [pick] at e1
                    replace e1 : t 1 = (.bool true) := e1
                    clear hh
                    simp only [filled, upd, Have, is, any, row, pick, Act.put, List.setIfInBounds_toArray, List.set_cons_zero, List.set_cons_succ, Nat.reduceAdd, Nat.reduceEqDiff, reduceIte] at hK ⊢
                    simp only [e1] at hK ⊢
                    go_simp
                    exact hK _ _ (Below.refl _ _) rfl
                  · intro t wq hbq hh K hK
                    have e2 := hh.1
                    simp only [pick] at e2
                    replace e2 : t 2 = (.bool true) := e2
                    clear hh
                    simp only [filled, upd, Have, is, any, row, pick, Act.put, List.setIfInBounds_toArray, List.set_cons_zero, List.set_cons_succ, Nat.reduceAdd, Nat.reduceEqDiff, reduceIte] at hK ⊢
                    simp only [e2] at hK ⊢
                    obtain ⟨ka0, ka1, ka2, ka3, ka4, ka5, ka6, ka7, ka8, ka9, ka10, ka11, ka12⟩ := (X3_8.out.below hbq).facts
                    go_simp
                    exact hK _ _ (Below.refl _ _) rfl
                  · intro t wq hbq hh K hK
                    have e2 := hh.1
                    simp only [pick] at e2
                    replace e2 : t 2 = (.bool true) := e2
                    have e3 := hh.2.1
                    simp only [pick] at e3
                    replace e3 : t 3 = (.agg #[.string (strOf v.sch), .string (strOf v.usr), .string (strOf v.pwd), .string (strOf v.hst), .bool v.hh, .int .i64 v.port, .bool v.opq, .string (strOf v.txt), .slice A3 n3 c3, .bool v.hq, .bool v.hf, .string (strOf v.qry), .string (strOf v.frg)]) := e3
                    clear hh
                    simp only [filled, upd, Have, is, any, row, pick, Act.put, List.setIfInBounds_toArray, List.set_cons_zero, List.set_cons_succ, Nat.reduceAdd, Nat.reduceEqDiff, reduceIte] at hK ⊢
                    simp only [e2, e3] at hK ⊢
                    go_simp
                    refine (HPV.out _ _ _ _ (T3_8.out.below hbq) (E_8.out.below hbq)).mono ?_
                    rintro e w5 ⟨rfl, hb5⟩
                    exact hK _ _ hb5 rfl
                  · intro t wq hbq hh K hK
                    have e2 := hh.1
                    simp only [pick] at e2
                    replace e2 : t 2 = (.bool true) := e2
                    clear hh
                    simp only [filled, upd, Have, is, any, row, pick, Act.put, List.setIfInBounds_toArray, List.set_cons_zero, List.set_cons_succ, Nat.reduceAdd, Nat.reduceEqDiff, reduceIte] at hK ⊢
                    simp only [e2] at hK ⊢
                    obtain ⟨ka0, ka1, ka2, ka3, ka4, ka5, ka6, ka7, ka8, ka9, ka10, ka11, ka12⟩ := (X1_8.out.below hbq).facts
                    go_simp
                    exact hK _ _ (Below.refl _ _) rfl
                  · intro t wq hbq hh K hK
                    have e2 := hh.1
                    simp only [pick] at e2
                    replace e2 : t 2 = (.bool true) := e2
                    have e5 := hh.2.1
                    simp only [pick] at e5
                    replace e5 : t 5 = (.agg #[.string (strOf b.sch), .string (strOf b.usr), .string (strOf b.pwd), .string (strOf b.hst), .bool b.hh, .int .i64 b.port, .bool b.opq, .string (strOf b.txt), .slice A1 n1 c1, .bool b.hq, .bool b.hf, .string (strOf b.qry), .string (strOf b.frg)]) := e5
                    clear hh
                    simp only [filled, upd, Have, is, any, row, pick, Act.put, List.setIfInBounds_toArray, List.set_cons_zero, List.set_cons_succ, Nat.reduceAdd, Nat.reduceEqDiff, reduceIte] at hK ⊢
                    simp only [e2, e5] at hK ⊢
                    go_simp
                    refine (HBA.out _ _ _ _ (T1_8.out.below hbq) (E_8.out.below hbq)).mono ?_
                    rintro e w5 ⟨rfl, hb5⟩
                    exact hK _ _ hb5 rfl
                  · intro t wq hbq hh K hK
                    have e2 := hh.1
                    simp only [pick] at e2
                    replace e2 : t 2 = (.bool true) := e2
                    have e6 := hh.2.1
                    simp only [pick] at e6
                    replace e6 : t 6 = (.string (strOf BL)) := e6
                    clear hh
                    simp only [filled, upd, Have, is, any, row, pick, Act.put, List.setIfInBounds_toArray, List.set_cons_zero, List.set_cons_succ, Nat.reduceAdd, Nat.reduceEqDiff, reduceIte] at hK ⊢
                    simp only [e2, e6] at hK ⊢
                    have hadd := a1 wq
                    go_simp
                    exact hK _ _ (Below.refl _ _) rfl
                  · intro t wq hbq hh K hK
                    have e2 := hh.1
                    simp only [pick] at e2
                    replace e2 : t 2 = (.bool true) := e2
                    clear hh
                    simp only [filled, upd, Have, is, any, row, pick, Act.put, List.setIfInBounds_toArray, List.set_cons_zero, List.set_cons_succ, Nat.reduceAdd, Nat.reduceEqDiff, reduceIte] at hK ⊢
                    simp only [e2] at hK ⊢
                    go_simp
                    exact hK _ _ (Below.refl _ _) rfl
                  · intro t wq hbq hh K hK
                    have e2 := hh.1
                    simp only [pick] at e2
                    replace e2 : t 2 = (.bool true) := e2
                    have e7 := hh.2.1
                    simp only [pick] at e7
                    replace e7 : t 7 = (.string (strOf BM)) := e7
                    have e8 := hh.2.2.1
                    simp only [pick] at e8
                    replace e8 : t 8 = (.string s1) := e8
                    clear hh
                    simp only [filled, upd, Have, is, any, row, pick, Act.put, List.setIfInBounds_toArray, List.set_cons_zero, List.set_cons_succ, Nat.reduceAdd, Nat.reduceEqDiff, reduceIte] at hK ⊢
                    simp only [e2, e7, e8] at hK ⊢
                    have hadd := a2 wq
                    go_simp
                    exact hK _ _ (Below.refl _ _) rfl
                  · intro t wq hbq hh K hK
                    have e2 := hh.1
                    simp only [pick] at e2
                    replace e2 : t 2 = (.bool true) := e2
                    have e4 := hh.2.1
                    simp only [pick] at e4
                    replace e4 : t 4 = (.string (strOf PV)) := e4
                    have e9 := hh.2.2.1
                    simp only [pick] at e9
                    replace e9 : t 9 = (.string (strOf PV)) := e9
                    clear hh
                    simp only [filled, upd, Have, is, any, row, pick, Act.put, List.setIfInBounds_toArray, List.set_cons_zero, List.set_cons_succ, Nat.reduceAdd, Nat.reduceEqDiff, reduceIte] at hK ⊢
                    simp only [e2, e4, e9] at hK ⊢
                    go_simp
                    exact hK _ _ (Below.refl _ _) (by first | rfl | simp)
                  · intro t wq hbq hh K hK
                    have e2 := hh.1
                    simp only [pick] at e2
                    replace e2 : t 2 = (.bool true) := e2
                    have e10 := hh.2.1
                    simp only [pick] at e10
                    replace e10 : t 10 = (.bool true) := e10
                    clear hh
                    simp only [filled, upd, Have, is, any, row, pick, Act.put, List.setIfInBounds_toArray, List.set_cons_zero, List.set_cons_succ, Nat.reduceAdd, Nat.reduceEqDiff, reduceIte] at hK ⊢
                    simp only [e2, e10] at hK ⊢
                    go_simp
                    exact hK _ _ (Below.refl _ _) rfl
                  · intro t wq hbq hh K hK
                    have e11 := hh.1
                    simp only [pick] at e11
                    replace e11 : t 11 = (.bool true) := e11
                    clear hh
                    simp only [filled, upd, Have, is, any, row, pick, Act.put, List.setIfInBounds_toArray, List.set_cons_zero, List.set_cons_succ, Nat.reduceAdd, Nat.reduceEqDiff, reduceIte] at hK ⊢
                    simp only [e11] at hK ⊢
                    go_simp
                    exact hK _ _ (Below.refl _ _) rfl
                · intro t wq hbq hh
                  have f12 := have_get hh 12 (by decide)
                  simp only [pick] at f12
                  replace f12 : t 12 = (.bool true) := f12
                  clear hh
                  simp only [filled, upd, Have, is, any, row, pick, Act.put, List.setIfInBounds_toArray, List.set_cons_zero, List.set_cons_succ, Nat.reduceAdd, Nat.reduceEqDiff, reduceIte]
                  simp only [f12]
                  go_wp2
                  go_ret
                  exact ⟨rfl, bel HB8.out hbq⟩
    · have hli1 : (100 : Int) < (s1.size : Int) := by omega
      go_enter Tryz.func9, Tryz.ntmps9
      go_wp2_with fail
      refine (HAW.out _ HE.out).mono ?_
      rintro e w1 ⟨rfl, hb⟩
      have HB1 := hid hb
      have E_1 := hid (HE.out.below hb)
      clear hb
      go_wp2_with fail
      refine (HAW.out _ E_1.out).mono ?_
      rintro e w2 ⟨rfl, hb⟩
      have HB2 := hid (bel HB1.out hb)
      have E_2 := hid (E_1.out.below hb)
      clear hb
      go_wp2
      go_ret
      exact ⟨rfl, HB2.out⟩
  · have hli0 : (1000 : Int) < (s0.size : Int) := by omega
    go_enter Tryz.func9, Tryz.ntmps9
    go_wp2_with fail
    refine (HAW.out _ HE.out).mono ?_
    rintro e w1 ⟨rfl, hb⟩
    have HB1 := hid hb
    have E_1 := hid (HE.out.below hb)
    clear hb
    go_wp2_with fail
    refine (HAW.out _ E_1.out).mono ?_
    rintro e w2 ⟨rfl, hb⟩
    have HB2 := hid (bel HB1.out hb)
    have E_2 := hid (E_1.out.below hb)
    clear hb
    go_wp2
    go_ret
    exact ⟨rfl, HB2.out⟩
end Go.Proofs.YtaooiggckcfanaaGreatDoor.Laws
