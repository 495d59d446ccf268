/- The law ParseBases, walked. -/
import Derived.Test.YtaooiggckcfanaaGreatDoorMS
import Derived.Test.YtaooiggckcfanaaGreatDoorMO
namespace Go.Proofs.YtaooiggckcfanaaGreatDoor.Laws
open Go.RowKit Go.Proofs.YtaooiggckcfanaaGreatDoor.Base Go.Proofs.YtaooiggckcfanaaGreatDoor.Base2 Go.Proofs.YtaooiggckcfanaaGreatDoor.UtfL Go.Proofs.YtaooiggckcfanaaGreatDoor.UrlA Go.Proofs.YtaooiggckcfanaaGreatDoor.UrlC Go.Proofs.YtaooiggckcfanaaGreatDoor.UrlF Go.Proofs.YtaooiggckcfanaaGreatDoor.HstC Go.Proofs.YtaooiggckcfanaaGreatDoor.PrsP Go.Proofs.YtaooiggckcfanaaGreatDoor.Ubx Go.Proofs.YtaooiggckcfanaaGreatDoor.PrsC Go.Proofs.YtaooiggckcfanaaGreatDoor.PrsD Go.Proofs.YtaooiggckcfanaaGreatDoor.SixG Go.Proofs.YtaooiggckcfanaaGreatDoor.Spl Go.Proofs.YtaooiggckcfanaaGreatDoor.PrsG Go.Proofs.YtaooiggckcfanaaGreatDoor.PrsR Go.Proofs.YtaooiggckcfanaaGreatDoor.PrsS Go.Proofs.YtaooiggckcfanaaGreatDoor.PrsV Go.Proofs.YtaooiggckcfanaaGreatDoor.PrsY Go.Proofs.YtaooiggckcfanaaGreatDoor.Ulw Go.Proofs.YtaooiggckcfanaaGreatDoor.PrsW

set_option linter.unusedSimpArgs false in
set_option maxRecDepth 100000 in
set_option maxHeartbeats 8000000 in
theorem ParseBases_any (s0 s1 : ByteArray) (w : World) (h0 : s0.size ≤ 140737488351232) (h1 : s1.size ≤ 140737488351232) (hT : Tab.Pow w) (hL : Lad w) (hM : Max w) (hU : Utab w) : Calls Tryz.prog 6 #[.string s0, .string s1] w fun e w' => e = .returned (.bool true) ∧ Below w.heap.size w w' := by
  have HE := hid (⟨hT, hL, hM, hU⟩ : Env w)
  have HAW : Hid (∀ w : World, Env w → Calls Tryz.prog 15 #[] w fun e w' => e = .returned (.bool true) ∧ Below w.heap.size w w') := fun w E => awake_any w E
  clear hT hL hM hU
  by_cases hl : s0.size + s1.size ≤ 2000
  · have hli : ¬ (2000 : Int) < (s1.size : Int) + (s0.size : Int) := by omega
    obtain ⟨u0, hu0⟩ : ∃ u0, u0 = U0 := ⟨_, rfl⟩
    have HU0 := hid hu0
    cases e1 : PrsP.url s1.data.toList none with
    | none =>
      have HP1 : Hid (∀ w, Env w → Calls Tryz.prog 16 #[.string s1, .pointer none] w fun e w' => ∃ A' n' c', e = .returned (.tuple #[.agg #[.string (strOf u0.sch), .string (strOf u0.usr), .string (strOf u0.pwd), .string (strOf u0.hst), .bool u0.hh, .int .i64 u0.port, .bool u0.opq, .string (strOf u0.txt), .slice A' n' c', .bool u0.hq, .bool u0.hf, .string (strOf u0.qry), .string (strOf u0.frg)], .int .i64 2]) ∧ Pt w' u0 A' n' c' ∧ Below w.heap.size w w') := fun w E => parse_none HU0.out e1 (by omega) w E
      cases e2 : PrsP.url s0.data.toList none with
      | none =>
        have HP2 : Hid (∀ w, Env w → Calls Tryz.prog 16 #[.string s0, .pointer none] w fun e w' => ∃ A' n' c', e = .returned (.tuple #[.agg #[.string (strOf u0.sch), .string (strOf u0.usr), .string (strOf u0.pwd), .string (strOf u0.hst), .bool u0.hh, .int .i64 u0.port, .bool u0.opq, .string (strOf u0.txt), .slice A' n' c', .bool u0.hq, .bool u0.hf, .string (strOf u0.qry), .string (strOf u0.frg)], .int .i64 2]) ∧ Pt w' u0 A' n' c' ∧ Below w.heap.size w w') := fun w E => parse_none HU0.out e2 (by omega) w E
        clear e1 e2 hu0 hl h0 h1
        go_enter Tryz.func6, Tryz.ntmps6
        go_wp2_with fail
        refine (HAW.out _ HE.out).mono ?_
        rintro e w1 ⟨rfl, hb⟩
        have HB1 := hid hb
        have E_1 := hid (HE.out.below hb)
        clear hb
        go_wp2_with fail
        refine (HP1.out _ E_1.out).mono ?_
        rintro e w2 ⟨A1, n1, c1, rfl, hpt, hb⟩
        have HB2 := hid (bel HB1.out hb)
        have E_2 := hid (E_1.out.below hb)
        clear hb
        have T1 := hid (hpt)
        clear hpt
        go_upto_region 4 with (fail)
        generalize hwa : World.alloc _ _ = v3
        have hxa : UB v3 (w2.heap.size) u0 (.slice A1 n1 c1) := by rw [← hwa]; exact heap_alloc_new _ _
        have hb : Below w2.heap.size w2 v3 := by rw [← hwa]; exact (Below.refl _ _).alloc (Nat.le_refl _) _
        have X1 := hid hxa
        clear hwa hxa
        have HB3 := hid (bel HB2.out hb)
        have E_3 := hid (E_2.out.below hb)
        have T1_3 := hid (T1.out.below hb)
        clear hb
        go_wp2_with fail
        refine (HP2.out _ E_3.out).mono ?_
        rintro e w4 ⟨A2, n2, c2, rfl, hpt, hb⟩
        have HB4 := hid (bel HB3.out hb)
        have E_4 := hid (E_3.out.below hb)
        have T1_4 := hid (T1_3.out.below hb)
        have X1_4 := hid (X1.out.below hb)
        clear hb
        have T2 := hid (hpt)
        clear hpt
        go_upto_region 5 with (fail)
        generalize hwa : World.alloc _ _ = v5
        have hxa : UB v5 (w4.heap.size) u0 (.slice A2 n2 c2) := by rw [← hwa]; exact heap_alloc_new _ _
        have hb : Below w4.heap.size w4 v5 := by rw [← hwa]; exact (Below.refl _ _).alloc (Nat.le_refl _) _
        have X2 := hid hxa
        clear hwa hxa
        have HB5 := hid (bel HB4.out hb)
        have E_5 := hid (E_4.out.below hb)
        have T1_5 := hid (T1_4.out.below hb)
        have X1_5 := hid (X1_4.out.below hb)
        have T2_5 := hid (T2.out.below hb)
        clear hb
        go_wp2
        go_ret
        exact ⟨rfl, HB5.out⟩
      | some b =>
        have HP2 : Hid (∀ w, Env w → Calls Tryz.prog 16 #[.string s0, .pointer none] w fun e w' => ∃ A' n' c', e = .returned (.tuple #[.agg #[.string (strOf b.sch), .string (strOf b.usr), .string (strOf b.pwd), .string (strOf b.hst), .bool b.hh, .int .i64 b.port, .bool b.opq, .string (strOf b.txt), .slice A' n' c', .bool b.hq, .bool b.hf, .string (strOf b.qry), .string (strOf b.frg)], .int .i64 0]) ∧ Pt w' b A' n' c' ∧ Below w.heap.size w w') := fun w E => parse_some e2 (by omega) w E
        clear e1 e2 hu0 hl h0 h1
        go_enter Tryz.func6, Tryz.ntmps6
        go_wp2_with fail
        refine (HAW.out _ HE.out).mono ?_
        rintro e w1 ⟨rfl, hb⟩
        have HB1 := hid hb
        have E_1 := hid (HE.out.below hb)
        clear hb
        go_wp2_with fail
        refine (HP1.out _ E_1.out).mono ?_
        rintro e w2 ⟨A1, n1, c1, rfl, hpt, hb⟩
        have HB2 := hid (bel HB1.out hb)
        have E_2 := hid (E_1.out.below hb)
        clear hb
        have T1 := hid (hpt)
        clear hpt
        go_upto_region 4 with (fail)
        generalize hwa : World.alloc _ _ = v3
        have hxa : UB v3 (w2.heap.size) u0 (.slice A1 n1 c1) := by rw [← hwa]; exact heap_alloc_new _ _
        have hb : Below w2.heap.size w2 v3 := by rw [← hwa]; exact (Below.refl _ _).alloc (Nat.le_refl _) _
        have X1 := hid hxa
        clear hwa hxa
        have HB3 := hid (bel HB2.out hb)
        have E_3 := hid (E_2.out.below hb)
        have T1_3 := hid (T1.out.below hb)
        clear hb
        go_wp2_with fail
        refine (HP2.out _ E_3.out).mono ?_
        rintro e w4 ⟨A2, n2, c2, rfl, hpt, hb⟩
        have HB4 := hid (bel HB3.out hb)
        have E_4 := hid (E_3.out.below hb)
        have T1_4 := hid (T1_3.out.below hb)
        have X1_4 := hid (X1.out.below hb)
        clear hb
        have T2 := hid (hpt)
        clear hpt
        go_upto_region 5 with (fail)
        generalize hwa : World.alloc _ _ = v5
        have hxa : UB v5 (w4.heap.size) b (.slice A2 n2 c2) := by rw [← hwa]; exact heap_alloc_new _ _
        have hb : Below w4.heap.size w4 v5 := by rw [← hwa]; exact (Below.refl _ _).alloc (Nat.le_refl _) _
        have X2 := hid hxa
        clear hwa hxa
        have HB5 := hid (bel HB4.out hb)
        have E_5 := hid (E_4.out.below hb)
        have T1_5 := hid (T1_4.out.below hb)
        have X1_5 := hid (X1_4.out.below hb)
        have T2_5 := hid (T2.out.below hb)
        clear hb
        go_wp2
        go_ret
        exact ⟨rfl, HB5.out⟩
    | some u =>
      have HP1 : Hid (∀ w, Env w → Calls Tryz.prog 16 #[.string s1, .pointer none] w fun e w' => ∃ A' n' c', e = .returned (.tuple #[.agg #[.string (strOf u.sch), .string (strOf u.usr), .string (strOf u.pwd), .string (strOf u.hst), .bool u.hh, .int .i64 u.port, .bool u.opq, .string (strOf u.txt), .slice A' n' c', .bool u.hq, .bool u.hf, .string (strOf u.qry), .string (strOf u.frg)], .int .i64 0]) ∧ Pt w' u A' n' c' ∧ Below w.heap.size w w') := fun w E => parse_some e1 (by omega) w E
      cases e2 : PrsP.url s0.data.toList none with
      | none =>
        have HP2 : Hid (∀ w, Env w → Calls Tryz.prog 16 #[.string s0, .pointer none] w fun e w' => ∃ A' n' c', e = .returned (.tuple #[.agg #[.string (strOf u0.sch), .string (strOf u0.usr), .string (strOf u0.pwd), .string (strOf u0.hst), .bool u0.hh, .int .i64 u0.port, .bool u0.opq, .string (strOf u0.txt), .slice A' n' c', .bool u0.hq, .bool u0.hf, .string (strOf u0.qry), .string (strOf u0.frg)], .int .i64 2]) ∧ Pt w' u0 A' n' c' ∧ Below w.heap.size w w') := fun w E => parse_none HU0.out e2 (by omega) w E
        clear e1 e2 hu0 hl h0 h1
        go_enter Tryz.func6, Tryz.ntmps6
        go_wp2_with fail
        refine (HAW.out _ HE.out).mono ?_
        rintro e w1 ⟨rfl, hb⟩
        have HB1 := hid hb
        have E_1 := hid (HE.out.below hb)
        clear hb
        go_wp2_with fail
        refine (HP1.out _ E_1.out).mono ?_
        rintro e w2 ⟨A1, n1, c1, rfl, hpt, hb⟩
        have HB2 := hid (bel HB1.out hb)
        have E_2 := hid (E_1.out.below hb)
        clear hb
        have T1 := hid (hpt)
        clear hpt
        go_upto_region 4 with (fail)
        generalize hwa : World.alloc _ _ = v3
        have hxa : UB v3 (w2.heap.size) u (.slice A1 n1 c1) := by rw [← hwa]; exact heap_alloc_new _ _
        have hb : Below w2.heap.size w2 v3 := by rw [← hwa]; exact (Below.refl _ _).alloc (Nat.le_refl _) _
        have X1 := hid hxa
        clear hwa hxa
        have HB3 := hid (bel HB2.out hb)
        have E_3 := hid (E_2.out.below hb)
        have T1_3 := hid (T1.out.below hb)
        clear hb
        go_wp2_with fail
        refine (HP2.out _ E_3.out).mono ?_
        rintro e w4 ⟨A2, n2, c2, rfl, hpt, hb⟩
        have HB4 := hid (bel HB3.out hb)
        have E_4 := hid (E_3.out.below hb)
        have T1_4 := hid (T1_3.out.below hb)
        have X1_4 := hid (X1.out.below hb)
        clear hb
        have T2 := hid (hpt)
        clear hpt
        go_upto_region 5 with (fail)
        generalize hwa : World.alloc _ _ = v5
        have hxa : UB v5 (w4.heap.size) u0 (.slice A2 n2 c2) := by rw [← hwa]; exact heap_alloc_new _ _
        have hb : Below w4.heap.size w4 v5 := by rw [← hwa]; exact (Below.refl _ _).alloc (Nat.le_refl _) _
        have X2 := hid hxa
        clear hwa hxa
        have HB5 := hid (bel HB4.out hb)
        have E_5 := hid (E_4.out.below hb)
        have T1_5 := hid (T1_4.out.below hb)
        have X1_5 := hid (X1_4.out.below hb)
        have T2_5 := hid (T2.out.below hb)
        clear hb
        go_wp2
        go_ret
        exact ⟨rfl, HB5.out⟩
      | some b =>
        have HP2 : Hid (∀ w, Env w → Calls Tryz.prog 16 #[.string s0, .pointer none] w fun e w' => ∃ A' n' c', e = .returned (.tuple #[.agg #[.string (strOf b.sch), .string (strOf b.usr), .string (strOf b.pwd), .string (strOf b.hst), .bool b.hh, .int .i64 b.port, .bool b.opq, .string (strOf b.txt), .slice A' n' c', .bool b.hq, .bool b.hf, .string (strOf b.qry), .string (strOf b.frg)], .int .i64 0]) ∧ Pt w' b A' n' c' ∧ Below w.heap.size w w') := fun w E => parse_some e2 (by omega) w E
        have f1 := url_fit (M := 0) e2 (fun _ e => by cases e)
        have hsz : s0.data.toList.length ≤ 2000 := by rw [dl]; omega
        have HF2 := hid (f1.mono (show 0 + 15 * s0.data.toList.length + 300 ≤ 30300 by omega))
        clear f1
        cases hsp : special u.sch with
        | true =>
          have HSP : Hid (∀ w : World, Calls Tryz.prog 24 #[.string (strOf u.sch)] w fun e w' => e = .returned (.bool true) ∧ w' = w) := fun w => by
            have h := special_any (strOf u.sch) w
            rw [show (strOf u.sch).data.toList = u.sch from rfl, hsp] at h
            exact h
          clear e1 e2 hu0 hl h0 h1 hsp hsz
          go_enter Tryz.func6, Tryz.ntmps6
          go_wp2_with fail
          refine (HAW.out _ HE.out).mono ?_
          rintro e w1 ⟨rfl, hb⟩
          have HB1 := hid hb
          have E_1 := hid (HE.out.below hb)
          clear hb
          go_wp2_with fail
          refine (HP1.out _ E_1.out).mono ?_
          rintro e w2 ⟨A1, n1, c1, rfl, hpt, hb⟩
          have HB2 := hid (bel HB1.out hb)
          have E_2 := hid (E_1.out.below hb)
          clear hb
          have T1 := hid (hpt)
          clear hpt
          go_upto_region 4 with (fail)
          generalize hwa : World.alloc _ _ = v3
          have hxa : UB v3 (w2.heap.size) u (.slice A1 n1 c1) := by rw [← hwa]; exact heap_alloc_new _ _
          have hb : Below w2.heap.size w2 v3 := by rw [← hwa]; exact (Below.refl _ _).alloc (Nat.le_refl _) _
          have X1 := hid hxa
          clear hwa hxa
          have HB3 := hid (bel HB2.out hb)
          have E_3 := hid (E_2.out.below hb)
          have T1_3 := hid (T1.out.below hb)
          clear hb
          go_wp2_with fail
          refine (HP2.out _ E_3.out).mono ?_
          rintro e w4 ⟨A2, n2, c2, rfl, hpt, hb⟩
          have HB4 := hid (bel HB3.out hb)
          have E_4 := hid (E_3.out.below hb)
          have T1_4 := hid (T1_3.out.below hb)
          have X1_4 := hid (X1.out.below hb)
          clear hb
          have T2 := hid (hpt)
          clear hpt
          go_upto_region 5 with (fail)
          generalize hwa : World.alloc _ _ = v5
          have hxa : UB v5 (w4.heap.size) b (.slice A2 n2 c2) := by rw [← hwa]; exact heap_alloc_new _ _
          have hb : Below w4.heap.size w4 v5 := by rw [← hwa]; exact (Below.refl _ _).alloc (Nat.le_refl _) _
          have X2 := hid hxa
          clear hwa hxa
          have HB5 := hid (bel HB4.out hb)
          have E_5 := hid (E_4.out.below hb)
          have T1_5 := hid (T1_4.out.below hb)
          have X1_5 := hid (X1_4.out.below hb)
          have T2_5 := hid (T2.out.below hb)
          clear hb
          obtain ⟨ka0, ka1, ka2, ka3, ka4, ka5, ka6, ka7, ka8, ka9, ka10, ka11, ka12⟩ := X1_5.out.facts
          go_wp2_with fail
          clear ka0 ka1 ka2 ka3 ka4 ka5 ka6 ka7 ka8 ka9 ka10 ka11 ka12
          refine (HSP.out _).mono ?_
          rintro e w_ ⟨rfl, hw_⟩
          subst hw_
          go_wp2
          go_ret
          exact ⟨rfl, HB5.out⟩
        | false =>
          have HSP : Hid (∀ w : World, Calls Tryz.prog 24 #[.string (strOf u.sch)] w fun e w' => e = .returned (.bool false) ∧ w' = w) := fun w => by
            have h := special_any (strOf u.sch) w
            rw [show (strOf u.sch).data.toList = u.sch from rfl, hsp] at h
            exact h
          have e3 := PrsL.url_bases b e1 hsp
          have HP3 : Hid (∀ (gb : Nat) (A : Option Addr) (n c : Nat), n ≤ 100000 → ∀ w, UB w gb b (.slice A n c) → Pt w b A n c → Env w → Calls Tryz.prog 16 #[.string s1, .pointer (some ⟨gb, 0, none⟩)] w fun e w' => ∃ A' n' c', e = .returned (.tuple #[.agg #[.string (strOf u.sch), .string (strOf u.usr), .string (strOf u.pwd), .string (strOf u.hst), .bool u.hh, .int .i64 u.port, .bool u.opq, .string (strOf u.txt), .slice A' n' c', .bool u.hq, .bool u.hf, .string (strOf u.qry), .string (strOf u.frg)], .int .i64 0]) ∧ Pt w' u A' n' c' ∧ Below w.heap.size w w') := fun gb A n c hn w hB hP E => parseB_some e3 (by omega) gb A n c hn w hB hP E
          clear e3
          clear e1 e2 hu0 hl h0 h1 hsp hsz
          go_enter Tryz.func6, Tryz.ntmps6
          go_wp2_with fail
          refine (HAW.out _ HE.out).mono ?_
          rintro e w1 ⟨rfl, hb⟩
          have HB1 := hid hb
          have E_1 := hid (HE.out.below hb)
          clear hb
          go_wp2_with fail
          refine (HP1.out _ E_1.out).mono ?_
          rintro e w2 ⟨A1, n1, c1, rfl, hpt, hb⟩
          have HB2 := hid (bel HB1.out hb)
          have E_2 := hid (E_1.out.below hb)
          clear hb
          have T1 := hid (hpt)
          clear hpt
          go_upto_region 4 with (fail)
          generalize hwa : World.alloc _ _ = v3
          have hxa : UB v3 (w2.heap.size) u (.slice A1 n1 c1) := by rw [← hwa]; exact heap_alloc_new _ _
          have hb : Below w2.heap.size w2 v3 := by rw [← hwa]; exact (Below.refl _ _).alloc (Nat.le_refl _) _
          have X1 := hid hxa
          clear hwa hxa
          have HB3 := hid (bel HB2.out hb)
          have E_3 := hid (E_2.out.below hb)
          have T1_3 := hid (T1.out.below hb)
          clear hb
          go_wp2_with fail
          refine (HP2.out _ E_3.out).mono ?_
          rintro e w4 ⟨A2, n2, c2, rfl, hpt, hb⟩
          have HB4 := hid (bel HB3.out hb)
          have E_4 := hid (E_3.out.below hb)
          have T1_4 := hid (T1_3.out.below hb)
          have X1_4 := hid (X1.out.below hb)
          clear hb
          have T2 := hid (hpt)
          clear hpt
          go_upto_region 5 with (fail)
          generalize hwa : World.alloc _ _ = v5
          have hxa : UB v5 (w4.heap.size) b (.slice A2 n2 c2) := by rw [← hwa]; exact heap_alloc_new _ _
          have hb : Below w4.heap.size w4 v5 := by rw [← hwa]; exact (Below.refl _ _).alloc (Nat.le_refl _) _
          have X2 := hid hxa
          clear hwa hxa
          have HB5 := hid (bel HB4.out hb)
          have E_5 := hid (E_4.out.below hb)
          have T1_5 := hid (T1_4.out.below hb)
          have X1_5 := hid (X1_4.out.below hb)
          have T2_5 := hid (T2.out.below hb)
          clear hb
          obtain ⟨ka0, ka1, ka2, ka3, ka4, ka5, ka6, ka7, ka8, ka9, ka10, ka11, ka12⟩ := X1_5.out.facts
          go_wp2_with fail
          clear ka0 ka1 ka2 ka3 ka4 ka5 ka6 ka7 ka8 ka9 ka10 ka11 ka12
          refine (HSP.out _).mono ?_
          rintro e w_ ⟨rfl, hw_⟩
          subst hw_
          go_wp2_with fail
          refine (HP3.out _ _ _ _ (Nat.le_trans (T2_5.out.len HF2.out) (by decide)) _ X2.out T2_5.out E_5.out).mono ?_
          rintro e w6 ⟨A3, n3, c3, rfl, hpt, hb⟩
          have HB6 := hid (bel HB5.out hb)
          have E_6 := hid (E_5.out.below hb)
          have T1_6 := hid (T1_5.out.below hb)
          have X1_6 := hid (X1_5.out.below hb)
          have T2_6 := hid (T2_5.out.below hb)
          have X2_6 := hid (X2.out.below hb)
          clear hb
          have T3 := hid (hpt)
          clear hpt
          go_upto_region 8 with (fail)
          generalize hwa : World.alloc _ _ = v7
          have hxa : UB v7 (w6.heap.size) u (.slice A3 n3 c3) := by rw [← hwa]; exact heap_alloc_new _ _
          have hb : Below w6.heap.size w6 v7 := by rw [← hwa]; exact (Below.refl _ _).alloc (Nat.le_refl _) _
          have X3 := hid hxa
          clear hwa hxa
          have HB7 := hid (bel HB6.out hb)
          have E_7 := hid (E_6.out.below hb)
          have T1_7 := hid (T1_6.out.below hb)
          have X1_7 := hid (X1_6.out.below hb)
          have T2_7 := hid (T2_6.out.below hb)
          have X2_7 := hid (X2_6.out.below hb)
          have T3_7 := hid (T3.out.below hb)
          clear hb
          obtain ⟨ka0, ka1, ka2, ka3, ka4, ka5, ka6, ka7, ka8, ka9, ka10, ka11, ka12⟩ := X1_7.out.facts
          obtain ⟨kb0, kb1, kb2, kb3, kb4, kb5, kb6, kb7, kb8, kb9, kb10, kb11, kb12⟩ := X3.out.facts
          go_wp2_with fail
          clear ka0 ka1 ka2 ka3 ka4 ka5 ka6 ka7 ka8 ka9 ka10 ka11 ka12 kb0 kb1 kb2 kb3 kb4 kb5 kb6 kb7 kb8 kb9 kb10 kb11 kb12
          refine (same_yes u _ _ _ _ _ _ _ T1_7.out T3_7.out).mono ?_
          rintro e w8 ⟨rfl, hb⟩
          have HB8 := hid (bel HB7.out hb)
          have E_8 := hid (E_7.out.below hb)
          have T1_8 := hid (T1_7.out.below hb)
          have X1_8 := hid (X1_7.out.below hb)
          have T2_8 := hid (T2_7.out.below hb)
          have X2_8 := hid (X2_7.out.below hb)
          have T3_8 := hid (T3_7.out.below hb)
          have X3_8 := hid (X3.out.below hb)
          clear hb
          go_wp2
          go_ret
          exact ⟨rfl, HB8.out⟩
  · have hli : (2000 : Int) < (s1.size : Int) + (s0.size : Int) := by omega
    clear hl
    go_enter Tryz.func6, Tryz.ntmps6
    go_wp2_with fail
    refine (HAW.out _ HE.out).mono ?_
    rintro e w1 ⟨rfl, hb⟩
    have HB1 := hid hb
    have E_1 := hid (HE.out.below hb)
    clear hb
    go_wp2_with fail
    refine (HAW.out _ E_1.out).mono ?_
    rintro e w2 ⟨rfl, hb⟩
    have HB2 := hid (bel HB1.out hb)
    have E_2 := hid (E_1.out.below hb)
    clear hb
    go_wp2
    go_ret
    exact ⟨rfl, HB2.out⟩
end Go.Proofs.YtaooiggckcfanaaGreatDoor.Laws
