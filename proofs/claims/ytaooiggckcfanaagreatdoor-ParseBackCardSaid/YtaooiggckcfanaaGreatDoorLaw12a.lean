/- The law ParseBack, walked. -/
import Derived.Test.YtaooiggckcfanaaGreatDoorMS
namespace Go.Proofs.YtaooiggckcfanaaGreatDoor.Laws
open Go.RowKit Go.Proofs.YtaooiggckcfanaaGreatDoor.Base Go.Proofs.YtaooiggckcfanaaGreatDoor.Base2 Go.Proofs.YtaooiggckcfanaaGreatDoor.UtfL Go.Proofs.YtaooiggckcfanaaGreatDoor.UrlA Go.Proofs.YtaooiggckcfanaaGreatDoor.UrlC Go.Proofs.YtaooiggckcfanaaGreatDoor.UrlF Go.Proofs.YtaooiggckcfanaaGreatDoor.HstC Go.Proofs.YtaooiggckcfanaaGreatDoor.PrsP Go.Proofs.YtaooiggckcfanaaGreatDoor.Ubx Go.Proofs.YtaooiggckcfanaaGreatDoor.PrsC Go.Proofs.YtaooiggckcfanaaGreatDoor.PrsD Go.Proofs.YtaooiggckcfanaaGreatDoor.SixG Go.Proofs.YtaooiggckcfanaaGreatDoor.Spl Go.Proofs.YtaooiggckcfanaaGreatDoor.PrsG Go.Proofs.YtaooiggckcfanaaGreatDoor.PrsR Go.Proofs.YtaooiggckcfanaaGreatDoor.PrsS Go.Proofs.YtaooiggckcfanaaGreatDoor.PrsV Go.Proofs.YtaooiggckcfanaaGreatDoor.PrsY Go.Proofs.YtaooiggckcfanaaGreatDoor.Ulw Go.Proofs.YtaooiggckcfanaaGreatDoor.PrsW Go.Proofs.YtaooiggckcfanaaGreatDoor.PrsX

set_option linter.unusedSimpArgs false in
set_option maxRecDepth 100000 in
set_option maxHeartbeats 8000000 in
theorem ParseBack_any (s0 s1 : ByteArray) (w : World) (h0 : s0.size ≤ 140737488351232) (h1 : s1.size ≤ 140737488351232) (hT : Tab.Pow w) (hL : Lad w) (hM : Max w) (hU : Utab w) : Calls Tryz.prog 5 #[.string s0, .string s1] w fun e w' => e = .returned (.bool true) ∧ Below w.heap.size w w' := by
  have HE := hid (⟨hT, hL, hM, hU⟩ : Env w)
  have HAW : Hid (∀ w : World, Env w → Calls Tryz.prog 15 #[] w fun e w' => e = .returned (.bool true) ∧ Below w.heap.size w w') := fun w E => awake_any w E
  clear hT hL hM hU
  by_cases hl : s0.size + s1.size ≤ 2000
  · have hli : ¬ (2000 : Int) < (s1.size : Int) + (s0.size : Int) := by omega
    obtain ⟨u0, hu0⟩ : ∃ u0, u0 = U0 := ⟨_, rfl⟩
    have HU0 := hid hu0
    have hsz : s0.data.toList.length + s1.data.toList.length ≤ 2000 := by rw [dl, dl]; exact hl
    cases e1 : PrsP.url s0.data.toList none with
    | none =>
      have HP1 : Hid (∀ w, Env w → Calls Tryz.prog 16 #[.string s0, .pointer none] w fun e w' => ∃ A' n' c', e = .returned (.tuple #[.agg #[.string (strOf u0.sch), .string (strOf u0.usr), .string (strOf u0.pwd), .string (strOf u0.hst), .bool u0.hh, .int .i64 u0.port, .bool u0.opq, .string (strOf u0.txt), .slice A' n' c', .bool u0.hq, .bool u0.hf, .string (strOf u0.qry), .string (strOf u0.frg)], .int .i64 2]) ∧ Pt w' u0 A' n' c' ∧ Below w.heap.size w w') := fun w E => parse_none HU0.out e1 (by omega) w E
      cases e2 : PrsP.url s1.data.toList none with
      | none =>
        have HP2 : Hid (∀ w, Env w → Calls Tryz.prog 16 #[.string s1, .pointer none] w fun e w' => ∃ A' n' c', e = .returned (.tuple #[.agg #[.string (strOf u0.sch), .string (strOf u0.usr), .string (strOf u0.pwd), .string (strOf u0.hst), .bool u0.hh, .int .i64 u0.port, .bool u0.opq, .string (strOf u0.txt), .slice A' n' c', .bool u0.hq, .bool u0.hf, .string (strOf u0.qry), .string (strOf u0.frg)], .int .i64 2]) ∧ Pt w' u0 A' n' c' ∧ Below w.heap.size w w') := fun w E => parse_none HU0.out e2 (by omega) w E
        clear e1 e2 hu0 hl h0 h1 hsz
        go_enter Tryz.func5, Tryz.ntmps5
        go_wp2_with fail
        refine (HAW.out _ HE.out).mono ?_
        rintro e w1 ⟨rfl, hb⟩
        have HB1 := hid hb
        have E_1 := hid (HE.out.below hb)
        clear hb
        go_wp2_with fail
        refine (HP1.out _ E_1.out).mono ?_
        rintro e w2 ⟨A1, n1, c1, rfl, hpt, hb⟩
        have HB2 := hid (bel HB1.out hb)
        have E_2 := hid (E_1.out.below hb)
        clear hb
        have T1 := hid (hpt)
        clear hpt
        go_upto_region 4 with (fail)
        generalize hwa : World.alloc _ _ = v3
        have hxa : UB v3 (w2.heap.size) u0 (.slice A1 n1 c1) := by rw [← hwa]; exact heap_alloc_new _ _
        have hb : Below w2.heap.size w2 v3 := by rw [← hwa]; exact (Below.refl _ _).alloc (Nat.le_refl _) _
        have X1 := hid hxa
        clear hwa hxa
        have HB3 := hid (bel HB2.out hb)
        have E_3 := hid (E_2.out.below hb)
        have T1_3 := hid (T1.out.below hb)
        clear hb
        go_wp2_with fail
        refine (HP2.out _ E_3.out).mono ?_
        rintro e w4 ⟨A2, n2, c2, rfl, hpt, hb⟩
        have HB4 := hid (bel HB3.out hb)
        have E_4 := hid (E_3.out.below hb)
        have T1_4 := hid (T1_3.out.below hb)
        have X1_4 := hid (X1.out.below hb)
        clear hb
        have T2 := hid (hpt)
        clear hpt
        go_upto_region 5 with (fail)
        generalize hwa : World.alloc _ _ = v5
        have hxa : UB v5 (w4.heap.size) u0 (.slice A2 n2 c2) := by rw [← hwa]; exact heap_alloc_new _ _
        have hb : Below w4.heap.size w4 v5 := by rw [← hwa]; exact (Below.refl _ _).alloc (Nat.le_refl _) _
        have X2 := hid hxa
        clear hwa hxa
        have HB5 := hid (bel HB4.out hb)
        have E_5 := hid (E_4.out.below hb)
        have T1_5 := hid (T1_4.out.below hb)
        have X1_5 := hid (X1_4.out.below hb)
        have T2_5 := hid (T2.out.below hb)
        clear hb
        go_wp2
        go_ret
        exact ⟨rfl, HB5.out⟩
      | some u =>
        have HP2 : Hid (∀ w, Env w → Calls Tryz.prog 16 #[.string s1, .pointer none] w fun e w' => ∃ A' n' c', e = .returned (.tuple #[.agg #[.string (strOf u.sch), .string (strOf u.usr), .string (strOf u.pwd), .string (strOf u.hst), .bool u.hh, .int .i64 u.port, .bool u.opq, .string (strOf u.txt), .slice A' n' c', .bool u.hq, .bool u.hf, .string (strOf u.qry), .string (strOf u.frg)], .int .i64 0]) ∧ Pt w' u A' n' c' ∧ Below w.heap.size w w') := fun w E => parse_some e2 (by omega) w E
        have hok : Ok u := url_ok e2 (fun _ e => by cases e)
        have fu := url_fit (M := 0) e2 (fun _ e => by cases e)
        obtain ⟨P, hPd⟩ : ∃ P, P = strOf (printU u) := ⟨_, rfl⟩
        have hPs : P.size ≤ 65536 := by rw [hPd, size_strOf]; have := print_len fu; omega
        have ha : PrsP.url P.data.toList none = some u := by rw [hPd]; exact url_again hok
        have HPR : Hid (∀ (A : Option Addr) (n c : Nat) (w : World), Pt w u A n c → Env w → Calls Tryz.prog 22 #[.agg #[.string (strOf u.sch), .string (strOf u.usr), .string (strOf u.pwd), .string (strOf u.hst), .bool u.hh, .int .i64 u.port, .bool u.opq, .string (strOf u.txt), .slice A n c, .bool u.hq, .bool u.hf, .string (strOf u.qry), .string (strOf u.frg)]] w fun e w' => e = .returned (.string P) ∧ Below w.heap.size w w') := fun A n c w hP E => by rw [hPd]; exact print_u fu (by omega) A n c w hP E
        have HPA : Hid (∀ w, Env w → Calls Tryz.prog 16 #[.string P, .pointer none] w fun e w' => ∃ A' n' c', e = .returned (.tuple #[.agg #[.string (strOf u.sch), .string (strOf u.usr), .string (strOf u.pwd), .string (strOf u.hst), .bool u.hh, .int .i64 u.port, .bool u.opq, .string (strOf u.txt), .slice A' n' c', .bool u.hq, .bool u.hf, .string (strOf u.qry), .string (strOf u.frg)], .int .i64 0]) ∧ Pt w' u A' n' c' ∧ Below w.heap.size w w') := fun w E => parse_some ha hPs w E
        have qP : (P.toList == P.toList) = true := by simp
        clear e1 e2 hu0 hl h0 h1 hsz hok fu hPd hPs ha
        go_enter Tryz.func5, Tryz.ntmps5
        go_wp2_with fail
        refine (HAW.out _ HE.out).mono ?_
        rintro e w1 ⟨rfl, hb⟩
        have HB1 := hid hb
        have E_1 := hid (HE.out.below hb)
        clear hb
        go_wp2_with fail
        refine (HP1.out _ E_1.out).mono ?_
        rintro e w2 ⟨A1, n1, c1, rfl, hpt, hb⟩
        have HB2 := hid (bel HB1.out hb)
        have E_2 := hid (E_1.out.below hb)
        clear hb
        have T1 := hid (hpt)
        clear hpt
        go_upto_region 4 with (fail)
        generalize hwa : World.alloc _ _ = v3
        have hxa : UB v3 (w2.heap.size) u0 (.slice A1 n1 c1) := by rw [← hwa]; exact heap_alloc_new _ _
        have hb : Below w2.heap.size w2 v3 := by rw [← hwa]; exact (Below.refl _ _).alloc (Nat.le_refl _) _
        have X1 := hid hxa
        clear hwa hxa
        have HB3 := hid (bel HB2.out hb)
        have E_3 := hid (E_2.out.below hb)
        have T1_3 := hid (T1.out.below hb)
        clear hb
        go_wp2_with fail
        refine (HP2.out _ E_3.out).mono ?_
        rintro e w4 ⟨A2, n2, c2, rfl, hpt, hb⟩
        have HB4 := hid (bel HB3.out hb)
        have E_4 := hid (E_3.out.below hb)
        have T1_4 := hid (T1_3.out.below hb)
        have X1_4 := hid (X1.out.below hb)
        clear hb
        have T2 := hid (hpt)
        clear hpt
        go_upto_region 5 with (fail)
        generalize hwa : World.alloc _ _ = v5
        have hxa : UB v5 (w4.heap.size) u (.slice A2 n2 c2) := by rw [← hwa]; exact heap_alloc_new _ _
        have hb : Below w4.heap.size w4 v5 := by rw [← hwa]; exact (Below.refl _ _).alloc (Nat.le_refl _) _
        have X2 := hid hxa
        clear hwa hxa
        have HB5 := hid (bel HB4.out hb)
        have E_5 := hid (E_4.out.below hb)
        have T1_5 := hid (T1_4.out.below hb)
        have X1_5 := hid (X1_4.out.below hb)
        have T2_5 := hid (T2.out.below hb)
        clear hb
        have HTU := hid T2_5.out
        obtain ⟨ka0, ka1, ka2, ka3, ka4, ka5, ka6, ka7, ka8, ka9, ka10, ka11, ka12⟩ := X2.out.facts
        go_wp2_with fail
        clear ka0 ka1 ka2 ka3 ka4 ka5 ka6 ka7 ka8 ka9 ka10 ka11 ka12
        refine (HPR.out _ _ _ _ HTU.out E_5.out).mono ?_
        rintro e w6 ⟨rfl, hb⟩
        have HB6 := hid (bel HB5.out hb)
        have E_6 := hid (E_5.out.below hb)
        have T1_6 := hid (T1_5.out.below hb)
        have X1_6 := hid (X1_5.out.below hb)
        have T2_6 := hid (T2_5.out.below hb)
        have X2_6 := hid (X2.out.below hb)
        have TU_6 := hid (HTU.out.below hb)
        clear hb
        go_wp2_with fail
        refine (HPA.out _ E_6.out).mono ?_
        rintro e w7 ⟨A9, n9, c9, rfl, hpt, hb⟩
        have HB7 := hid (bel HB6.out hb)
        have E_7 := hid (E_6.out.below hb)
        have T1_7 := hid (T1_6.out.below hb)
        have X1_7 := hid (X1_6.out.below hb)
        have T2_7 := hid (T2_6.out.below hb)
        have X2_7 := hid (X2_6.out.below hb)
        have TU_7 := hid (TU_6.out.below hb)
        clear hb
        have T9 := hid (hpt)
        clear hpt
        go_upto_region 11 with (fail)
        generalize hwa : World.alloc _ _ = v8
        have hxa : UB v8 (w7.heap.size) u (.slice A9 n9 c9) := by rw [← hwa]; exact heap_alloc_new _ _
        have hb : Below w7.heap.size w7 v8 := by rw [← hwa]; exact (Below.refl _ _).alloc (Nat.le_refl _) _
        have X9 := hid hxa
        clear hwa hxa
        have HB8 := hid (bel HB7.out hb)
        have E_8 := hid (E_7.out.below hb)
        have T1_8 := hid (T1_7.out.below hb)
        have X1_8 := hid (X1_7.out.below hb)
        have T2_8 := hid (T2_7.out.below hb)
        have X2_8 := hid (X2_7.out.below hb)
        have TU_8 := hid (TU_7.out.below hb)
        have T9_8 := hid (T9.out.below hb)
        clear hb
        obtain ⟨ka0, ka1, ka2, ka3, ka4, ka5, ka6, ka7, ka8, ka9, ka10, ka11, ka12⟩ := X9.out.facts
        obtain ⟨kb0, kb1, kb2, kb3, kb4, kb5, kb6, kb7, kb8, kb9, kb10, kb11, kb12⟩ := X2_8.out.facts
        go_wp2_with fail
        clear ka0 ka1 ka2 ka3 ka4 ka5 ka6 ka7 ka8 ka9 ka10 ka11 ka12 kb0 kb1 kb2 kb3 kb4 kb5 kb6 kb7 kb8 kb9 kb10 kb11 kb12
        refine (same_yes u _ _ _ _ _ _ _ T9_8.out TU_8.out).mono ?_
        rintro e w9 ⟨rfl, hb⟩
        have HB9 := hid (bel HB8.out hb)
        have E_9 := hid (E_8.out.below hb)
        have T1_9 := hid (T1_8.out.below hb)
        have X1_9 := hid (X1_8.out.below hb)
        have T2_9 := hid (T2_8.out.below hb)
        have X2_9 := hid (X2_8.out.below hb)
        have TU_9 := hid (TU_8.out.below hb)
        have T9_9 := hid (T9_8.out.below hb)
        have X9_9 := hid (X9.out.below hb)
        clear hb
        obtain ⟨ka0, ka1, ka2, ka3, ka4, ka5, ka6, ka7, ka8, ka9, ka10, ka11, ka12⟩ := X9_9.out.facts
        go_wp2_with fail
        clear ka0 ka1 ka2 ka3 ka4 ka5 ka6 ka7 ka8 ka9 ka10 ka11 ka12
        refine (HPR.out _ _ _ _ T9_9.out E_9.out).mono ?_
        rintro e w10 ⟨rfl, hb⟩
        have HB10 := hid (bel HB9.out hb)
        have E_10 := hid (E_9.out.below hb)
        have T1_10 := hid (T1_9.out.below hb)
        have X1_10 := hid (X1_9.out.below hb)
        have T2_10 := hid (T2_9.out.below hb)
        have X2_10 := hid (X2_9.out.below hb)
        have TU_10 := hid (TU_9.out.below hb)
        have T9_10 := hid (T9_9.out.below hb)
        have X9_10 := hid (X9_9.out.below hb)
        clear hb
        go_wp2
        go_ret
        exact ⟨rfl, HB10.out⟩
    | some b =>
      have HP1 : Hid (∀ w, Env w → Calls Tryz.prog 16 #[.string s0, .pointer none] w fun e w' => ∃ A' n' c', e = .returned (.tuple #[.agg #[.string (strOf b.sch), .string (strOf b.usr), .string (strOf b.pwd), .string (strOf b.hst), .bool b.hh, .int .i64 b.port, .bool b.opq, .string (strOf b.txt), .slice A' n' c', .bool b.hq, .bool b.hf, .string (strOf b.qry), .string (strOf b.frg)], .int .i64 0]) ∧ Pt w' b A' n' c' ∧ Below w.heap.size w w') := fun w E => parse_some e1 (by omega) w E
      cases e2 : PrsP.url s1.data.toList none with
      | none =>
        have HP2 : Hid (∀ w, Env w → Calls Tryz.prog 16 #[.string s1, .pointer none] w fun e w' => ∃ A' n' c', e = .returned (.tuple #[.agg #[.string (strOf u0.sch), .string (strOf u0.usr), .string (strOf u0.pwd), .string (strOf u0.hst), .bool u0.hh, .int .i64 u0.port, .bool u0.opq, .string (strOf u0.txt), .slice A' n' c', .bool u0.hq, .bool u0.hf, .string (strOf u0.qry), .string (strOf u0.frg)], .int .i64 2]) ∧ Pt w' u0 A' n' c' ∧ Below w.heap.size w w') := fun w E => parse_none HU0.out e2 (by omega) w E
        have f1 := url_fit (M := 0) e1 (fun _ e => by cases e)
        have HF1 := hid (f1.mono (show 0 + 15 * s0.data.toList.length + 300 ≤ 30300 by omega))
        cases e3 : PrsP.url s1.data.toList (some b) with
        | none =>
          have HP3 : Hid (∀ (gb : Nat) (A : Option Addr) (n c : Nat), n ≤ 100000 → ∀ w, UB w gb b (.slice A n c) → Pt w b A n c → Env w → Calls Tryz.prog 16 #[.string s1, .pointer (some ⟨gb, 0, none⟩)] w fun e w' => ∃ A' n' c', e = .returned (.tuple #[.agg #[.string (strOf u0.sch), .string (strOf u0.usr), .string (strOf u0.pwd), .string (strOf u0.hst), .bool u0.hh, .int .i64 u0.port, .bool u0.opq, .string (strOf u0.txt), .slice A' n' c', .bool u0.hq, .bool u0.hf, .string (strOf u0.qry), .string (strOf u0.frg)], .int .i64 2]) ∧ Own w w' u0 A' n' c' ∧ Below w.heap.size w w') := fun gb A n c hn w hB hP E => parseB_own e3 HU0.out.symm rfl (by omega) gb A n c hn w hB hP E
          clear e1 e2 e3 f1 hu0 hl h0 h1 hsz
          go_enter Tryz.func5, Tryz.ntmps5
          go_wp2_with fail
          refine (HAW.out _ HE.out).mono ?_
          rintro e w1 ⟨rfl, hb⟩
          have HB1 := hid hb
          have E_1 := hid (HE.out.below hb)
          clear hb
          go_wp2_with fail
          refine (HP1.out _ E_1.out).mono ?_
          rintro e w2 ⟨A1, n1, c1, rfl, hpt, hb⟩
          have HB2 := hid (bel HB1.out hb)
          have E_2 := hid (E_1.out.below hb)
          clear hb
          have T1 := hid (hpt)
          clear hpt
          go_upto_region 4 with (fail)
          generalize hwa : World.alloc _ _ = v3
          have hxa : UB v3 (w2.heap.size) b (.slice A1 n1 c1) := by rw [← hwa]; exact heap_alloc_new _ _
          have hb : Below w2.heap.size w2 v3 := by rw [← hwa]; exact (Below.refl _ _).alloc (Nat.le_refl _) _
          have X1 := hid hxa
          clear hwa hxa
          have HB3 := hid (bel HB2.out hb)
          have E_3 := hid (E_2.out.below hb)
          have T1_3 := hid (T1.out.below hb)
          clear hb
          go_wp2_with fail
          refine (HP2.out _ E_3.out).mono ?_
          rintro e w4 ⟨A2, n2, c2, rfl, hpt, hb⟩
          have HB4 := hid (bel HB3.out hb)
          have E_4 := hid (E_3.out.below hb)
          have T1_4 := hid (T1_3.out.below hb)
          have X1_4 := hid (X1.out.below hb)
          clear hb
          have T2 := hid (hpt)
          clear hpt
          go_upto_region 5 with (fail)
          generalize hwa : World.alloc _ _ = v5
          have hxa : UB v5 (w4.heap.size) u0 (.slice A2 n2 c2) := by rw [← hwa]; exact heap_alloc_new _ _
          have hb : Below w4.heap.size w4 v5 := by rw [← hwa]; exact (Below.refl _ _).alloc (Nat.le_refl _) _
          have X2 := hid hxa
          clear hwa hxa
          have HB5 := hid (bel HB4.out hb)
          have E_5 := hid (E_4.out.below hb)
          have T1_5 := hid (T1_4.out.below hb)
          have X1_5 := hid (X1_4.out.below hb)
          have T2_5 := hid (T2.out.below hb)
          clear hb
          go_wp2_with fail
          refine (HP3.out _ _ _ _ (Nat.le_trans (T1_5.out.len HF1.out) (by decide)) _ X1_5.out T1_5.out E_5.out).mono ?_
          rintro e w6 ⟨A3, n3, c3, rfl, hpt, hb⟩
          have HB6 := hid (bel HB5.out hb)
          have E_6 := hid (E_5.out.below hb)
          have T1_6 := hid (T1_5.out.below hb)
          have X1_6 := hid (X1_5.out.below hb)
          have T2_6 := hid (T2_5.out.below hb)
          have X2_6 := hid (X2.out.below hb)
          clear hb
          have HOW := hid hpt
          clear hpt
          go_upto_region 7 with (refine store_box X2_6.out u0 A3 n3 c3 (.tmp 7) (.tmp 38) rfl rfl rfl rfl ?_)
          have hO := HOW.out.row X2.out.lt (cells u0 (.slice A3 n3 c3))
          have hX := X2_6.out.row u0 (.slice A3 n3 c3)
          have hB := below_setRow HB6.out (show w.heap.size ≤ w4.heap.size from HB4.out.size) (cells u0 (.slice A3 n3 c3))
          generalize World.setRow _ _ _ = wS at hO hX hB ⊢
          have HBS := hid hB
          have ES := hid (HE.out.below hB)
          have X2S := hid hX
          have TUS := hid (⟨hO.pth⟩ : Pt wS u0 A3 n3 c3)
          clear hO hX hB
          go_wp2
          go_ret
          exact ⟨rfl, HBS.out⟩
        | some v =>
          have HP3 : Hid (∀ (gb : Nat) (A : Option Addr) (n c : Nat), n ≤ 100000 → ∀ w, UB w gb b (.slice A n c) → Pt w b A n c → Env w → Calls Tryz.prog 16 #[.string s1, .pointer (some ⟨gb, 0, none⟩)] w fun e w' => ∃ A' n' c', e = .returned (.tuple #[.agg #[.string (strOf v.sch), .string (strOf v.usr), .string (strOf v.pwd), .string (strOf v.hst), .bool v.hh, .int .i64 v.port, .bool v.opq, .string (strOf v.txt), .slice A' n' c', .bool v.hq, .bool v.hf, .string (strOf v.qry), .string (strOf v.frg)], .int .i64 0]) ∧ Own w w' v A' n' c' ∧ Below w.heap.size w w') := fun gb A n c hn w hB hP E => parseB_own e3 rfl rfl (by omega) gb A n c hn w hB hP E
          have hok : Ok v := url_ok e3 (fun _ e => by cases e; exact url_ok e1 (fun _ e => by cases e))
          have fu := url_fit e3 (fun _ e => by cases e; exact f1)
          obtain ⟨P, hPd⟩ : ∃ P, P = strOf (printU v) := ⟨_, rfl⟩
          have hPs : P.size ≤ 65536 := by rw [hPd, size_strOf]; have := print_len fu; omega
          have ha : PrsP.url P.data.toList none = some v := by rw [hPd]; exact url_again hok
          have HPR : Hid (∀ (A : Option Addr) (n c : Nat) (w : World), Pt w v A n c → Env w → Calls Tryz.prog 22 #[.agg #[.string (strOf v.sch), .string (strOf v.usr), .string (strOf v.pwd), .string (strOf v.hst), .bool v.hh, .int .i64 v.port, .bool v.opq, .string (strOf v.txt), .slice A n c, .bool v.hq, .bool v.hf, .string (strOf v.qry), .string (strOf v.frg)]] w fun e w' => e = .returned (.string P) ∧ Below w.heap.size w w') := fun A n c w hP E => by rw [hPd]; exact print_u fu (by omega) A n c w hP E
          have HPA : Hid (∀ w, Env w → Calls Tryz.prog 16 #[.string P, .pointer none] w fun e w' => ∃ A' n' c', e = .returned (.tuple #[.agg #[.string (strOf v.sch), .string (strOf v.usr), .string (strOf v.pwd), .string (strOf v.hst), .bool v.hh, .int .i64 v.port, .bool v.opq, .string (strOf v.txt), .slice A' n' c', .bool v.hq, .bool v.hf, .string (strOf v.qry), .string (strOf v.frg)], .int .i64 0]) ∧ Pt w' v A' n' c' ∧ Below w.heap.size w w') := fun w E => parse_some ha hPs w E
          have qP : (P.toList == P.toList) = true := by simp
          clear e1 e2 e3 f1 hu0 hl h0 h1 hsz hok fu hPd hPs ha
          go_enter Tryz.func5, Tryz.ntmps5
          go_wp2_with fail
          refine (HAW.out _ HE.out).mono ?_
          rintro e w1 ⟨rfl, hb⟩
          have HB1 := hid hb
          have E_1 := hid (HE.out.below hb)
          clear hb
          go_wp2_with fail
          refine (HP1.out _ E_1.out).mono ?_
          rintro e w2 ⟨A1, n1, c1, rfl, hpt, hb⟩
          have HB2 := hid (bel HB1.out hb)
          have E_2 := hid (E_1.out.below hb)
          clear hb
          have T1 := hid (hpt)
          clear hpt
          go_upto_region 4 with (fail)
          generalize hwa : World.alloc _ _ = v3
          have hxa : UB v3 (w2.heap.size) b (.slice A1 n1 c1) := by rw [← hwa]; exact heap_alloc_new _ _
          have hb : Below w2.heap.size w2 v3 := by rw [← hwa]; exact (Below.refl _ _).alloc (Nat.le_refl _) _
          have X1 := hid hxa
          clear hwa hxa
          have HB3 := hid (bel HB2.out hb)
          have E_3 := hid (E_2.out.below hb)
          have T1_3 := hid (T1.out.below hb)
          clear hb
          go_wp2_with fail
          refine (HP2.out _ E_3.out).mono ?_
          rintro e w4 ⟨A2, n2, c2, rfl, hpt, hb⟩
          have HB4 := hid (bel HB3.out hb)
          have E_4 := hid (E_3.out.below hb)
          have T1_4 := hid (T1_3.out.below hb)
          have X1_4 := hid (X1.out.below hb)
          clear hb
          have T2 := hid (hpt)
          clear hpt
          go_upto_region 5 with (fail)
          generalize hwa : World.alloc _ _ = v5
          have hxa : UB v5 (w4.heap.size) u0 (.slice A2 n2 c2) := by rw [← hwa]; exact heap_alloc_new _ _
          have hb : Below w4.heap.size w4 v5 := by rw [← hwa]; exact (Below.refl _ _).alloc (Nat.le_refl _) _
          have X2 := hid hxa
          clear hwa hxa
          have HB5 := hid (bel HB4.out hb)
          have E_5 := hid (E_4.out.below hb)
          have T1_5 := hid (T1_4.out.below hb)
          have X1_5 := hid (X1_4.out.below hb)
          have T2_5 := hid (T2.out.below hb)
          clear hb
          go_wp2_with fail
          refine (HP3.out _ _ _ _ (Nat.le_trans (T1_5.out.len HF1.out) (by decide)) _ X1_5.out T1_5.out E_5.out).mono ?_
          rintro e w6 ⟨A3, n3, c3, rfl, hpt, hb⟩
          have HB6 := hid (bel HB5.out hb)
          have E_6 := hid (E_5.out.below hb)
          have T1_6 := hid (T1_5.out.below hb)
          have X1_6 := hid (X1_5.out.below hb)
          have T2_6 := hid (T2_5.out.below hb)
          have X2_6 := hid (X2.out.below hb)
          clear hb
          have HOW := hid hpt
          clear hpt
          go_upto_region 7 with (refine store_box X2_6.out v A3 n3 c3 (.tmp 7) (.tmp 38) rfl rfl rfl rfl ?_)
          have hO := HOW.out.row X2.out.lt (cells v (.slice A3 n3 c3))
          have hX := X2_6.out.row v (.slice A3 n3 c3)
          have hB := below_setRow HB6.out (show w.heap.size ≤ w4.heap.size from HB4.out.size) (cells v (.slice A3 n3 c3))
          generalize World.setRow _ _ _ = wS at hO hX hB ⊢
          have HBS := hid hB
          have ES := hid (HE.out.below hB)
          have X2S := hid hX
          have TUS := hid (⟨hO.pth⟩ : Pt wS v A3 n3 c3)
          clear hO hX hB
          obtain ⟨ka0, ka1, ka2, ka3, ka4, ka5, ka6, ka7, ka8, ka9, ka10, ka11, ka12⟩ := X2S.out.facts
          go_wp2_with fail
          clear ka0 ka1 ka2 ka3 ka4 ka5 ka6 ka7 ka8 ka9 ka10 ka11 ka12
          refine (HPR.out _ _ _ _ TUS.out ES.out).mono ?_
          rintro e w17 ⟨rfl, hb⟩
          have HB17 := hid (bel HBS.out hb)
          have E_17 := hid (ES.out.below hb)
          have X2_17 := hid (X2S.out.below hb)
          have TU_17 := hid (TUS.out.below hb)
          clear hb
          go_wp2_with fail
          refine (HPA.out _ E_17.out).mono ?_
          rintro e w18 ⟨A9, n9, c9, rfl, hpt, hb⟩
          have HB18 := hid (bel HB17.out hb)
          have E_18 := hid (E_17.out.below hb)
          have X2_18 := hid (X2_17.out.below hb)
          have TU_18 := hid (TU_17.out.below hb)
          clear hb
          have T9 := hid (hpt)
          clear hpt
          go_upto_region 11 with (fail)
          generalize hwa : World.alloc _ _ = v19
          have hxa : UB v19 (w18.heap.size) v (.slice A9 n9 c9) := by rw [← hwa]; exact heap_alloc_new _ _
          have hb : Below w18.heap.size w18 v19 := by rw [← hwa]; exact (Below.refl _ _).alloc (Nat.le_refl _) _
          have X9 := hid hxa
          clear hwa hxa
          have HB19 := hid (bel HB18.out hb)
          have E_19 := hid (E_18.out.below hb)
          have X2_19 := hid (X2_18.out.below hb)
          have TU_19 := hid (TU_18.out.below hb)
          have T9_19 := hid (T9.out.below hb)
          clear hb
          obtain ⟨ka0, ka1, ka2, ka3, ka4, ka5, ka6, ka7, ka8, ka9, ka10, ka11, ka12⟩ := X9.out.facts
          obtain ⟨kb0, kb1, kb2, kb3, kb4, kb5, kb6, kb7, kb8, kb9, kb10, kb11, kb12⟩ := X2_19.out.facts
          go_wp2_with fail
          clear ka0 ka1 ka2 ka3 ka4 ka5 ka6 ka7 ka8 ka9 ka10 ka11 ka12 kb0 kb1 kb2 kb3 kb4 kb5 kb6 kb7 kb8 kb9 kb10 kb11 kb12
          refine (same_yes v _ _ _ _ _ _ _ T9_19.out TU_19.out).mono ?_
          rintro e w20 ⟨rfl, hb⟩
          have HB20 := hid (bel HB19.out hb)
          have E_20 := hid (E_19.out.below hb)
          have X2_20 := hid (X2_19.out.below hb)
          have TU_20 := hid (TU_19.out.below hb)
          have T9_20 := hid (T9_19.out.below hb)
          have X9_20 := hid (X9.out.below hb)
          clear hb
          obtain ⟨ka0, ka1, ka2, ka3, ka4, ka5, ka6, ka7, ka8, ka9, ka10, ka11, ka12⟩ := X9_20.out.facts
          go_wp2_with fail
          clear ka0 ka1 ka2 ka3 ka4 ka5 ka6 ka7 ka8 ka9 ka10 ka11 ka12
          refine (HPR.out _ _ _ _ T9_20.out E_20.out).mono ?_
          rintro e w21 ⟨rfl, hb⟩
          have HB21 := hid (bel HB20.out hb)
          have E_21 := hid (E_20.out.below hb)
          have X2_21 := hid (X2_20.out.below hb)
          have TU_21 := hid (TU_20.out.below hb)
          have T9_21 := hid (T9_20.out.below hb)
          have X9_21 := hid (X9_20.out.below hb)
          clear hb
          go_wp2
          go_ret
          exact ⟨rfl, HB21.out⟩
      | some u =>
        have HP2 : Hid (∀ w, Env w → Calls Tryz.prog 16 #[.string s1, .pointer none] w fun e w' => ∃ A' n' c', e = .returned (.tuple #[.agg #[.string (strOf u.sch), .string (strOf u.usr), .string (strOf u.pwd), .string (strOf u.hst), .bool u.hh, .int .i64 u.port, .bool u.opq, .string (strOf u.txt), .slice A' n' c', .bool u.hq, .bool u.hf, .string (strOf u.qry), .string (strOf u.frg)], .int .i64 0]) ∧ Pt w' u A' n' c' ∧ Below w.heap.size w w') := fun w E => parse_some e2 (by omega) w E
        have f1 := url_fit (M := 0) e1 (fun _ e => by cases e)
        have HF1 := hid (f1.mono (show 0 + 15 * s0.data.toList.length + 300 ≤ 30300 by omega))
        cases e3 : PrsP.url s1.data.toList (some b) with
        | none =>
          have HP3 : Hid (∀ (gb : Nat) (A : Option Addr) (n c : Nat), n ≤ 100000 → ∀ w, UB w gb b (.slice A n c) → Pt w b A n c → Env w → Calls Tryz.prog 16 #[.string s1, .pointer (some ⟨gb, 0, none⟩)] w fun e w' => ∃ A' n' c', e = .returned (.tuple #[.agg #[.string (strOf u0.sch), .string (strOf u0.usr), .string (strOf u0.pwd), .string (strOf u0.hst), .bool u0.hh, .int .i64 u0.port, .bool u0.opq, .string (strOf u0.txt), .slice A' n' c', .bool u0.hq, .bool u0.hf, .string (strOf u0.qry), .string (strOf u0.frg)], .int .i64 2]) ∧ Own w w' u0 A' n' c' ∧ Below w.heap.size w w') := fun gb A n c hn w hB hP E => parseB_own e3 HU0.out.symm rfl (by omega) gb A n c hn w hB hP E
          clear e1 e2 e3 f1 hu0 hl h0 h1 hsz
          go_enter Tryz.func5, Tryz.ntmps5
          go_wp2_with fail
          refine (HAW.out _ HE.out).mono ?_
          rintro e w1 ⟨rfl, hb⟩
          have HB1 := hid hb
          have E_1 := hid (HE.out.below hb)
          clear hb
          go_wp2_with fail
          refine (HP1.out _ E_1.out).mono ?_
          rintro e w2 ⟨A1, n1, c1, rfl, hpt, hb⟩
          have HB2 := hid (bel HB1.out hb)
          have E_2 := hid (E_1.out.below hb)
          clear hb
          have T1 := hid (hpt)
          clear hpt
          go_upto_region 4 with (fail)
          generalize hwa : World.alloc _ _ = v3
          have hxa : UB v3 (w2.heap.size) b (.slice A1 n1 c1) := by rw [← hwa]; exact heap_alloc_new _ _
          have hb : Below w2.heap.size w2 v3 := by rw [← hwa]; exact (Below.refl _ _).alloc (Nat.le_refl _) _
          have X1 := hid hxa
          clear hwa hxa
          have HB3 := hid (bel HB2.out hb)
          have E_3 := hid (E_2.out.below hb)
          have T1_3 := hid (T1.out.below hb)
          clear hb
          go_wp2_with fail
          refine (HP2.out _ E_3.out).mono ?_
          rintro e w4 ⟨A2, n2, c2, rfl, hpt, hb⟩
          have HB4 := hid (bel HB3.out hb)
          have E_4 := hid (E_3.out.below hb)
          have T1_4 := hid (T1_3.out.below hb)
          have X1_4 := hid (X1.out.below hb)
          clear hb
          have T2 := hid (hpt)
          clear hpt
          go_upto_region 5 with (fail)
          generalize hwa : World.alloc _ _ = v5
          have hxa : UB v5 (w4.heap.size) u (.slice A2 n2 c2) := by rw [← hwa]; exact heap_alloc_new _ _
          have hb : Below w4.heap.size w4 v5 := by rw [← hwa]; exact (Below.refl _ _).alloc (Nat.le_refl _) _
          have X2 := hid hxa
          clear hwa hxa
          have HB5 := hid (bel HB4.out hb)
          have E_5 := hid (E_4.out.below hb)
          have T1_5 := hid (T1_4.out.below hb)
          have X1_5 := hid (X1_4.out.below hb)
          have T2_5 := hid (T2.out.below hb)
          clear hb
          go_wp2_with fail
          refine (HP3.out _ _ _ _ (Nat.le_trans (T1_5.out.len HF1.out) (by decide)) _ X1_5.out T1_5.out E_5.out).mono ?_
          rintro e w6 ⟨A3, n3, c3, rfl, hpt, hb⟩
          have HB6 := hid (bel HB5.out hb)
          have E_6 := hid (E_5.out.below hb)
          have T1_6 := hid (T1_5.out.below hb)
          have X1_6 := hid (X1_5.out.below hb)
          have T2_6 := hid (T2_5.out.below hb)
          have X2_6 := hid (X2.out.below hb)
          clear hb
          have HOW := hid hpt
          clear hpt
          go_upto_region 7 with (refine store_box X2_6.out u0 A3 n3 c3 (.tmp 7) (.tmp 38) rfl rfl rfl rfl ?_)
          have hO := HOW.out.row X2.out.lt (cells u0 (.slice A3 n3 c3))
          have hX := X2_6.out.row u0 (.slice A3 n3 c3)
          have hB := below_setRow HB6.out (show w.heap.size ≤ w4.heap.size from HB4.out.size) (cells u0 (.slice A3 n3 c3))
          generalize World.setRow _ _ _ = wS at hO hX hB ⊢
          have HBS := hid hB
          have ES := hid (HE.out.below hB)
          have X2S := hid hX
          have TUS := hid (⟨hO.pth⟩ : Pt wS u0 A3 n3 c3)
          clear hO hX hB
          go_wp2
          go_ret
          exact ⟨rfl, HBS.out⟩
        | some v =>
          have HP3 : Hid (∀ (gb : Nat) (A : Option Addr) (n c : Nat), n ≤ 100000 → ∀ w, UB w gb b (.slice A n c) → Pt w b A n c → Env w → Calls Tryz.prog 16 #[.string s1, .pointer (some ⟨gb, 0, none⟩)] w fun e w' => ∃ A' n' c', e = .returned (.tuple #[.agg #[.string (strOf v.sch), .string (strOf v.usr), .string (strOf v.pwd), .string (strOf v.hst), .bool v.hh, .int .i64 v.port, .bool v.opq, .string (strOf v.txt), .slice A' n' c', .bool v.hq, .bool v.hf, .string (strOf v.qry), .string (strOf v.frg)], .int .i64 0]) ∧ Own w w' v A' n' c' ∧ Below w.heap.size w w') := fun gb A n c hn w hB hP E => parseB_own e3 rfl rfl (by omega) gb A n c hn w hB hP E
          have hok : Ok v := url_ok e3 (fun _ e => by cases e; exact url_ok e1 (fun _ e => by cases e))
          have fu := url_fit e3 (fun _ e => by cases e; exact f1)
          obtain ⟨P, hPd⟩ : ∃ P, P = strOf (printU v) := ⟨_, rfl⟩
          have hPs : P.size ≤ 65536 := by rw [hPd, size_strOf]; have := print_len fu; omega
          have ha : PrsP.url P.data.toList none = some v := by rw [hPd]; exact url_again hok
          have HPR : Hid (∀ (A : Option Addr) (n c : Nat) (w : World), Pt w v A n c → Env w → Calls Tryz.prog 22 #[.agg #[.string (strOf v.sch), .string (strOf v.usr), .string (strOf v.pwd), .string (strOf v.hst), .bool v.hh, .int .i64 v.port, .bool v.opq, .string (strOf v.txt), .slice A n c, .bool v.hq, .bool v.hf, .string (strOf v.qry), .string (strOf v.frg)]] w fun e w' => e = .returned (.string P) ∧ Below w.heap.size w w') := fun A n c w hP E => by rw [hPd]; exact print_u fu (by omega) A n c w hP E
          have HPA : Hid (∀ w, Env w → Calls Tryz.prog 16 #[.string P, .pointer none] w fun e w' => ∃ A' n' c', e = .returned (.tuple #[.agg #[.string (strOf v.sch), .string (strOf v.usr), .string (strOf v.pwd), .string (strOf v.hst), .bool v.hh, .int .i64 v.port, .bool v.opq, .string (strOf v.txt), .slice A' n' c', .bool v.hq, .bool v.hf, .string (strOf v.qry), .string (strOf v.frg)], .int .i64 0]) ∧ Pt w' v A' n' c' ∧ Below w.heap.size w w') := fun w E => parse_some ha hPs w E
          have qP : (P.toList == P.toList) = true := by simp
          clear e1 e2 e3 f1 hu0 hl h0 h1 hsz hok fu hPd hPs ha
          go_enter Tryz.func5, Tryz.ntmps5
          go_wp2_with fail
          refine (HAW.out _ HE.out).mono ?_
          rintro e w1 ⟨rfl, hb⟩
          have HB1 := hid hb
          have E_1 := hid (HE.out.below hb)
          clear hb
          go_wp2_with fail
          refine (HP1.out _ E_1.out).mono ?_
          rintro e w2 ⟨A1, n1, c1, rfl, hpt, hb⟩
          have HB2 := hid (bel HB1.out hb)
          have E_2 := hid (E_1.out.below hb)
          clear hb
          have T1 := hid (hpt)
          clear hpt
          go_upto_region 4 with (fail)
          generalize hwa : World.alloc _ _ = v3
          have hxa : UB v3 (w2.heap.size) b (.slice A1 n1 c1) := by rw [← hwa]; exact heap_alloc_new _ _
          have hb : Below w2.heap.size w2 v3 := by rw [← hwa]; exact (Below.refl _ _).alloc (Nat.le_refl _) _
          have X1 := hid hxa
          clear hwa hxa
          have HB3 := hid (bel HB2.out hb)
          have E_3 := hid (E_2.out.below hb)
          have T1_3 := hid (T1.out.below hb)
          clear hb
          go_wp2_with fail
          refine (HP2.out _ E_3.out).mono ?_
          rintro e w4 ⟨A2, n2, c2, rfl, hpt, hb⟩
          have HB4 := hid (bel HB3.out hb)
          have E_4 := hid (E_3.out.below hb)
          have T1_4 := hid (T1_3.out.below hb)
          have X1_4 := hid (X1.out.below hb)
          clear hb
          have T2 := hid (hpt)
          clear hpt
          go_upto_region 5 with (fail)
          generalize hwa : World.alloc _ _ = v5
          have hxa : UB v5 (w4.heap.size) u (.slice A2 n2 c2) := by rw [← hwa]; exact heap_alloc_new _ _
          have hb : Below w4.heap.size w4 v5 := by rw [← hwa]; exact (Below.refl _ _).alloc (Nat.le_refl _) _
          have X2 := hid hxa
          clear hwa hxa
          have HB5 := hid (bel HB4.out hb)
          have E_5 := hid (E_4.out.below hb)
          have T1_5 := hid (T1_4.out.below hb)
          have X1_5 := hid (X1_4.out.below hb)
          have T2_5 := hid (T2.out.below hb)
          clear hb
          go_wp2_with fail
          refine (HP3.out _ _ _ _ (Nat.le_trans (T1_5.out.len HF1.out) (by decide)) _ X1_5.out T1_5.out E_5.out).mono ?_
          rintro e w6 ⟨A3, n3, c3, rfl, hpt, hb⟩
          have HB6 := hid (bel HB5.out hb)
          have E_6 := hid (E_5.out.below hb)
          have T1_6 := hid (T1_5.out.below hb)
          have X1_6 := hid (X1_5.out.below hb)
          have T2_6 := hid (T2_5.out.below hb)
          have X2_6 := hid (X2.out.below hb)
          clear hb
          have HOW := hid hpt
          clear hpt
          go_upto_region 7 with (refine store_box X2_6.out v A3 n3 c3 (.tmp 7) (.tmp 38) rfl rfl rfl rfl ?_)
          have hO := HOW.out.row X2.out.lt (cells v (.slice A3 n3 c3))
          have hX := X2_6.out.row v (.slice A3 n3 c3)
          have hB := below_setRow HB6.out (show w.heap.size ≤ w4.heap.size from HB4.out.size) (cells v (.slice A3 n3 c3))
          generalize World.setRow _ _ _ = wS at hO hX hB ⊢
          have HBS := hid hB
          have ES := hid (HE.out.below hB)
          have X2S := hid hX
          have TUS := hid (⟨hO.pth⟩ : Pt wS v A3 n3 c3)
          clear hO hX hB
          obtain ⟨ka0, ka1, ka2, ka3, ka4, ka5, ka6, ka7, ka8, ka9, ka10, ka11, ka12⟩ := X2S.out.facts
          go_wp2_with fail
          clear ka0 ka1 ka2 ka3 ka4 ka5 ka6 ka7 ka8 ka9 ka10 ka11 ka12
          refine (HPR.out _ _ _ _ TUS.out ES.out).mono ?_
          rintro e w17 ⟨rfl, hb⟩
          have HB17 := hid (bel HBS.out hb)
          have E_17 := hid (ES.out.below hb)
          have X2_17 := hid (X2S.out.below hb)
          have TU_17 := hid (TUS.out.below hb)
          clear hb
          go_wp2_with fail
          refine (HPA.out _ E_17.out).mono ?_
          rintro e w18 ⟨A9, n9, c9, rfl, hpt, hb⟩
          have HB18 := hid (bel HB17.out hb)
          have E_18 := hid (E_17.out.below hb)
          have X2_18 := hid (X2_17.out.below hb)
          have TU_18 := hid (TU_17.out.below hb)
          clear hb
          have T9 := hid (hpt)
          clear hpt
          go_upto_region 11 with (fail)
          generalize hwa : World.alloc _ _ = v19
          have hxa : UB v19 (w18.heap.size) v (.slice A9 n9 c9) := by rw [← hwa]; exact heap_alloc_new _ _
          have hb : Below w18.heap.size w18 v19 := by rw [← hwa]; exact (Below.refl _ _).alloc (Nat.le_refl _) _
          have X9 := hid hxa
          clear hwa hxa
          have HB19 := hid (bel HB18.out hb)
          have E_19 := hid (E_18.out.below hb)
          have X2_19 := hid (X2_18.out.below hb)
          have TU_19 := hid (TU_18.out.below hb)
          have T9_19 := hid (T9.out.below hb)
          clear hb
          obtain ⟨ka0, ka1, ka2, ka3, ka4, ka5, ka6, ka7, ka8, ka9, ka10, ka11, ka12⟩ := X9.out.facts
          obtain ⟨kb0, kb1, kb2, kb3, kb4, kb5, kb6, kb7, kb8, kb9, kb10, kb11, kb12⟩ := X2_19.out.facts
          go_wp2_with fail
          clear ka0 ka1 ka2 ka3 ka4 ka5 ka6 ka7 ka8 ka9 ka10 ka11 ka12 kb0 kb1 kb2 kb3 kb4 kb5 kb6 kb7 kb8 kb9 kb10 kb11 kb12
          refine (same_yes v _ _ _ _ _ _ _ T9_19.out TU_19.out).mono ?_
          rintro e w20 ⟨rfl, hb⟩
          have HB20 := hid (bel HB19.out hb)
          have E_20 := hid (E_19.out.below hb)
          have X2_20 := hid (X2_19.out.below hb)
          have TU_20 := hid (TU_19.out.below hb)
          have T9_20 := hid (T9_19.out.below hb)
          have X9_20 := hid (X9.out.below hb)
          clear hb
          obtain ⟨ka0, ka1, ka2, ka3, ka4, ka5, ka6, ka7, ka8, ka9, ka10, ka11, ka12⟩ := X9_20.out.facts
          go_wp2_with fail
          clear ka0 ka1 ka2 ka3 ka4 ka5 ka6 ka7 ka8 ka9 ka10 ka11 ka12
          refine (HPR.out _ _ _ _ T9_20.out E_20.out).mono ?_
          rintro e w21 ⟨rfl, hb⟩
          have HB21 := hid (bel HB20.out hb)
          have E_21 := hid (E_20.out.below hb)
          have X2_21 := hid (X2_20.out.below hb)
          have TU_21 := hid (TU_20.out.below hb)
          have T9_21 := hid (T9_20.out.below hb)
          have X9_21 := hid (X9_20.out.below hb)
          clear hb
          go_wp2
          go_ret
          exact ⟨rfl, HB21.out⟩
  · have hli : (2000 : Int) < (s1.size : Int) + (s0.size : Int) := by omega
    clear hl
    go_enter Tryz.func5, Tryz.ntmps5
    go_wp2_with fail
    refine (HAW.out _ HE.out).mono ?_
    rintro e w1 ⟨rfl, hb⟩
    have HB1 := hid hb
    have E_1 := hid (HE.out.below hb)
    clear hb
    go_wp2_with fail
    refine (HAW.out _ E_1.out).mono ?_
    rintro e w2 ⟨rfl, hb⟩
    have HB2 := hid (bel HB1.out hb)
    have E_2 := hid (E_1.out.below hb)
    clear hb
    go_wp2
    go_ret
    exact ⟨rfl, HB2.out⟩
end Go.Proofs.YtaooiggckcfanaaGreatDoor.Laws
