/- The law SortTexts, walked. -/
import Derived.Test.YtaooiggckcfanaaGreatDoorMT
import Derived.Test.YtaooiggckcfanaaGreatDoorLaw14c
import Derived.Test.YtaooiggckcfanaaGreatDoorMQ
import Derived.Test.YtaooiggckcfanaaGreatDoorMS
namespace Go.Proofs.YtaooiggckcfanaaGreatDoor.Laws
open Go.RowKit Go.Proofs.YtaooiggckcfanaaGreatDoor.Base Go.Proofs.YtaooiggckcfanaaGreatDoor.Base2 Go.Proofs.YtaooiggckcfanaaGreatDoor.UtfL Go.Proofs.YtaooiggckcfanaaGreatDoor.UrlA Go.Proofs.YtaooiggckcfanaaGreatDoor.UrlC Go.Proofs.YtaooiggckcfanaaGreatDoor.UrlF Go.Proofs.YtaooiggckcfanaaGreatDoor.HstC Go.Proofs.YtaooiggckcfanaaGreatDoor.PrsP Go.Proofs.YtaooiggckcfanaaGreatDoor.Ubx Go.Proofs.YtaooiggckcfanaaGreatDoor.PrsC Go.Proofs.YtaooiggckcfanaaGreatDoor.PrsD Go.Proofs.YtaooiggckcfanaaGreatDoor.SixG Go.Proofs.YtaooiggckcfanaaGreatDoor.Spl Go.Proofs.YtaooiggckcfanaaGreatDoor.PrsG Go.Proofs.YtaooiggckcfanaaGreatDoor.PrsR Go.Proofs.YtaooiggckcfanaaGreatDoor.PrsS Go.Proofs.YtaooiggckcfanaaGreatDoor.PrsV Go.Proofs.YtaooiggckcfanaaGreatDoor.PrsY Go.Proofs.YtaooiggckcfanaaGreatDoor.Ulw Go.Proofs.YtaooiggckcfanaaGreatDoor.SrtA Go.Proofs.YtaooiggckcfanaaGreatDoor.SrtW

theorem same_zero {u : U} (hu : u = U0) (A : Option Addr) (n c : Nat) (w : World) (hP : Pt w u A n c) : Calls Tryz.prog 21 #[.agg #[.string (strOf u.sch), .string (strOf u.usr), .string (strOf u.pwd), .string (strOf u.hst), .bool u.hh, .int .i64 u.port, .bool u.opq, .string (strOf u.txt), .slice A n c, .bool u.hq, .bool u.hf, .string (strOf u.qry), .string (strOf u.frg)], .agg #[.string ⟨#[]⟩, .string ⟨#[]⟩, .string ⟨#[]⟩, .string ⟨#[]⟩, .bool false, .int .i64 0, .bool false, .string ⟨#[]⟩, .slice none 0 0, .bool false, .bool false, .string ⟨#[]⟩, .string ⟨#[]⟩]] w fun e w' => e = .returned (.bool true) ∧ Below w.heap.size w w' := by
  subst hu
  have h := UrlG.refSame_any (strOf U0.sch) (strOf U0.usr) (strOf U0.pwd) (strOf U0.hst) U0.hh U0.port U0.opq (strOf U0.txt) A n c U0.pth U0.hq U0.hf (strOf U0.qry) (strOf U0.frg) ⟨#[]⟩ ⟨#[]⟩ ⟨#[]⟩ ⟨#[]⟩ false 0 false ⟨#[]⟩ none 0 0 [] false false ⟨#[]⟩ ⟨#[]⟩ w hP.pth.1 hP.pth.2.1 hP.pth.2.2 (Rds.nil _) (Nat.le_refl _) (Nat.zero_le _)
  rw [decide_eq_true (show UrlP.same1 (strOf U0.sch) (strOf U0.usr) (strOf U0.pwd) (strOf U0.hst) U0.hh U0.port U0.opq (strOf U0.txt) U0.pth U0.hq U0.hf (strOf U0.qry) (strOf U0.frg) = UrlP.same1 ⟨#[]⟩ ⟨#[]⟩ ⟨#[]⟩ ⟨#[]⟩ false 0 false ⟨#[]⟩ [] false false ⟨#[]⟩ ⟨#[]⟩ from rfl)] at h
  exact h
theorem sort_range (u : U) : 0 ≤ sortOf u ∧ sortOf u ≤ 7 := by
  unfold sortOf aboutOf
  repeat' split
  all_goals omega
set_option linter.unusedSimpArgs false in
set_option maxRecDepth 100000 in
set_option maxHeartbeats 8000000 in
theorem SortTexts_any (s0 s1 s2 : ByteArray) (w : World) (h0 : s0.size ≤ 140737488351232) (_h1 : s1.size ≤ 140737488351232) (_h2 : s2.size ≤ 140737488351232) (hT : Tab.Pow w) (hL : Lad w) (hM : Max w) (hU : Utab w) : Calls Tryz.prog 13 #[.string s0, .string s1, .string s2] w fun e w' => e = .returned (.bool true) ∧ Below w.heap.size w w' := by
  have HE := hid (⟨hT, hL, hM, hU⟩ : Env w)
  have HAW : Hid (∀ w : World, Env w → Calls Tryz.prog 29 #[] w fun e w' => e = .returned (.bool true) ∧ Below w.heap.size w w') := fun w E => SrtW.awake_any w E.pow E.lad E.max E.utab
  clear hT hL hM hU _h1 _h2
  by_cases hl : s0.size ≤ 1000
  · have hli : ¬ (1000 : Int) < (s0.size : Int) := by omega
    obtain ⟨Q1, rfl⟩ : ∃ Q, s1 = strOf Q := ⟨_, (strOf_toList _).symm⟩
    obtain ⟨Q2, rfl⟩ : ∃ Q, s2 = strOf Q := ⟨_, (strOf_toList _).symm⟩
    obtain ⟨u0, hu0⟩ : ∃ u0, u0 = U0 := ⟨_, rfl⟩
    have HU0 := hid hu0
    cases e1 : PrsP.url s0.data.toList none with
    | none =>
      have HP1 : Hid (∀ w, Env w → Calls Tryz.prog 16 #[.string s0, .pointer none] w fun e w' => ∃ A' n' c', e = .returned (.tuple #[.agg #[.string (strOf u0.sch), .string (strOf u0.usr), .string (strOf u0.pwd), .string (strOf u0.hst), .bool u0.hh, .int .i64 u0.port, .bool u0.opq, .string (strOf u0.txt), .slice A' n' c', .bool u0.hq, .bool u0.hf, .string (strOf u0.qry), .string (strOf u0.frg)], .int .i64 2]) ∧ Pt w' u0 A' n' c' ∧ Below w.heap.size w w') := fun w E => parse_none HU0.out e1 (by omega) w E
      have HSZ : Hid (∀ (A : Option Addr) (n c : Nat) (w : World), Pt w u0 A n c → Calls Tryz.prog 21 #[.agg #[.string (strOf u0.sch), .string (strOf u0.usr), .string (strOf u0.pwd), .string (strOf u0.hst), .bool u0.hh, .int .i64 u0.port, .bool u0.opq, .string (strOf u0.txt), .slice A n c, .bool u0.hq, .bool u0.hf, .string (strOf u0.qry), .string (strOf u0.frg)], .agg #[.string ⟨#[]⟩, .string ⟨#[]⟩, .string ⟨#[]⟩, .string ⟨#[]⟩, .bool false, .int .i64 0, .bool false, .string ⟨#[]⟩, .slice none 0 0, .bool false, .bool false, .string ⟨#[]⟩, .string ⟨#[]⟩]] w fun e w' => e = .returned (.bool true) ∧ Below w.heap.size w w') := fun A n c w h => same_zero hu0 A n c w h
      clear e1 hu0 hl h0
      go_enter Tryz.func13, Tryz.ntmps13
      go_wp2_with fail
      refine (HAW.out _ HE.out).mono ?_
      rintro e w1 ⟨rfl, hb⟩
      have HB1 := hid hb
      have E_1 := hid (HE.out.below hb)
      clear hb
      go_wp2_with fail
      refine (HP1.out _ E_1.out).mono ?_
      rintro e w2 ⟨A1, n1, c1, rfl, hpt, hb⟩
      have HB2 := hid (bel HB1.out hb)
      have E_2 := hid (E_1.out.below hb)
      clear hb
      have T1 := hid (hpt)
      clear hpt
      go_upto_region 4 with (fail)
      generalize hwa : World.alloc _ _ = v3
      have hxa : UB v3 (w2.heap.size) u0 (.slice A1 n1 c1) := by rw [← hwa]; exact heap_alloc_new _ _
      have hb : Below w2.heap.size w2 v3 := by rw [← hwa]; exact (Below.refl _ _).alloc (Nat.le_refl _) _
      have X1 := hid hxa
      clear hwa hxa
      have HB3 := hid (bel HB2.out hb)
      have E_3 := hid (E_2.out.below hb)
      have T1_3 := hid (T1.out.below hb)
      clear hb
      obtain ⟨ka0, ka1, ka2, ka3, ka4, ka5, ka6, ka7, ka8, ka9, ka10, ka11, ka12⟩ := X1.out.facts
      go_wp2_with fail
      clear ka0 ka1 ka2 ka3 ka4 ka5 ka6 ka7 ka8 ka9 ka10 ka11 ka12
      refine (HSZ.out _ _ _ _ T1_3.out).mono ?_
      rintro e w4 ⟨rfl, hb⟩
      have HB4 := hid (bel HB3.out hb)
      have E_4 := hid (E_3.out.below hb)
      have T1_4 := hid (T1_3.out.below hb)
      have X1_4 := hid (X1.out.below hb)
      clear hb
      go_wp2
      go_ret
      exact ⟨rfl, HB4.out⟩
    | some u =>
      have HP1 : Hid (∀ w, Env w → Calls Tryz.prog 16 #[.string s0, .pointer none] w fun e w' => ∃ A' n' c', e = .returned (.tuple #[.agg #[.string (strOf u.sch), .string (strOf u.usr), .string (strOf u.pwd), .string (strOf u.hst), .bool u.hh, .int .i64 u.port, .bool u.opq, .string (strOf u.txt), .slice A' n' c', .bool u.hq, .bool u.hf, .string (strOf u.qry), .string (strOf u.frg)], .int .i64 0]) ∧ Pt w' u A' n' c' ∧ Below w.heap.size w w') := fun w E => parse_some e1 (by omega) w E
      obtain ⟨Z, hZ⟩ : ∃ Z, Z = sortOf u := ⟨_, rfl⟩
      have hr := sort_range u
      rw [← hZ] at hr
      obtain ⟨r1, r2⟩ := hr
      have hne := name_in (a := Z) ⟨r1, r2⟩
      obtain ⟨M, hMn⟩ : ∃ M, M = nameOf Z := ⟨_, rfl⟩
      rw [← hMn] at hne
      obtain ⟨v, hv⟩ : ∃ v : U, v = { u with hq := true, qry := Q1, hf := true, frg := Q2, hh := true, hst := [120], port := 5, usr := [117] } := ⟨_, rfl⟩
      have HV := hid hv
      have hZv : sortOf v = Z := by rw [hZ, hv]; rfl
      have HOF : Hid (∀ (A : Option Addr) (n c : Nat) (w : World), Calls Tryz.prog 31 #[.agg #[.string (strOf u.sch), .string (strOf u.usr), .string (strOf u.pwd), .string (strOf u.hst), .bool u.hh, .int .i64 u.port, .bool u.opq, .string (strOf u.txt), .slice A n c, .bool u.hq, .bool u.hf, .string (strOf u.qry), .string (strOf u.frg)]] w fun e w' => e = .returned (.int .i64 Z) ∧ Below w.heap.size w w') := fun A n c w => by rw [hZ]; exact of_any u A n c w
      have HOV : Hid (∀ (A : Option Addr) (n c : Nat) (w : World), Calls Tryz.prog 31 #[.agg #[.string (strOf v.sch), .string (strOf v.usr), .string (strOf v.pwd), .string (strOf v.hst), .bool v.hh, .int .i64 v.port, .bool v.opq, .string (strOf v.txt), .slice A n c, .bool v.hq, .bool v.hf, .string (strOf v.qry), .string (strOf v.frg)]] w fun e w' => e = .returned (.int .i64 Z) ∧ Below w.heap.size w w') := fun A n c w => by rw [← hZv]; exact of_any v A n c w
      have HNA : Hid (∀ w : World, Calls Tryz.prog 33 #[.int .i64 Z] w fun e w' => e = .returned (.string (strOf M)) ∧ w' = w) := fun w => by rw [hMn]; exact name_any Z w
      have q0 : ((strOf M).toList == []) = false := by rw [str_tl, beq_eq_false_iff_ne]; exact hne
      have q1 : ¬ (strOf M).toList = [] := by rw [str_tl]; exact hne
      clear e1 hu0 hl h0 hZ hZv hne hMn hv
      go_enter Tryz.func13, Tryz.ntmps13
      go_wp2_with fail
      refine (HAW.out _ HE.out).mono ?_
      rintro e w1 ⟨rfl, hb⟩
      have HB1 := hid hb
      have E_1 := hid (HE.out.below hb)
      clear hb
      go_wp2_with fail
      refine (HP1.out _ E_1.out).mono ?_
      rintro e w2 ⟨A1, n1, c1, rfl, hpt, hb⟩
      have HB2 := hid (bel HB1.out hb)
      have E_2 := hid (E_1.out.below hb)
      clear hb
      have T1 := hid (hpt)
      clear hpt
      go_upto_region 4 with (fail)
      generalize hwa : World.alloc _ _ = v3
      have hxa : UB v3 (w2.heap.size) u (.slice A1 n1 c1) := by rw [← hwa]; exact heap_alloc_new _ _
      have hb : Below w2.heap.size w2 v3 := by rw [← hwa]; exact (Below.refl _ _).alloc (Nat.le_refl _) _
      have X1 := hid hxa
      clear hwa hxa
      have HB3 := hid (bel HB2.out hb)
      have E_3 := hid (E_2.out.below hb)
      have T1_3 := hid (T1.out.below hb)
      clear hb
      obtain ⟨ka0, ka1, ka2, ka3, ka4, ka5, ka6, ka7, ka8, ka9, ka10, ka11, ka12⟩ := X1.out.facts
      go_upto_region 8 with (fail)
      clear ka0 ka1 ka2 ka3 ka4 ka5 ka6 ka7 ka8 ka9 ka10 ka11 ka12
      generalize hwa : World.alloc _ _ = v4
      have hxa : UB v4 v3.heap.size v (.slice A1 n1 c1) := by rw [← hwa, HV.out]; exact heap_alloc_new _ _
      have hb : Below v3.heap.size v3 v4 := by rw [← hwa]; exact (Below.refl _ _).alloc (Nat.le_refl _) _
      have X2 := hid hxa
      clear hwa hxa
      have HB4 := hid (bel HB3.out hb)
      have E_4 := hid (E_3.out.below hb)
      have T1_4 := hid (T1_3.out.below hb)
      have X1_4 := hid (X1.out.below hb)
      clear hb
      obtain ⟨ka0, ka1, ka2, ka3, ka4, ka5, ka6, ka7, ka8, ka9, ka10, ka11, ka12⟩ := X1_4.out.facts
      go_wp2_with fail
      clear ka0 ka1 ka2 ka3 ka4 ka5 ka6 ka7 ka8 ka9 ka10 ka11 ka12
      refine (HOF.out _ _ _ _).mono ?_
      rintro e w5 ⟨rfl, hb⟩
      have HB5 := hid (bel HB4.out hb)
      have E_5 := hid (E_4.out.below hb)
      have T1_5 := hid (T1_4.out.below hb)
      have X1_5 := hid (X1_4.out.below hb)
      have X2_5 := hid (X2.out.below hb)
      clear hb
      obtain ⟨ka0, ka1, ka2, ka3, ka4, ka5, ka6, ka7, ka8, ka9, ka10, ka11, ka12⟩ := X2_5.out.facts
      go_wp2_with fail
      clear ka0 ka1 ka2 ka3 ka4 ka5 ka6 ka7 ka8 ka9 ka10 ka11 ka12
      refine (HOV.out _ _ _ _).mono ?_
      rintro e w6 ⟨rfl, hb⟩
      have HB6 := hid (bel HB5.out hb)
      have E_6 := hid (E_5.out.below hb)
      have T1_6 := hid (T1_5.out.below hb)
      have X1_6 := hid (X1_5.out.below hb)
      have X2_6 := hid (X2_5.out.below hb)
      clear hb
      go_wp2_with fail
      refine (HNA.out _).mono ?_
      rintro e w_ ⟨rfl, hw_⟩
      subst hw_
      go_wp2
      go_ret
      exact ⟨rfl, HB6.out⟩
  · have hli : (1000 : Int) < (s0.size : Int) := by omega
    clear hl h0
    go_enter Tryz.func13, Tryz.ntmps13
    go_wp2_with fail
    refine (HAW.out _ HE.out).mono ?_
    rintro e w1 ⟨rfl, hb⟩
    have HB1 := hid hb
    have E_1 := hid (HE.out.below hb)
    clear hb
    go_wp2_with fail
    refine (HAW.out _ E_1.out).mono ?_
    rintro e w2 ⟨rfl, hb⟩
    have HB2 := hid (bel HB1.out hb)
    have E_2 := hid (E_1.out.below hb)
    clear hb
    go_wp2
    go_ret
    exact ⟨rfl, HB2.out⟩
end Go.Proofs.YtaooiggckcfanaaGreatDoor.Laws
