/- The law OriginBlobs, walked. -/
import Derived.Test.YtmdofbccebkbiaaGreatDoorMZ
set_option linter.unusedSimpArgs false
set_option linter.unusedVariables false
namespace Go.Proofs.YtmdofbccebkbiaaGreatDoor.Laws
open Go.RowKit Go.Proofs.YtmdofbccebkbiaaGreatDoor.Base Go.Proofs.YtmdofbccebkbiaaGreatDoor.Base2 Go.Proofs.YtmdofbccebkbiaaGreatDoor.UtfL Go.Proofs.YtmdofbccebkbiaaGreatDoor.UrlA Go.Proofs.YtmdofbccebkbiaaGreatDoor.UrlC Go.Proofs.YtmdofbccebkbiaaGreatDoor.UrlF Go.Proofs.YtmdofbccebkbiaaGreatDoor.UrlH Go.Proofs.YtmdofbccebkbiaaGreatDoor.HstC Go.Proofs.YtmdofbccebkbiaaGreatDoor.PrsP Go.Proofs.YtmdofbccebkbiaaGreatDoor.Ubx Go.Proofs.YtmdofbccebkbiaaGreatDoor.PrsC Go.Proofs.YtmdofbccebkbiaaGreatDoor.PrsD Go.Proofs.YtmdofbccebkbiaaGreatDoor.SixG Go.Proofs.YtmdofbccebkbiaaGreatDoor.Spl Go.Proofs.YtmdofbccebkbiaaGreatDoor.PrsG Go.Proofs.YtmdofbccebkbiaaGreatDoor.PrsR Go.Proofs.YtmdofbccebkbiaaGreatDoor.PrsV Go.Proofs.YtmdofbccebkbiaaGreatDoor.PrsX Go.Proofs.YtmdofbccebkbiaaGreatDoor.PrsY Go.Proofs.YtmdofbccebkbiaaGreatDoor.Ulw Go.Proofs.YtmdofbccebkbiaaGreatDoor.OrgA Go.Proofs.YtmdofbccebkbiaaGreatDoor.OrgP Go.Proofs.YtmdofbccebkbiaaGreatDoor.OrgW Go.Proofs.YtmdofbccebkbiaaGreatDoor.OrgX Go.Proofs.YtmdofbccebkbiaaGreatDoor.OrgY

set_option linter.unusedSimpArgs false in
set_option maxRecDepth 100000 in
set_option maxHeartbeats 8000000 in
theorem OriginBlobs_any (s : ByteArray) (w : World) (h0 : s.size ≤ 140737488351232) (hT : Tab.Pow w) (hL : Lad w) (hM : Max w) (hU : Utab w) : Calls Tryz.prog 6 #[.string s] w fun e w' => e = .returned (.bool true) ∧ Below w.heap.size w w' := by
  have HE := hid (⟨hT, hL, hM, hU⟩ : Env w)
  have HAW : Hid (∀ w : World, Env w → Calls Tryz.prog 18 #[] w fun e w' => e = .returned (.bool true) ∧ Below w.heap.size w w') := fun w E => OrgW.awake_any w E
  clear hT hL hM hU
  by_cases hl : s.size ≤ 1000
  · have hli : ¬ (1000 : Int) < (s.size : Int) := by omega
    have hsl : s.data.toList.length = s.size := Array.length_toList
    cases ho : PrsP.url s.data.toList none with
    | none =>
      obtain ⟨u0, hu0⟩ : ∃ u0, u0 = U0 := ⟨_, rfl⟩
      have HPS := hid (fun w E => parse_none (T := s) hu0 ho (by omega) w E)
      have q0 : ((strOf u0.sch).toList == []) = true := by rw [str_tl, hu0]; rfl
      have q1 : (strOf u0.sch).toList = [] := by rw [str_tl, hu0]; rfl
      clear ho hsl hu0
      go_enter Tryz.func6, Tryz.ntmps6
      go_wp2_with fail
      refine (HAW.out _ HE.out).mono ?_
      rintro e w1 ⟨rfl, hb⟩
      have HB1 := hid hb
      have E_1 := hid (HE.out.below hb)
      clear hb
      go_wp2_with fail
      refine (HPS.out _ E_1.out).mono ?_
      rintro e w2 ⟨A1, n1, c1, rfl, hpt, hb⟩
      have HB2 := hid (bel HB1.out hb)
      have E_2 := hid (E_1.out.below hb)
      clear hb
      have T1 := hid hpt
      clear hpt
      go_upto_region 4 with (fail)
      generalize hwa : World.alloc _ _ = v3
      have hxa : UB v3 w2.heap.size u0 (.slice A1 n1 c1) := by rw [← hwa]; exact heap_alloc_new _ _
      have hb : Below w2.heap.size w2 v3 := by rw [← hwa]; exact (Below.refl _ _).alloc (Nat.le_refl _) _
      have X1 := hid hxa
      clear hwa hxa
      have HB3 := hid (bel HB2.out hb)
      have E_3 := hid (E_2.out.below hb)
      have T1_3 := hid (T1.out.below hb)
      clear hb
      obtain ⟨d0, d1, d2, d3, d4, d5, d6, d7, d8, d9, d10, d11, d12⟩ := X1.out.facts
      go_wp2
      go_ret
      exact ⟨by first | rfl | trivial, HB3.out⟩
    | some u =>
      have hF := url_fit (M := 0) ho (fun _ e => by cases e)
      have hOk := url_ok ho (fun _ e => by cases e)
      have hln := print_len (bare_fit hF)
      have HPS := hid (fun w E => parse_some (T := s) ho (by omega) w E)
      obtain ⟨P, hP⟩ : ∃ P, P = strOf (printU (bareV u)) := ⟨_, rfl⟩
      obtain ⟨Q, hQ⟩ : ∃ Q, Q = strOf ([98, 108, 111, 98, 58] ++ printU (bareV u)) := ⟨_, rfl⟩
      have HPR : Hid (∀ (A : Option Addr) (n c : Nat) (w : World), Pt w u A n c → Env w → Calls Tryz.prog 22 #[.agg #[.string (strOf (off u).sch), .string (strOf (off u).usr), .string (strOf (off u).pwd), .string (strOf (off u).hst), .bool (off u).hh, .int .i64 (off u).port, .bool (off u).opq, .string (strOf (off u).txt), .slice A n c, .bool (off u).hq, .bool (off u).hf, .string (strOf (off u).qry), .string (strOf (off u).frg)], .bool true] w fun e w' => e = .returned (.string P) ∧ Below w.heap.size w w') := fun A n c w h E => by rw [hP]; exact ref_bare hF (by omega) A n c w h E
      have hadd : ∀ w : World, (Op.stringOp .add ⟨#[98, 108, 111, 98, 58]⟩ P).run Tryz.prog w = .ok (.string Q) w := fun w => by
        have h := str_add' (P := Tryz.prog) ⟨#[98, 108, 111, 98, 58]⟩ P w (by rw [hP, size_strOf]; show 5 + _ ≤ _; omega)
        rw [h, hQ, hP]
        rfl
      obtain ⟨B, hB⟩ : ∃ B, B = blobU (printU (bareV u)) := ⟨_, rfl⟩
      have HPB := hid (fun w E => parse_some (T := Q) (u := B) (by rw [hQ, hB]; exact url_blob hOk) (by rw [hQ, size_strOf, List.length_append]; show 5 + _ ≤ _; omega) w E)
      have HOB := hid (fun A n c w hp E => of_blobU hOk (by omega) A n c w hp E)
      rw [← hB] at HOB
      have hF2 : Fit (off u) (0 + 15 * s.data.toList.length + 300) := ⟨hF.all, hF.lo, hF.hi⟩
      obtain ⟨V, hV⟩ : ∃ V, V = off u := ⟨_, rfl⟩
      have HV := hid hV
      rw [← hV] at HPR hF2
      rcases Classical.em (u.sch = [104, 116, 116, 112] ∨ u.sch = [104, 116, 116, 112, 115]) with h4 | h4
      · have HO1 : Hid (∀ (A : Option Addr) (n c : Nat) (w : World), Pt w B A n c → Env w → Calls Tryz.prog 19 #[.agg #[.string (strOf B.sch), .string (strOf B.usr), .string (strOf B.pwd), .string (strOf B.hst), .bool B.hh, .int .i64 B.port, .bool B.opq, .string (strOf B.txt), .slice A n c, .bool B.hq, .bool B.hf, .string (strOf B.qry), .string (strOf B.frg)]] w fun e w' => e = .returned (.tuple #[.agg #[.string (strOf V.sch), .string (strOf V.hst), .int .i64 V.port, .int .i64 0], .bool true]) ∧ Below w.heap.size w w') := fun A n c w hp E => by rw [hV]; exact (HOB.out A n c w hp E).1 h4
        have HO2 : Hid (∀ (A : Option Addr) (n c : Nat) (w : World), Calls Tryz.prog 19 #[.agg #[.string (strOf V.sch), .string (strOf V.usr), .string (strOf V.pwd), .string (strOf V.hst), .bool V.hh, .int .i64 V.port, .bool V.opq, .string (strOf V.txt), .slice A n c, .bool V.hq, .bool V.hf, .string (strOf V.qry), .string (strOf V.frg)]] w fun e w' => e = .returned (.tuple #[.agg #[.string (strOf V.sch), .string (strOf V.hst), .int .i64 V.port, .int .i64 0], .bool true]) ∧ Below w.heap.size w w') := fun A n c w => of_tuple V A n c w (by rw [hV]; exact h4)
        have HSM : Hid (∀ w : World, Calls Tryz.prog 23 #[.agg #[.string (strOf V.sch), .string (strOf V.hst), .int .i64 V.port, .int .i64 0], .agg #[.string (strOf V.sch), .string (strOf V.hst), .int .i64 V.port, .int .i64 0]] w fun e w' => e = .returned (.bool true) ∧ Below w.heap.size w w') := fun w => by
          have h := OrgA.same_any (strOf V.sch) (strOf V.hst) V.port 0 (strOf V.sch) (strOf V.hst) V.port 0 w
          rw [sameO_refl] at h
          exact h
        have heq := eql_o (strOf V.sch) (strOf V.hst) V.port 0
        rcases h4 with h4 | h4
        ·
          have eH : ((strOf V.sch).toList == [104, 116, 116, 112]) = true := by rw [str_tl, HV.out]; show (u.sch == [104, 116, 116, 112]) = true; rw [h4]; rfl
          have fH : (strOf V.sch).toList = [104, 116, 116, 112] := by rw [str_tl, HV.out]; exact h4
          clear h4
          clear ho hsl hF hOk hln hP hQ hB HOB hF2 hV
          go_enter Tryz.func6, Tryz.ntmps6
          go_wp2_with fail
          refine (HAW.out _ HE.out).mono ?_
          rintro e w1 ⟨rfl, hb⟩
          have HB1 := hid hb
          have E_1 := hid (HE.out.below hb)
          clear hb
          go_wp2_with fail
          refine (HPS.out _ E_1.out).mono ?_
          rintro e w2 ⟨A1, n1, c1, rfl, hpt, hb⟩
          have HB2 := hid (bel HB1.out hb)
          have E_2 := hid (E_1.out.below hb)
          clear hb
          have T1 := hid (⟨hpt.pth⟩ : Pt w2 u A1 n1 c1)
          clear hpt
          go_upto_region 4 with (fail)
          generalize hwa : World.alloc _ _ = v3
          have hxa : UB v3 w2.heap.size u (.slice A1 n1 c1) := by rw [← hwa]; exact heap_alloc_new _ _
          have hbv : Below w2.heap.size w2 v3 := by rw [← hwa]; exact (Below.refl _ _).alloc (Nat.le_refl _) _
          have X0 := hid hxa
          have HV0 := hid hbv
          clear hwa hxa hbv
          obtain ⟨d0, d1, d2, d3, d4, d5, d6, d7, d8, d9, d10, d11, d12⟩ := X0.out.facts
          obtain ⟨z0, z1, z2, z3, z4, z5, z6, z7, z8, z9, z10, z11, z12⟩ := X0.out.thaw
          go_upto_region 7 with (fail)
          clear d0 d1 d2 d3 d4 d5 d6 d7 d8 d9 d10 d11 d12 z0 z1 z2 z3 z4 z5 z6 z7 z8 z9 z10 z11 z12
          generalize hwa : World.setCell (World.setCell _ _ _) _ _ = u3
          have hxa : UB u3 w2.heap.size V (.slice A1 n1 c1) := by rw [← hwa, HV.out]; exact (X0.out.hq false).hf false
          have hb : Below w2.heap.size w2 u3 := by rw [← hwa]; exact (HV0.out.setCell (p := ⟨w2.heap.size, 9, none⟩) (Nat.le_refl _) _).setCell (p := ⟨w2.heap.size, 10, none⟩) (Nat.le_refl _) _
          clear hwa HV0 X0
          have X1 := hid hxa
          clear hxa
          have HB3 := hid (bel HB2.out hb)
          have E_3 := hid (E_2.out.below hb)
          have T1_3 := hid (T1.out.below hb)
          clear hb
          have S1 := hid (by have h := T1_3.out; rw [HV.out]; exact ⟨h.pth⟩ : Pt u3 V A1 n1 c1)
          obtain ⟨d0, d1, d2, d3, d4, d5, d6, d7, d8, d9, d10, d11, d12⟩ := X1.out.facts
          go_wp2_with fail
          clear d0 d1 d2 d3 d4 d5 d6 d7 d8 d9 d10 d11 d12
          refine (HPR.out _ _ _ _ T1_3.out E_3.out).mono ?_
          rintro e w4 ⟨rfl, hb⟩
          have HB4 := hid (bel HB3.out hb)
          have E_4 := hid (E_3.out.below hb)
          have T1_4 := hid (T1_3.out.below hb)
          have X1_4 := hid (X1.out.below hb)
          have S1_4 := hid (S1.out.below hb)
          clear hb
          go_wp2_with fail
          refine (HPB.out _ E_4.out).mono ?_
          rintro e w5 ⟨A2, n2, c2, rfl, hpt, hb⟩
          have HB5 := hid (bel HB4.out hb)
          have E_5 := hid (E_4.out.below hb)
          have T1_5 := hid (T1_4.out.below hb)
          have X1_5 := hid (X1_4.out.below hb)
          have S1_5 := hid (S1_4.out.below hb)
          clear hb
          have T2 := hid hpt
          clear hpt
          go_upto_region 9 with (fail)
          generalize hwa : World.alloc _ _ = v6
          have hxa : UB v6 w5.heap.size B (.slice A2 n2 c2) := by rw [← hwa]; exact heap_alloc_new _ _
          have hb : Below w5.heap.size w5 v6 := by rw [← hwa]; exact (Below.refl _ _).alloc (Nat.le_refl _) _
          have X2 := hid hxa
          clear hwa hxa
          have HB6 := hid (bel HB5.out hb)
          have E_6 := hid (E_5.out.below hb)
          have T1_6 := hid (T1_5.out.below hb)
          have X1_6 := hid (X1_5.out.below hb)
          have S1_6 := hid (S1_5.out.below hb)
          have T2_6 := hid (T2.out.below hb)
          clear hb
          obtain ⟨e0, e1, e2, e3, e4, e5, e6, e7, e8, e9, e10, e11, e12⟩ := X2.out.facts
          go_wp2_with fail
          clear e0 e1 e2 e3 e4 e5 e6 e7 e8 e9 e10 e11 e12
          refine (HO1.out _ _ _ _ T2_6.out E_6.out).mono ?_
          rintro e w7 ⟨rfl, hb⟩
          have HB7 := hid (bel HB6.out hb)
          have E_7 := hid (E_6.out.below hb)
          have T1_7 := hid (T1_6.out.below hb)
          have X1_7 := hid (X1_6.out.below hb)
          have S1_7 := hid (S1_6.out.below hb)
          have T2_7 := hid (T2_6.out.below hb)
          have X2_7 := hid (X2.out.below hb)
          clear hb
          go_upto_region 12 with (fail)
          generalize hwa : World.alloc _ _ = v8
          have hxa : OB v8 w7.heap.size (strOf V.sch) (strOf V.hst) V.port 0 := by rw [← hwa]; exact heap_alloc_new _ _
          have hb : Below w7.heap.size w7 v8 := by rw [← hwa]; exact (Below.refl _ _).alloc (Nat.le_refl _) _
          have Y1 := hid hxa
          clear hwa hxa
          have HB8 := hid (bel HB7.out hb)
          have E_8 := hid (E_7.out.below hb)
          have T1_8 := hid (T1_7.out.below hb)
          have X1_8 := hid (X1_7.out.below hb)
          have S1_8 := hid (S1_7.out.below hb)
          have T2_8 := hid (T2_7.out.below hb)
          have X2_8 := hid (X2_7.out.below hb)
          clear hb
          obtain ⟨d0, d1, d2, d3, d4, d5, d6, d7, d8, d9, d10, d11, d12⟩ := X1_8.out.facts
          go_wp2_with fail
          clear d0 d1 d2 d3 d4 d5 d6 d7 d8 d9 d10 d11 d12
          refine (HO2.out _ _ _ _).mono ?_
          rintro e w9 ⟨rfl, hb⟩
          have HB9 := hid (bel HB8.out hb)
          have E_9 := hid (E_8.out.below hb)
          have T1_9 := hid (T1_8.out.below hb)
          have X1_9 := hid (X1_8.out.below hb)
          have S1_9 := hid (S1_8.out.below hb)
          have T2_9 := hid (T2_8.out.below hb)
          have X2_9 := hid (X2_8.out.below hb)
          have Y1_9 := hid (Y1.out.below hb)
          clear hb
          go_upto_region 13 with (fail)
          generalize hwa : World.alloc _ _ = v10
          have hxa : OB v10 w9.heap.size (strOf V.sch) (strOf V.hst) V.port 0 := by rw [← hwa]; exact heap_alloc_new _ _
          have hb : Below w9.heap.size w9 v10 := by rw [← hwa]; exact (Below.refl _ _).alloc (Nat.le_refl _) _
          have Y2 := hid hxa
          clear hwa hxa
          have HB10 := hid (bel HB9.out hb)
          have E_10 := hid (E_9.out.below hb)
          have T1_10 := hid (T1_9.out.below hb)
          have X1_10 := hid (X1_9.out.below hb)
          have S1_10 := hid (S1_9.out.below hb)
          have T2_10 := hid (T2_9.out.below hb)
          have X2_10 := hid (X2_9.out.below hb)
          have Y1_10 := hid (Y1_9.out.below hb)
          clear hb
          obtain ⟨d0, d1, d2, d3, d4, d5, d6, d7, d8, d9, d10, d11, d12⟩ := X1_10.out.facts
          obtain ⟨o0, o1, o2, o3⟩ := Y1_10.out.facts
          obtain ⟨r0, r1, r2, r3⟩ := Y2.out.facts
          go_wp2_with fail
          clear d0 d1 d2 d3 d4 d5 d6 d7 d8 d9 d10 d11 d12 o0 o1 o2 o3 r0 r1 r2 r3
          refine (HSM.out _).mono ?_
          rintro e w11 ⟨rfl, hb⟩
          have HB11 := hid (bel HB10.out hb)
          have E_11 := hid (E_10.out.below hb)
          have T1_11 := hid (T1_10.out.below hb)
          have X1_11 := hid (X1_10.out.below hb)
          have S1_11 := hid (S1_10.out.below hb)
          have T2_11 := hid (T2_10.out.below hb)
          have X2_11 := hid (X2_10.out.below hb)
          have Y1_11 := hid (Y1_10.out.below hb)
          have Y2_11 := hid (Y2.out.below hb)
          clear hb
          obtain ⟨o0, o1, o2, o3⟩ := Y1_11.out.facts
          obtain ⟨r0, r1, r2, r3⟩ := Y2_11.out.facts
          go_wp2
          go_ret
          exact ⟨by first | rfl | trivial, HB11.out⟩
        ·
          have nH : ¬ u.sch = [104, 116, 116, 112] := by rw [h4]; decide
          have eH : ((strOf V.sch).toList == [104, 116, 116, 112]) = false := by rw [str_tl, HV.out]; show (u.sch == [104, 116, 116, 112]) = false; rw [beq_eq_false_iff_ne]; exact nH
          have fH : ¬ (strOf V.sch).toList = [104, 116, 116, 112] := by rw [str_tl, HV.out]; exact nH
          have eS : ((strOf V.sch).toList == [104, 116, 116, 112, 115]) = true := by rw [str_tl, HV.out]; show (u.sch == [104, 116, 116, 112, 115]) = true; rw [h4]; rfl
          have fS : (strOf V.sch).toList = [104, 116, 116, 112, 115] := by rw [str_tl, HV.out]; exact h4
          clear nH
          clear h4
          clear ho hsl hF hOk hln hP hQ hB HOB hF2 hV
          go_enter Tryz.func6, Tryz.ntmps6
          go_wp2_with fail
          refine (HAW.out _ HE.out).mono ?_
          rintro e w1 ⟨rfl, hb⟩
          have HB1 := hid hb
          have E_1 := hid (HE.out.below hb)
          clear hb
          go_wp2_with fail
          refine (HPS.out _ E_1.out).mono ?_
          rintro e w2 ⟨A1, n1, c1, rfl, hpt, hb⟩
          have HB2 := hid (bel HB1.out hb)
          have E_2 := hid (E_1.out.below hb)
          clear hb
          have T1 := hid (⟨hpt.pth⟩ : Pt w2 u A1 n1 c1)
          clear hpt
          go_upto_region 4 with (fail)
          generalize hwa : World.alloc _ _ = v3
          have hxa : UB v3 w2.heap.size u (.slice A1 n1 c1) := by rw [← hwa]; exact heap_alloc_new _ _
          have hbv : Below w2.heap.size w2 v3 := by rw [← hwa]; exact (Below.refl _ _).alloc (Nat.le_refl _) _
          have X0 := hid hxa
          have HV0 := hid hbv
          clear hwa hxa hbv
          obtain ⟨d0, d1, d2, d3, d4, d5, d6, d7, d8, d9, d10, d11, d12⟩ := X0.out.facts
          obtain ⟨z0, z1, z2, z3, z4, z5, z6, z7, z8, z9, z10, z11, z12⟩ := X0.out.thaw
          go_upto_region 7 with (fail)
          clear d0 d1 d2 d3 d4 d5 d6 d7 d8 d9 d10 d11 d12 z0 z1 z2 z3 z4 z5 z6 z7 z8 z9 z10 z11 z12
          generalize hwa : World.setCell (World.setCell _ _ _) _ _ = u3
          have hxa : UB u3 w2.heap.size V (.slice A1 n1 c1) := by rw [← hwa, HV.out]; exact (X0.out.hq false).hf false
          have hb : Below w2.heap.size w2 u3 := by rw [← hwa]; exact (HV0.out.setCell (p := ⟨w2.heap.size, 9, none⟩) (Nat.le_refl _) _).setCell (p := ⟨w2.heap.size, 10, none⟩) (Nat.le_refl _) _
          clear hwa HV0 X0
          have X1 := hid hxa
          clear hxa
          have HB3 := hid (bel HB2.out hb)
          have E_3 := hid (E_2.out.below hb)
          have T1_3 := hid (T1.out.below hb)
          clear hb
          have S1 := hid (by have h := T1_3.out; rw [HV.out]; exact ⟨h.pth⟩ : Pt u3 V A1 n1 c1)
          obtain ⟨d0, d1, d2, d3, d4, d5, d6, d7, d8, d9, d10, d11, d12⟩ := X1.out.facts
          go_wp2_with fail
          clear d0 d1 d2 d3 d4 d5 d6 d7 d8 d9 d10 d11 d12
          refine (HPR.out _ _ _ _ T1_3.out E_3.out).mono ?_
          rintro e w4 ⟨rfl, hb⟩
          have HB4 := hid (bel HB3.out hb)
          have E_4 := hid (E_3.out.below hb)
          have T1_4 := hid (T1_3.out.below hb)
          have X1_4 := hid (X1.out.below hb)
          have S1_4 := hid (S1.out.below hb)
          clear hb
          go_wp2_with fail
          refine (HPB.out _ E_4.out).mono ?_
          rintro e w5 ⟨A2, n2, c2, rfl, hpt, hb⟩
          have HB5 := hid (bel HB4.out hb)
          have E_5 := hid (E_4.out.below hb)
          have T1_5 := hid (T1_4.out.below hb)
          have X1_5 := hid (X1_4.out.below hb)
          have S1_5 := hid (S1_4.out.below hb)
          clear hb
          have T2 := hid hpt
          clear hpt
          go_upto_region 9 with (fail)
          generalize hwa : World.alloc _ _ = v6
          have hxa : UB v6 w5.heap.size B (.slice A2 n2 c2) := by rw [← hwa]; exact heap_alloc_new _ _
          have hb : Below w5.heap.size w5 v6 := by rw [← hwa]; exact (Below.refl _ _).alloc (Nat.le_refl _) _
          have X2 := hid hxa
          clear hwa hxa
          have HB6 := hid (bel HB5.out hb)
          have E_6 := hid (E_5.out.below hb)
          have T1_6 := hid (T1_5.out.below hb)
          have X1_6 := hid (X1_5.out.below hb)
          have S1_6 := hid (S1_5.out.below hb)
          have T2_6 := hid (T2.out.below hb)
          clear hb
          obtain ⟨e0, e1, e2, e3, e4, e5, e6, e7, e8, e9, e10, e11, e12⟩ := X2.out.facts
          go_wp2_with fail
          clear e0 e1 e2 e3 e4 e5 e6 e7 e8 e9 e10 e11 e12
          refine (HO1.out _ _ _ _ T2_6.out E_6.out).mono ?_
          rintro e w7 ⟨rfl, hb⟩
          have HB7 := hid (bel HB6.out hb)
          have E_7 := hid (E_6.out.below hb)
          have T1_7 := hid (T1_6.out.below hb)
          have X1_7 := hid (X1_6.out.below hb)
          have S1_7 := hid (S1_6.out.below hb)
          have T2_7 := hid (T2_6.out.below hb)
          have X2_7 := hid (X2.out.below hb)
          clear hb
          go_upto_region 12 with (fail)
          generalize hwa : World.alloc _ _ = v8
          have hxa : OB v8 w7.heap.size (strOf V.sch) (strOf V.hst) V.port 0 := by rw [← hwa]; exact heap_alloc_new _ _
          have hb : Below w7.heap.size w7 v8 := by rw [← hwa]; exact (Below.refl _ _).alloc (Nat.le_refl _) _
          have Y1 := hid hxa
          clear hwa hxa
          have HB8 := hid (bel HB7.out hb)
          have E_8 := hid (E_7.out.below hb)
          have T1_8 := hid (T1_7.out.below hb)
          have X1_8 := hid (X1_7.out.below hb)
          have S1_8 := hid (S1_7.out.below hb)
          have T2_8 := hid (T2_7.out.below hb)
          have X2_8 := hid (X2_7.out.below hb)
          clear hb
          obtain ⟨d0, d1, d2, d3, d4, d5, d6, d7, d8, d9, d10, d11, d12⟩ := X1_8.out.facts
          go_wp2_with fail
          clear d0 d1 d2 d3 d4 d5 d6 d7 d8 d9 d10 d11 d12
          refine (HO2.out _ _ _ _).mono ?_
          rintro e w9 ⟨rfl, hb⟩
          have HB9 := hid (bel HB8.out hb)
          have E_9 := hid (E_8.out.below hb)
          have T1_9 := hid (T1_8.out.below hb)
          have X1_9 := hid (X1_8.out.below hb)
          have S1_9 := hid (S1_8.out.below hb)
          have T2_9 := hid (T2_8.out.below hb)
          have X2_9 := hid (X2_8.out.below hb)
          have Y1_9 := hid (Y1.out.below hb)
          clear hb
          go_upto_region 13 with (fail)
          generalize hwa : World.alloc _ _ = v10
          have hxa : OB v10 w9.heap.size (strOf V.sch) (strOf V.hst) V.port 0 := by rw [← hwa]; exact heap_alloc_new _ _
          have hb : Below w9.heap.size w9 v10 := by rw [← hwa]; exact (Below.refl _ _).alloc (Nat.le_refl _) _
          have Y2 := hid hxa
          clear hwa hxa
          have HB10 := hid (bel HB9.out hb)
          have E_10 := hid (E_9.out.below hb)
          have T1_10 := hid (T1_9.out.below hb)
          have X1_10 := hid (X1_9.out.below hb)
          have S1_10 := hid (S1_9.out.below hb)
          have T2_10 := hid (T2_9.out.below hb)
          have X2_10 := hid (X2_9.out.below hb)
          have Y1_10 := hid (Y1_9.out.below hb)
          clear hb
          obtain ⟨d0, d1, d2, d3, d4, d5, d6, d7, d8, d9, d10, d11, d12⟩ := X1_10.out.facts
          obtain ⟨o0, o1, o2, o3⟩ := Y1_10.out.facts
          obtain ⟨r0, r1, r2, r3⟩ := Y2.out.facts
          go_wp2_with fail
          clear d0 d1 d2 d3 d4 d5 d6 d7 d8 d9 d10 d11 d12 o0 o1 o2 o3 r0 r1 r2 r3
          refine (HSM.out _).mono ?_
          rintro e w11 ⟨rfl, hb⟩
          have HB11 := hid (bel HB10.out hb)
          have E_11 := hid (E_10.out.below hb)
          have T1_11 := hid (T1_10.out.below hb)
          have X1_11 := hid (X1_10.out.below hb)
          have S1_11 := hid (S1_10.out.below hb)
          have T2_11 := hid (T2_10.out.below hb)
          have X2_11 := hid (X2_10.out.below hb)
          have Y1_11 := hid (Y1_10.out.below hb)
          have Y2_11 := hid (Y2.out.below hb)
          clear hb
          obtain ⟨o0, o1, o2, o3⟩ := Y1_11.out.facts
          obtain ⟨r0, r1, r2, r3⟩ := Y2_11.out.facts
          go_wp2
          go_ret
          exact ⟨by first | rfl | trivial, HB11.out⟩
      · have HO1 : Hid (∀ (A : Option Addr) (n c : Nat) (w : World), Pt w B A n c → Env w → Calls Tryz.prog 19 #[.agg #[.string (strOf B.sch), .string (strOf B.usr), .string (strOf B.pwd), .string (strOf B.hst), .bool B.hh, .int .i64 B.port, .bool B.opq, .string (strOf B.txt), .slice A n c, .bool B.hq, .bool B.hf, .string (strOf B.qry), .string (strOf B.frg)]] w fun e w' => e = .returned (.tuple #[.agg #[.string ⟨#[]⟩, .string ⟨#[]⟩, .int .i64 0, .int .i64 0], .bool false]) ∧ Below w.heap.size w w') := fun A n c w hp E => (HOB.out A n c w hp E).2 h4
        obtain ⟨s2, h2, p2, b2, HO2⟩ := of_total V hF2 (by omega)
        have HTU : Hid (∀ w : World, Calls Tryz.prog 21 #[.agg #[.string ⟨#[]⟩, .string ⟨#[]⟩, .int .i64 0, .int .i64 0]] w fun e w' => e = .returned (.bool false) ∧ Below w.heap.size w w') := fun w => tuple_any ⟨#[]⟩ ⟨#[]⟩ 0 0 w
        have nH : ¬ u.sch = [104, 116, 116, 112] := fun h => h4 (.inl h)
        have nS : ¬ u.sch = [104, 116, 116, 112, 115] := fun h => h4 (.inr h)
        have eH : ((strOf V.sch).toList == [104, 116, 116, 112]) = false := by rw [str_tl, HV.out]; show (u.sch == [104, 116, 116, 112]) = false; rw [beq_eq_false_iff_ne]; exact nH
        have fH : ¬ (strOf V.sch).toList = [104, 116, 116, 112] := by rw [str_tl, HV.out]; exact nH
        have eS : ((strOf V.sch).toList == [104, 116, 116, 112, 115]) = false := by rw [str_tl, HV.out]; show (u.sch == [104, 116, 116, 112, 115]) = false; rw [beq_eq_false_iff_ne]; exact nS
        have fS : ¬ (strOf V.sch).toList = [104, 116, 116, 112, 115] := by rw [str_tl, HV.out]; exact nS
        clear h4 nH nS
        clear ho hsl hF hOk hln hP hQ hB HOB hF2 hV
        go_enter Tryz.func6, Tryz.ntmps6
        go_wp2_with fail
        refine (HAW.out _ HE.out).mono ?_
        rintro e w1 ⟨rfl, hb⟩
        have HB1 := hid hb
        have E_1 := hid (HE.out.below hb)
        clear hb
        go_wp2_with fail
        refine (HPS.out _ E_1.out).mono ?_
        rintro e w2 ⟨A1, n1, c1, rfl, hpt, hb⟩
        have HB2 := hid (bel HB1.out hb)
        have E_2 := hid (E_1.out.below hb)
        clear hb
        have T1 := hid (⟨hpt.pth⟩ : Pt w2 u A1 n1 c1)
        clear hpt
        go_upto_region 4 with (fail)
        generalize hwa : World.alloc _ _ = v3
        have hxa : UB v3 w2.heap.size u (.slice A1 n1 c1) := by rw [← hwa]; exact heap_alloc_new _ _
        have hbv : Below w2.heap.size w2 v3 := by rw [← hwa]; exact (Below.refl _ _).alloc (Nat.le_refl _) _
        have X0 := hid hxa
        have HV0 := hid hbv
        clear hwa hxa hbv
        obtain ⟨d0, d1, d2, d3, d4, d5, d6, d7, d8, d9, d10, d11, d12⟩ := X0.out.facts
        obtain ⟨z0, z1, z2, z3, z4, z5, z6, z7, z8, z9, z10, z11, z12⟩ := X0.out.thaw
        go_upto_region 7 with (fail)
        clear d0 d1 d2 d3 d4 d5 d6 d7 d8 d9 d10 d11 d12 z0 z1 z2 z3 z4 z5 z6 z7 z8 z9 z10 z11 z12
        generalize hwa : World.setCell (World.setCell _ _ _) _ _ = u3
        have hxa : UB u3 w2.heap.size V (.slice A1 n1 c1) := by rw [← hwa, HV.out]; exact (X0.out.hq false).hf false
        have hb : Below w2.heap.size w2 u3 := by rw [← hwa]; exact (HV0.out.setCell (p := ⟨w2.heap.size, 9, none⟩) (Nat.le_refl _) _).setCell (p := ⟨w2.heap.size, 10, none⟩) (Nat.le_refl _) _
        clear hwa HV0 X0
        have X1 := hid hxa
        clear hxa
        have HB3 := hid (bel HB2.out hb)
        have E_3 := hid (E_2.out.below hb)
        have T1_3 := hid (T1.out.below hb)
        clear hb
        have S1 := hid (by have h := T1_3.out; rw [HV.out]; exact ⟨h.pth⟩ : Pt u3 V A1 n1 c1)
        obtain ⟨d0, d1, d2, d3, d4, d5, d6, d7, d8, d9, d10, d11, d12⟩ := X1.out.facts
        go_wp2_with fail
        clear d0 d1 d2 d3 d4 d5 d6 d7 d8 d9 d10 d11 d12
        refine (HPR.out _ _ _ _ T1_3.out E_3.out).mono ?_
        rintro e w4 ⟨rfl, hb⟩
        have HB4 := hid (bel HB3.out hb)
        have E_4 := hid (E_3.out.below hb)
        have T1_4 := hid (T1_3.out.below hb)
        have X1_4 := hid (X1.out.below hb)
        have S1_4 := hid (S1.out.below hb)
        clear hb
        go_wp2_with fail
        refine (HPB.out _ E_4.out).mono ?_
        rintro e w5 ⟨A2, n2, c2, rfl, hpt, hb⟩
        have HB5 := hid (bel HB4.out hb)
        have E_5 := hid (E_4.out.below hb)
        have T1_5 := hid (T1_4.out.below hb)
        have X1_5 := hid (X1_4.out.below hb)
        have S1_5 := hid (S1_4.out.below hb)
        clear hb
        have T2 := hid hpt
        clear hpt
        go_upto_region 9 with (fail)
        generalize hwa : World.alloc _ _ = v6
        have hxa : UB v6 w5.heap.size B (.slice A2 n2 c2) := by rw [← hwa]; exact heap_alloc_new _ _
        have hb : Below w5.heap.size w5 v6 := by rw [← hwa]; exact (Below.refl _ _).alloc (Nat.le_refl _) _
        have X2 := hid hxa
        clear hwa hxa
        have HB6 := hid (bel HB5.out hb)
        have E_6 := hid (E_5.out.below hb)
        have T1_6 := hid (T1_5.out.below hb)
        have X1_6 := hid (X1_5.out.below hb)
        have S1_6 := hid (S1_5.out.below hb)
        have T2_6 := hid (T2.out.below hb)
        clear hb
        obtain ⟨e0, e1, e2, e3, e4, e5, e6, e7, e8, e9, e10, e11, e12⟩ := X2.out.facts
        go_wp2_with fail
        clear e0 e1 e2 e3 e4 e5 e6 e7 e8 e9 e10 e11 e12
        refine (HO1.out _ _ _ _ T2_6.out E_6.out).mono ?_
        rintro e w7 ⟨rfl, hb⟩
        have HB7 := hid (bel HB6.out hb)
        have E_7 := hid (E_6.out.below hb)
        have T1_7 := hid (T1_6.out.below hb)
        have X1_7 := hid (X1_6.out.below hb)
        have S1_7 := hid (S1_6.out.below hb)
        have T2_7 := hid (T2_6.out.below hb)
        have X2_7 := hid (X2.out.below hb)
        clear hb
        go_upto_region 12 with (fail)
        generalize hwa : World.alloc _ _ = v8
        have hxa : OB v8 w7.heap.size ⟨#[]⟩ ⟨#[]⟩ 0 0 := by rw [← hwa]; exact heap_alloc_new _ _
        have hb : Below w7.heap.size w7 v8 := by rw [← hwa]; exact (Below.refl _ _).alloc (Nat.le_refl _) _
        have Y1 := hid hxa
        clear hwa hxa
        have HB8 := hid (bel HB7.out hb)
        have E_8 := hid (E_7.out.below hb)
        have T1_8 := hid (T1_7.out.below hb)
        have X1_8 := hid (X1_7.out.below hb)
        have S1_8 := hid (S1_7.out.below hb)
        have T2_8 := hid (T2_7.out.below hb)
        have X2_8 := hid (X2_7.out.below hb)
        clear hb
        obtain ⟨d0, d1, d2, d3, d4, d5, d6, d7, d8, d9, d10, d11, d12⟩ := X1_8.out.facts
        go_wp2_with fail
        clear d0 d1 d2 d3 d4 d5 d6 d7 d8 d9 d10 d11 d12
        refine (HO2.out _ _ _ _ S1_8.out E_8.out).mono ?_
        rintro e w9 ⟨rfl, hb⟩
        have HB9 := hid (bel HB8.out hb)
        have E_9 := hid (E_8.out.below hb)
        have T1_9 := hid (T1_8.out.below hb)
        have X1_9 := hid (X1_8.out.below hb)
        have S1_9 := hid (S1_8.out.below hb)
        have T2_9 := hid (T2_8.out.below hb)
        have X2_9 := hid (X2_8.out.below hb)
        have Y1_9 := hid (Y1.out.below hb)
        clear hb
        go_upto_region 13 with (fail)
        generalize hwa : World.alloc _ _ = v10
        have hxa : OB v10 w9.heap.size s2 h2 p2 0 := by rw [← hwa]; exact heap_alloc_new _ _
        have hb : Below w9.heap.size w9 v10 := by rw [← hwa]; exact (Below.refl _ _).alloc (Nat.le_refl _) _
        have Y2 := hid hxa
        clear hwa hxa
        have HB10 := hid (bel HB9.out hb)
        have E_10 := hid (E_9.out.below hb)
        have T1_10 := hid (T1_9.out.below hb)
        have X1_10 := hid (X1_9.out.below hb)
        have S1_10 := hid (S1_9.out.below hb)
        have T2_10 := hid (T2_9.out.below hb)
        have X2_10 := hid (X2_9.out.below hb)
        have Y1_10 := hid (Y1_9.out.below hb)
        clear hb
        obtain ⟨d0, d1, d2, d3, d4, d5, d6, d7, d8, d9, d10, d11, d12⟩ := X1_10.out.facts
        obtain ⟨o0, o1, o2, o3⟩ := Y1_10.out.facts
        go_wp2_with fail
        clear d0 d1 d2 d3 d4 d5 d6 d7 d8 d9 d10 d11 d12 o0 o1 o2 o3
        refine (HTU.out _).mono ?_
        rintro e w11 ⟨rfl, hb⟩
        have HB11 := hid (bel HB10.out hb)
        have E_11 := hid (E_10.out.below hb)
        have T1_11 := hid (T1_10.out.below hb)
        have X1_11 := hid (X1_10.out.below hb)
        have S1_11 := hid (S1_10.out.below hb)
        have T2_11 := hid (T2_10.out.below hb)
        have X2_11 := hid (X2_10.out.below hb)
        have Y1_11 := hid (Y1_10.out.below hb)
        have Y2_11 := hid (Y2.out.below hb)
        clear hb
        go_wp2
        go_ret
        exact ⟨by first | rfl | trivial, HB11.out⟩
  · have hli : (1000 : Int) < (s.size : Int) := by omega
    go_enter Tryz.func6, Tryz.ntmps6
    go_wp2_with fail
    refine (HAW.out _ HE.out).mono ?_
    rintro e w1 ⟨rfl, hb⟩
    have HB1 := hid hb
    have E_1 := hid (HE.out.below hb)
    clear hb
    go_wp2_with fail
    refine (HAW.out _ E_1.out).mono ?_
    rintro e w2 ⟨rfl, hb⟩
    have HB2 := hid (bel HB1.out hb)
    have E_2 := hid (E_1.out.below hb)
    clear hb
    go_wp2
    go_ret
    exact ⟨by first | rfl | trivial, HB2.out⟩
end Go.Proofs.YtmdofbccebkbiaaGreatDoor.Laws
