/- The law PosixBack, walked. -/
import Derived.Test.YtmdofbccebkbiaaGreatDoorMW
import Derived.Test.YtmdofbccebkbiaaGreatDoorMS
set_option linter.unusedSimpArgs false
set_option linter.unusedVariables false
namespace Go.Proofs.YtmdofbccebkbiaaGreatDoor.Laws
open Go.RowKit Go.Proofs.YtmdofbccebkbiaaGreatDoor.Base Go.Proofs.YtmdofbccebkbiaaGreatDoor.Base2 Go.Proofs.YtmdofbccebkbiaaGreatDoor.SlsP Go.Proofs.YtmdofbccebkbiaaGreatDoor.PosQ Go.Proofs.YtmdofbccebkbiaaGreatDoor.PosU Go.Proofs.YtmdofbccebkbiaaGreatDoor.PosV Go.Proofs.YtmdofbccebkbiaaGreatDoor.PosX Go.Proofs.YtmdofbccebkbiaaGreatDoor.PrsP Go.Proofs.YtmdofbccebkbiaaGreatDoor.PrsY Go.Proofs.YtmdofbccebkbiaaGreatDoor.Ubx Go.Proofs.YtmdofbccebkbiaaGreatDoor.Ulw
open Go.Proofs.YtmdofbccebkbiaaGreatDoor.SixG (Lad)
open Go.Proofs.YtmdofbccebkbiaaGreatDoor.Spl (Max)
open Go.Proofs.YtmdofbccebkbiaaGreatDoor.PrsG (Utab)

set_option linter.unusedSimpArgs false in
set_option maxRecDepth 100000 in
set_option maxHeartbeats 8000000 in
theorem PosixBack_any (s : ByteArray) (w : World) (h0 : s.size ≤ 140737488351232) (hT : Tab.Pow w) (hL : Lad w) (hM : Max w) (hU : Utab w) : Calls Tryz.prog 8 #[.string s] w fun e w' => e = .returned (.bool true) ∧ Below w.heap.size w w' := by
  have HE := hid (⟨hT, hL, hM, hU⟩ : Env w)
  have HAW : Hid (∀ w : World, Env w → Calls Tryz.prog 24 #[] w fun e w' => e = .returned (.bool true) ∧ Below w.heap.size w w') := fun w E => PosW.awake_any w ⟨E.pow, E.max⟩
  clear hT hL hM hU
  by_cases hl : s.size ≤ 500
  · have hli : ¬ (500 : Int) < (s.size : Int) := by omega
    obtain ⟨b, hb⟩ : ∃ b, b = fine s.data.toList := ⟨_, rfl⟩
    have HF2 : Hid (∀ w : World, Calls Tryz.prog 29 #[.string s] w fun e w' => e = .returned (.bool b) ∧ Below w.heap.size w w') := fun w => by rw [hb]; exact PosB.refFine_any s w (by omega)
    have hsl : s.data.toList.length = s.size := Array.length_toList
    cases b with
    | false =>
      clear hb hsl
      go_enter Tryz.func8, Tryz.ntmps8
      go_wp2_with fail
      refine (HAW.out _ HE.out).mono ?_
      rintro e w1 ⟨rfl, hb⟩
      have HB1 := hid hb
      have E_1 := hid (HE.out.below hb)
      clear hb
      go_wp2_with fail
      refine (HF2.out _).mono ?_
      rintro e w2 ⟨rfl, hb⟩
      have HB2 := hid (bel HB1.out hb)
      have E_2 := hid (E_1.out.below hb)
      clear hb
      go_wp2_with fail
      refine (HAW.out _ E_2.out).mono ?_
      rintro e w3 ⟨rfl, hb⟩
      have HB3 := hid (bel HB2.out hb)
      have E_3 := hid (E_2.out.below hb)
      clear hb
      go_wp2
      go_ret
      exact ⟨by first | rfl | trivial, HB3.out⟩
    | true =>
      obtain ⟨u, hF⟩ : ∃ u, Fin s.data.toList u := ⟨_, fin_of hb.symm⟩
      have hpl := hF.len
      have hprl := hF.print
      rw [hsl] at hpl hprl
      have hbk := hF.back
      have HU1 := hid (fun w E => urlU_some hF (by omega) w E)
      have HPA : Hid (∀ (A : Option Addr) (n c : Nat) (w : World), Pt w u A n c → Env w → Calls Tryz.prog 26 #[.agg #[.string (strOf u.sch), .string (strOf u.usr), .string (strOf u.pwd), .string (strOf u.hst), .bool u.hh, .int .i64 u.port, .bool u.opq, .string (strOf u.txt), .slice A n c, .bool u.hq, .bool u.hf, .string (strOf u.qry), .string (strOf u.frg)]] w fun e w' => e = .returned (.tuple #[.string s, .int .i64 0]) ∧ Below w.heap.size w w') := fun A n c w hP E => by
        have h := path_u u A n c w hP (by omega) E
        rw [hbk] at h
        have h : Calls Tryz.prog 26 _ w fun e w' => e = .returned (.tuple #[.string (strOf s.data.toList), .int .i64 0]) ∧ Below w.heap.size w w' := h
        rw [strOf_toList] at h
        exact h
      obtain ⟨P, hP⟩ : ∃ P, P = strOf (printU u) := ⟨_, rfl⟩
      have HPR : Hid (∀ (A : Option Addr) (n c : Nat) (w : World), Pt w u A n c → Env w → Calls Tryz.prog 31 #[.agg #[.string (strOf u.sch), .string (strOf u.usr), .string (strOf u.pwd), .string (strOf u.hst), .bool u.hh, .int .i64 u.port, .bool u.opq, .string (strOf u.txt), .slice A n c, .bool u.hq, .bool u.hf, .string (strOf u.qry), .string (strOf u.frg)]] w fun e w' => e = .returned (.string P) ∧ Below w.heap.size w w') := fun A n c w h E => by rw [hP]; exact print_p hF (by omega) A n c w h E
      have HPS := hid (fun w E => parse_some (T := P) (u := u) (by rw [hP]; exact hF.again) (by rw [hP, size_strOf]; omega) w E)
      have hqs : (s.toList == s.toList) = true := by simp
      clear hF hpl hprl hbk hP hb hsl
      go_enter Tryz.func8, Tryz.ntmps8
      go_wp2_with fail
      refine (HAW.out _ HE.out).mono ?_
      rintro e w1 ⟨rfl, hb⟩
      have HB1 := hid hb
      have E_1 := hid (HE.out.below hb)
      clear hb
      go_wp2_with fail
      refine (HF2.out _).mono ?_
      rintro e w2 ⟨rfl, hb⟩
      have HB2 := hid (bel HB1.out hb)
      have E_2 := hid (E_1.out.below hb)
      clear hb
      go_wp2_with fail
      refine (HU1.out _ E_2.out).mono ?_
      rintro e w3 ⟨A1, n1, c1, rfl, hpt, hb⟩
      have HB3 := hid (bel HB2.out hb)
      have E_3 := hid (E_2.out.below hb)
      clear hb
      have T1 := hid hpt
      clear hpt
      go_upto_region 4 with (fail)
      generalize hwa : World.alloc _ _ = v4
      have hxa : UB v4 w3.heap.size u (.slice A1 n1 c1) := by rw [← hwa]; exact heap_alloc_new _ _
      have hb : Below w3.heap.size w3 v4 := by rw [← hwa]; exact (Below.refl _ _).alloc (Nat.le_refl _) _
      have X1 := hid hxa
      clear hwa hxa
      have HB4 := hid (bel HB3.out hb)
      have E_4 := hid (E_3.out.below hb)
      have T1_4 := hid (T1.out.below hb)
      clear hb
      obtain ⟨d0, d1, d2, d3, d4, d5, d6, d7, d8, d9, d10, d11, d12⟩ := X1.out.facts
      go_wp2_with fail
      clear d0 d1 d2 d3 d4 d5 d6 d7 d8 d9 d10 d11 d12
      refine (HPA.out _ _ _ _ T1_4.out E_4.out).mono ?_
      rintro e w5 ⟨rfl, hb⟩
      have HB5 := hid (bel HB4.out hb)
      have E_5 := hid (E_4.out.below hb)
      have T1_5 := hid (T1_4.out.below hb)
      have X1_5 := hid (X1.out.below hb)
      clear hb
      go_upto_region 5 with (fail)
      obtain ⟨d0, d1, d2, d3, d4, d5, d6, d7, d8, d9, d10, d11, d12⟩ := X1_5.out.facts
      go_wp2_with fail
      clear d0 d1 d2 d3 d4 d5 d6 d7 d8 d9 d10 d11 d12
      refine (HPR.out _ _ _ _ T1_5.out E_5.out).mono ?_
      rintro e w6 ⟨rfl, hb⟩
      have HB6 := hid (bel HB5.out hb)
      have E_6 := hid (E_5.out.below hb)
      have T1_6 := hid (T1_5.out.below hb)
      have X1_6 := hid (X1_5.out.below hb)
      clear hb
      go_wp2_with fail
      refine (HPS.out _ E_6.out).mono ?_
      rintro e w7 ⟨A2, n2, c2, rfl, hpt, hb⟩
      have HB7 := hid (bel HB6.out hb)
      have E_7 := hid (E_6.out.below hb)
      have T1_7 := hid (T1_6.out.below hb)
      have X1_7 := hid (X1_6.out.below hb)
      clear hb
      have T2 := hid hpt
      clear hpt
      go_upto_region 6 with (fail)
      generalize hwa : World.alloc _ _ = v8
      have hxa : UB v8 w7.heap.size u (.slice A2 n2 c2) := by rw [← hwa]; exact heap_alloc_new _ _
      have hb : Below w7.heap.size w7 v8 := by rw [← hwa]; exact (Below.refl _ _).alloc (Nat.le_refl _) _
      have X2 := hid hxa
      clear hwa hxa
      have HB8 := hid (bel HB7.out hb)
      have E_8 := hid (E_7.out.below hb)
      have T1_8 := hid (T1_7.out.below hb)
      have X1_8 := hid (X1_7.out.below hb)
      have T2_8 := hid (T2.out.below hb)
      clear hb
      obtain ⟨e0, e1, e2, e3, e4, e5, e6, e7, e8, e9, e10, e11, e12⟩ := X2.out.facts
      go_wp2_with fail
      clear e0 e1 e2 e3 e4 e5 e6 e7 e8 e9 e10 e11 e12
      refine (HPA.out _ _ _ _ T2_8.out E_8.out).mono ?_
      rintro e w9 ⟨rfl, hb⟩
      have HB9 := hid (bel HB8.out hb)
      have E_9 := hid (E_8.out.below hb)
      have T1_9 := hid (T1_8.out.below hb)
      have X1_9 := hid (X1_8.out.below hb)
      have T2_9 := hid (T2_8.out.below hb)
      have X2_9 := hid (X2.out.below hb)
      clear hb
      go_upto_region 7 with (fail)
      obtain ⟨d0, d1, d2, d3, d4, d5, d6, d7, d8, d9, d10, d11, d12⟩ := X1_9.out.facts
      obtain ⟨e0, e1, e2, e3, e4, e5, e6, e7, e8, e9, e10, e11, e12⟩ := X2_9.out.facts
      go_wp2_with fail
      clear d0 d1 d2 d3 d4 d5 d6 d7 d8 d9 d10 d11 d12 e0 e1 e2 e3 e4 e5 e6 e7 e8 e9 e10 e11 e12
      refine (same_yes u _ _ _ _ _ _ _ T1_9.out T2_9.out).mono ?_
      rintro e w10 ⟨rfl, hb⟩
      have HB10 := hid (bel HB9.out hb)
      have E_10 := hid (E_9.out.below hb)
      have T1_10 := hid (T1_9.out.below hb)
      have X1_10 := hid (X1_9.out.below hb)
      have T2_10 := hid (T2_9.out.below hb)
      have X2_10 := hid (X2_9.out.below hb)
      clear hb
      go_wp2
      go_ret
      exact ⟨by first | rfl | trivial, HB10.out⟩
  · have hli : (500 : Int) < (s.size : Int) := by omega
    go_enter Tryz.func8, Tryz.ntmps8
    go_wp2_with fail
    refine (HAW.out _ HE.out).mono ?_
    rintro e w1 ⟨rfl, hb⟩
    have HB1 := hid hb
    have E_1 := hid (HE.out.below hb)
    clear hb
    go_wp2_with fail
    refine (HAW.out _ E_1.out).mono ?_
    rintro e w2 ⟨rfl, hb⟩
    have HB2 := hid (bel HB1.out hb)
    have E_2 := hid (E_1.out.below hb)
    clear hb
    go_wp2
    go_ret
    exact ⟨by first | rfl | trivial, HB2.out⟩
end Go.Proofs.YtmdofbccebkbiaaGreatDoor.Laws
