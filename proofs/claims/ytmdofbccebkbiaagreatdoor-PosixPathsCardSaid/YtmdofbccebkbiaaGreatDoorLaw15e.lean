/- The law PosixPaths, walked. -/
import Derived.Test.YtmdofbccebkbiaaGreatDoorMW
import Derived.Test.YtmdofbccebkbiaaGreatDoorMX
set_option linter.unusedSimpArgs false
set_option linter.unusedVariables false
namespace Go.Proofs.YtmdofbccebkbiaaGreatDoor.Laws
open Go.RowKit Go.Proofs.YtmdofbccebkbiaaGreatDoor.Base Go.Proofs.YtmdofbccebkbiaaGreatDoor.Base2 Go.Proofs.YtmdofbccebkbiaaGreatDoor.SlsP Go.Proofs.YtmdofbccebkbiaaGreatDoor.PosQ Go.Proofs.YtmdofbccebkbiaaGreatDoor.PosU Go.Proofs.YtmdofbccebkbiaaGreatDoor.PosV Go.Proofs.YtmdofbccebkbiaaGreatDoor.PosX Go.Proofs.YtmdofbccebkbiaaGreatDoor.PrsP Go.Proofs.YtmdofbccebkbiaaGreatDoor.PrsY Go.Proofs.YtmdofbccebkbiaaGreatDoor.Ubx Go.Proofs.YtmdofbccebkbiaaGreatDoor.Ulw
open Go.Proofs.YtmdofbccebkbiaaGreatDoor.UrlP (fewN)
open Go.Proofs.YtmdofbccebkbiaaGreatDoor.SixG (Lad)
open Go.Proofs.YtmdofbccebkbiaaGreatDoor.Spl (Max)
open Go.Proofs.YtmdofbccebkbiaaGreatDoor.PrsG (Utab)

theorem pathR_fine {sch hst : List UInt8} {b6 : Bool} {l : List ByteArray} (h : (pathR sch hst b6 l).2 = 0) : fine (pathR sch hst b6 l).1 = true := by
  revert h
  unfold pathR posPath
  split
  · intro h; cases h
  · split
    · intro h; cases h
    · split
      · intro h; cases h
      · rename_i o ho
        intro _
        split at ho
        · rename_i hx
          injection ho with ho
          rw [← ho]
          exact hx.2
        · cases ho
theorem pathR_len {sch hst : List UInt8} {b6 : Bool} {l : List ByteArray} : (pathR sch hst b6 l).1.length ≤ (UrlP.pth l).length := by
  have h := outP_len l
  unfold pathR posPath
  split
  · exact Nat.zero_le _
  · split
    · exact Nat.zero_le _
    · split
      · exact Nat.zero_le _
      · rename_i o ho
        split at ho
        · injection ho with ho
          rw [← ho]
          exact h
        · cases ho
theorem sum_pth {s0 s1 s2 s3 s7 s11 s12 : ByteArray} {l : List ByteArray} {n : Nat} (hn : l.length = n) (h : fewN s0 s1 s2 s3 s7 s11 s12 l ≤ 1000 ∧ n ≤ 50) : (UrlP.pth l).length ≤ 2000 := by
  have h1 := h.1
  unfold fewN at h1
  rw [UrlP.length_pth]
  omega
set_option linter.unusedSimpArgs false in
set_option maxRecDepth 100000 in
set_option maxHeartbeats 8000000 in
theorem PosixPaths_any (s0 s1 s2 s3 : ByteArray) (b4 : Bool) (z5 : Int) (b6 : Bool) (s7 : ByteArray) (A0 : Option Addr) (n0 c0 : Nat) (l : List ByteArray) (b9 b10 : Bool) (s11 s12 : ByteArray) (s : ByteArray) (w : World) (hs0 : s0.size ≤ 140737488351232) (hs1 : s1.size ≤ 140737488351232) (hs2 : s2.size ≤ 140737488351232) (hs3 : s3.size ≤ 140737488351232) (hz : -9223372036854775808 ≤ z5 ∧ z5 ≤ 9223372036854775807) (hs7 : s7.size ≤ 140737488351232) (hR : Rds w A0 n0 (l.map Value.string)) (hnc : n0 ≤ c0) (hcm : c0 ≤ maxLen) (hel : ∀ s ∈ l, s.size ≤ 140737488351232) (hs11 : s11.size ≤ 140737488351232) (hs12 : s12.size ≤ 140737488351232) (hss : s.size ≤ 140737488351232) (hT : Tab.Pow w) (hL : Lad w) (hM : Max w) (hU : Utab w) : Calls Tryz.prog 7 #[.agg #[.string s0, .string s1, .string s2, .string s3, .bool b4, .int .i64 z5, .bool b6, .string s7, .slice A0 n0 c0, .bool b9, .bool b10, .string s11, .string s12], .string s] w fun e w' => e = .returned (.bool true) ∧ Below w.heap.size w w' := by
  have HE := hid (⟨hT, hL, hM, hU⟩ : Env w)
  have HAW : Hid (∀ w : World, Env w → Calls Tryz.prog 24 #[] w fun e w' => e = .returned (.bool true) ∧ Below w.heap.size w w') := fun w E => PosW.awake_any w ⟨E.pow, E.max⟩
  have hn : l.length = n0 := by rw [← hR.1, List.length_map]
  obtain ⟨u, hu⟩ : ∃ u : U, u = ⟨s0.data.toList, s1.data.toList, s2.data.toList, s3.data.toList, b4, z5, b6, s7.data.toList, l, b9, b10, s11.data.toList, s12.data.toList⟩ := ⟨_, rfl⟩
  have hval : Value.agg #[.string s0, .string s1, .string s2, .string s3, .bool b4, .int .i64 z5, .bool b6, .string s7, .slice A0 n0 c0, .bool b9, .bool b10, .string s11, .string s12] = .agg #[.string (strOf u.sch), .string (strOf u.usr), .string (strOf u.pwd), .string (strOf u.hst), .bool u.hh, .int .i64 u.port, .bool u.opq, .string (strOf u.txt), .slice A0 n0 c0, .bool u.hq, .bool u.hf, .string (strOf u.qry), .string (strOf u.frg)] := by
    rw [hu]
    simp only [strOf_toList]
  have hpt : Pt w u A0 n0 c0 := ⟨⟨by rw [hu]; exact hR, hnc, hcm⟩⟩
  obtain ⟨FB, hFB⟩ : ∃ b, b = decide (fewN s0 s1 s2 s3 s7 s11 s12 l ≤ 1000 ∧ n0 ≤ 50) := ⟨_, rfl⟩
  have HFW : Hid (∀ w : World, Pt w u A0 n0 c0 → Calls Tryz.prog 25 #[.agg #[.string (strOf u.sch), .string (strOf u.usr), .string (strOf u.pwd), .string (strOf u.hst), .bool u.hh, .int .i64 u.port, .bool u.opq, .string (strOf u.txt), .slice A0 n0 c0, .bool u.hq, .bool u.hf, .string (strOf u.qry), .string (strOf u.frg)]] w fun e w' => e = .returned (.bool FB) ∧ Below w.heap.size w w') := fun w h => by
    rw [← hval, hFB]
    exact UrlD.few_any s0 s1 s2 s3 b4 z5 b6 s7 A0 n0 c0 l b9 b10 s11 s12 w (by have := h.pth.1; rw [hu] at this; exact this) hnc hcm hs0 hs1 hs2 hs3 hs7 hs11 hs12 hel
  have hfew : FB = true → (UrlP.pth u.pth).length ≤ 2000 := fun h => by rw [hu]; exact sum_pth hn (of_decide_eq_true (hFB.symm.trans h))
  rw [hval]
  have HPT := hid hpt
  clear hval hu hFB hT hL hM hU hR hs0 hs1 hs2 hs3 hs7 hs11 hs12 hel hz hnc hcm hn hpt
  obtain ⟨V, hV⟩ : ∃ V, V = pathR u.sch u.hst u.opq u.pth := ⟨_, rfl⟩
  have HP1 : Hid (FB = true → ∀ (A : Option Addr) (n c : Nat) (w : World), Pt w u A n c → Env w → Calls Tryz.prog 26 #[.agg #[.string (strOf u.sch), .string (strOf u.usr), .string (strOf u.pwd), .string (strOf u.hst), .bool u.hh, .int .i64 u.port, .bool u.opq, .string (strOf u.txt), .slice A n c, .bool u.hq, .bool u.hf, .string (strOf u.qry), .string (strOf u.frg)]] w fun e w' => e = .returned (.tuple #[.string (strOf V.1), .int .i64 V.2]) ∧ Below w.heap.size w w') := fun h A n c w hP E => by rw [hV]; exact path_u u A n c w hP (by have := hfew h; omega) E
  have HP2 : Hid (FB = true → ∀ (A : Option Addr) (n c : Nat) (w : World), Pt w u A n c → Calls Tryz.prog 27 #[.agg #[.string (strOf u.sch), .string (strOf u.usr), .string (strOf u.pwd), .string (strOf u.hst), .bool u.hh, .int .i64 u.port, .bool u.opq, .string (strOf u.txt), .slice A n c, .bool u.hq, .bool u.hf, .string (strOf u.qry), .string (strOf u.frg)]] w fun e w' => e = .returned (.tuple #[.string (strOf V.1), .int .i64 V.2]) ∧ Below w.heap.size w w') := fun h A n c w hP => by rw [hV]; exact refPath_any (strOf u.sch) (strOf u.usr) (strOf u.pwd) (strOf u.hst) u.hh u.port u.opq (strOf u.txt) A n c u.pth u.hq u.hf (strOf u.qry) (strOf u.frg) w hP.pth.1 hP.pth.2.1 hP.pth.2.2 (by have := hfew h; omega)
  have hqs : ((strOf V.1).toList == (strOf V.1).toList) = true := by simp
  obtain ⟨z, hz⟩ : ∃ z, z = V.2 := ⟨_, rfl⟩
  rw [← hz] at HP1 HP2
  have hqz : (z == z) = true := by simp
  obtain ⟨Q, hQ⟩ : ∃ Q, Q = strOf V.1 := ⟨_, rfl⟩
  rw [← hQ] at HP1 HP2 hqs
  clear hfew hV hz hQ
  by_cases hl : s.size ≤ 1000
  · have hli : ¬ (1000 : Int) < (s.size : Int) := by omega
    cases e1 : PrsP.url s.data.toList none with
    | none =>
      obtain ⟨u0, hu0⟩ : ∃ u0, u0 = U0 := ⟨_, rfl⟩
      have HPS := hid (fun w E => parse_none (T := s) hu0 e1 (by omega) w E)
      clear e1 hu0 hl hss
      cases FB with
      | false =>
        go_enter Tryz.func7, Tryz.ntmps7
        go_upto_region 1 with (fail)
        generalize hwa : World.alloc w _ = v0
        have hxa : UB v0 w.heap.size u (.slice A0 n0 c0) := by rw [← hwa]; exact heap_alloc_new _ _
        have hb : Below w.heap.size w v0 := by rw [← hwa]; exact (Below.refl _ _).alloc (Nat.le_refl _) _
        have X0 := hid hxa
        clear hwa hxa
        have HB1 := hid hb
        have E_1 := hid (HE.out.below hb)
        have T0_1 := hid (HPT.out.below hb)
        clear hb
        go_wp2_with fail
        refine (HAW.out _ E_1.out).mono ?_
        rintro e w2 ⟨rfl, hb⟩
        have HB2 := hid (bel HB1.out hb)
        have E_2 := hid (E_1.out.below hb)
        have T0_2 := hid (T0_1.out.below hb)
        have X0_2 := hid (X0.out.below hb)
        clear hb
        obtain ⟨d0, d1, d2, d3, d4, d5, d6, d7, d8, d9, d10, d11, d12⟩ := X0_2.out.facts
        go_wp2_with fail
        clear d0 d1 d2 d3 d4 d5 d6 d7 d8 d9 d10 d11 d12
        refine (HFW.out _ T0_2.out).mono ?_
        rintro e w3 ⟨rfl, hb⟩
        have HB3 := hid (bel HB2.out hb)
        have E_3 := hid (E_2.out.below hb)
        have T0_3 := hid (T0_2.out.below hb)
        have X0_3 := hid (X0_2.out.below hb)
        clear hb
        go_wp2_with fail
        refine (HAW.out _ E_3.out).mono ?_
        rintro e w4 ⟨rfl, hb⟩
        have HB4 := hid (bel HB3.out hb)
        have E_4 := hid (E_3.out.below hb)
        have T0_4 := hid (T0_3.out.below hb)
        have X0_4 := hid (X0_3.out.below hb)
        clear hb
        go_wp2
        go_ret
        exact ⟨by first | rfl | trivial, HB4.out⟩
      | true =>
        have HR1 := hid (HP1.out rfl)
        have HR2 := hid (HP2.out rfl)
        clear HP1 HP2
        go_enter Tryz.func7, Tryz.ntmps7
        go_upto_region 1 with (fail)
        generalize hwa : World.alloc w _ = v0
        have hxa : UB v0 w.heap.size u (.slice A0 n0 c0) := by rw [← hwa]; exact heap_alloc_new _ _
        have hb : Below w.heap.size w v0 := by rw [← hwa]; exact (Below.refl _ _).alloc (Nat.le_refl _) _
        have X0 := hid hxa
        clear hwa hxa
        have HB1 := hid hb
        have E_1 := hid (HE.out.below hb)
        have T0_1 := hid (HPT.out.below hb)
        clear hb
        go_wp2_with fail
        refine (HAW.out _ E_1.out).mono ?_
        rintro e w2 ⟨rfl, hb⟩
        have HB2 := hid (bel HB1.out hb)
        have E_2 := hid (E_1.out.below hb)
        have T0_2 := hid (T0_1.out.below hb)
        have X0_2 := hid (X0.out.below hb)
        clear hb
        obtain ⟨d0, d1, d2, d3, d4, d5, d6, d7, d8, d9, d10, d11, d12⟩ := X0_2.out.facts
        go_wp2_with fail
        clear d0 d1 d2 d3 d4 d5 d6 d7 d8 d9 d10 d11 d12
        refine (HFW.out _ T0_2.out).mono ?_
        rintro e w3 ⟨rfl, hb⟩
        have HB3 := hid (bel HB2.out hb)
        have E_3 := hid (E_2.out.below hb)
        have T0_3 := hid (T0_2.out.below hb)
        have X0_3 := hid (X0_2.out.below hb)
        clear hb
        go_upto_region 3 with (fail)
        obtain ⟨d0, d1, d2, d3, d4, d5, d6, d7, d8, d9, d10, d11, d12⟩ := X0_3.out.facts
        go_wp2_with fail
        clear d0 d1 d2 d3 d4 d5 d6 d7 d8 d9 d10 d11 d12
        refine (HR1.out _ _ _ _ T0_3.out E_3.out).mono ?_
        rintro e w4 ⟨rfl, hb⟩
        have HB4 := hid (bel HB3.out hb)
        have E_4 := hid (E_3.out.below hb)
        have T0_4 := hid (T0_3.out.below hb)
        have X0_4 := hid (X0_3.out.below hb)
        clear hb
        go_upto_region 4 with (fail)
        obtain ⟨d0, d1, d2, d3, d4, d5, d6, d7, d8, d9, d10, d11, d12⟩ := X0_4.out.facts
        go_wp2_with fail
        clear d0 d1 d2 d3 d4 d5 d6 d7 d8 d9 d10 d11 d12
        refine (HR2.out _ _ _ _ T0_4.out).mono ?_
        rintro e w5 ⟨rfl, hb⟩
        have HB5 := hid (bel HB4.out hb)
        have E_5 := hid (E_4.out.below hb)
        have T0_5 := hid (T0_4.out.below hb)
        have X0_5 := hid (X0_4.out.below hb)
        clear hb
        go_wp2_with fail
        refine (HPS.out _ E_5.out).mono ?_
        rintro e w6 ⟨A1, n1, c1, rfl, hpt1, hb⟩
        have HB6 := hid (bel HB5.out hb)
        have E_6 := hid (E_5.out.below hb)
        have T0_6 := hid (T0_5.out.below hb)
        have X0_6 := hid (X0_5.out.below hb)
        clear hb
        have T1 := hid hpt1
        clear hpt1
        go_upto_region 6 with (fail)
        generalize hwa : World.alloc _ _ = v7
        have hxa : UB v7 w6.heap.size u0 (.slice A1 n1 c1) := by rw [← hwa]; exact heap_alloc_new _ _
        have hb : Below w6.heap.size w6 v7 := by rw [← hwa]; exact (Below.refl _ _).alloc (Nat.le_refl _) _
        have X1 := hid hxa
        clear hwa hxa
        have HB7 := hid (bel HB6.out hb)
        have E_7 := hid (E_6.out.below hb)
        have T0_7 := hid (T0_6.out.below hb)
        have X0_7 := hid (X0_6.out.below hb)
        have T1_7 := hid (T1.out.below hb)
        clear hb
        go_wp2
        go_ret
        exact ⟨by first | rfl | trivial, HB7.out⟩
    | some v =>
      have hfit := PrsV.url_fit (M := 0) e1 (fun b h => by cases h)
      have hsl : s.data.toList.length = s.size := Array.length_toList
      have hvl : (UrlP.pth v.pth).length ≤ 890000 := by
        have h := (Ulw.fit_sizes hfit (by omega)).2.2.2.2.2.2.2
        have h2 := hfit.all
        unfold PrsV.pl at h2
        omega
      have HPS := hid (fun w E => parse_some (T := s) e1 (by omega) w E)
      obtain ⟨X, hX⟩ : ∃ X, X = pathR v.sch v.hst v.opq v.pth := ⟨_, rfl⟩
      have HQ1 : Hid (∀ (A : Option Addr) (n c : Nat) (w : World), Pt w v A n c → Env w → Calls Tryz.prog 26 #[.agg #[.string (strOf v.sch), .string (strOf v.usr), .string (strOf v.pwd), .string (strOf v.hst), .bool v.hh, .int .i64 v.port, .bool v.opq, .string (strOf v.txt), .slice A n c, .bool v.hq, .bool v.hf, .string (strOf v.qry), .string (strOf v.frg)]] w fun e w' => e = .returned (.tuple #[.string (strOf X.1), .int .i64 X.2]) ∧ Below w.heap.size w w') := fun A n c w hP E => by rw [hX]; exact path_u v A n c w hP (by omega) E
      have HQ2 : Hid (∀ (A : Option Addr) (n c : Nat) (w : World), Pt w v A n c → Calls Tryz.prog 27 #[.agg #[.string (strOf v.sch), .string (strOf v.usr), .string (strOf v.pwd), .string (strOf v.hst), .bool v.hh, .int .i64 v.port, .bool v.opq, .string (strOf v.txt), .slice A n c, .bool v.hq, .bool v.hf, .string (strOf v.qry), .string (strOf v.frg)]] w fun e w' => e = .returned (.tuple #[.string (strOf X.1), .int .i64 X.2]) ∧ Below w.heap.size w w') := fun A n c w hP => by rw [hX]; exact refPath_any (strOf v.sch) (strOf v.usr) (strOf v.pwd) (strOf v.hst) v.hh v.port v.opq (strOf v.txt) A n c v.pth v.hq v.hf (strOf v.qry) (strOf v.frg) w hP.pth.1 hP.pth.2.1 hP.pth.2.2 (by omega)
      have hxf : X.2 = 0 → fine X.1 = true := fun h => by rw [hX] at h ⊢; exact pathR_fine h
      have hxl : X.1.length ≤ 890000 := by rw [hX]; have := pathR_len (sch := v.sch) (hst := v.hst) (b6 := v.opq) (l := v.pth); omega
      have hqs2 : ((strOf X.1).toList == (strOf X.1).toList) = true := by simp
      obtain ⟨y, hy⟩ : ∃ y, y = X.2 := ⟨_, rfl⟩
      obtain ⟨P, hP⟩ : ∃ P, P = strOf X.1 := ⟨_, rfl⟩
      have HFI : Hid (y = 0 → ∀ w : World, Env w → Calls Tryz.prog 28 #[.string P] w fun e w' => e = .returned (.bool true) ∧ Below w.heap.size w w') := fun h w E => by
        have hh := PosB.fine_any (strOf X.1) w (by rw [size_strOf]; omega) E.max
        rw [show fine (strOf X.1).data.toList = true from hxf (hy.symm.trans h), ← hP] at hh
        exact hh
      rw [← hy, ← hP] at HQ1 HQ2
      rw [← hP] at hqs2
      have hqy : (y == y) = true := by simp
      clear hfit hvl hX hxf hxl hy hP hsl e1 hl hss
      cases FB with
      | false =>
        go_enter Tryz.func7, Tryz.ntmps7
        go_upto_region 1 with (fail)
        generalize hwa : World.alloc w _ = v0
        have hxa : UB v0 w.heap.size u (.slice A0 n0 c0) := by rw [← hwa]; exact heap_alloc_new _ _
        have hb : Below w.heap.size w v0 := by rw [← hwa]; exact (Below.refl _ _).alloc (Nat.le_refl _) _
        have X0 := hid hxa
        clear hwa hxa
        have HB1 := hid hb
        have E_1 := hid (HE.out.below hb)
        have T0_1 := hid (HPT.out.below hb)
        clear hb
        go_wp2_with fail
        refine (HAW.out _ E_1.out).mono ?_
        rintro e w2 ⟨rfl, hb⟩
        have HB2 := hid (bel HB1.out hb)
        have E_2 := hid (E_1.out.below hb)
        have T0_2 := hid (T0_1.out.below hb)
        have X0_2 := hid (X0.out.below hb)
        clear hb
        obtain ⟨d0, d1, d2, d3, d4, d5, d6, d7, d8, d9, d10, d11, d12⟩ := X0_2.out.facts
        go_wp2_with fail
        clear d0 d1 d2 d3 d4 d5 d6 d7 d8 d9 d10 d11 d12
        refine (HFW.out _ T0_2.out).mono ?_
        rintro e w3 ⟨rfl, hb⟩
        have HB3 := hid (bel HB2.out hb)
        have E_3 := hid (E_2.out.below hb)
        have T0_3 := hid (T0_2.out.below hb)
        have X0_3 := hid (X0_2.out.below hb)
        clear hb
        go_wp2_with fail
        refine (HAW.out _ E_3.out).mono ?_
        rintro e w4 ⟨rfl, hb⟩
        have HB4 := hid (bel HB3.out hb)
        have E_4 := hid (E_3.out.below hb)
        have T0_4 := hid (T0_3.out.below hb)
        have X0_4 := hid (X0_3.out.below hb)
        clear hb
        go_wp2
        go_ret
        exact ⟨by first | rfl | trivial, HB4.out⟩
      | true =>
        have HR1 := hid (HP1.out rfl)
        have HR2 := hid (HP2.out rfl)
        clear HP1 HP2
        go_enter Tryz.func7, Tryz.ntmps7
        go_upto_region 1 with (fail)
        generalize hwa : World.alloc w _ = v0
        have hxa : UB v0 w.heap.size u (.slice A0 n0 c0) := by rw [← hwa]; exact heap_alloc_new _ _
        have hb : Below w.heap.size w v0 := by rw [← hwa]; exact (Below.refl _ _).alloc (Nat.le_refl _) _
        have X0 := hid hxa
        clear hwa hxa
        have HB1 := hid hb
        have E_1 := hid (HE.out.below hb)
        have T0_1 := hid (HPT.out.below hb)
        clear hb
        go_wp2_with fail
        refine (HAW.out _ E_1.out).mono ?_
        rintro e w2 ⟨rfl, hb⟩
        have HB2 := hid (bel HB1.out hb)
        have E_2 := hid (E_1.out.below hb)
        have T0_2 := hid (T0_1.out.below hb)
        have X0_2 := hid (X0.out.below hb)
        clear hb
        obtain ⟨d0, d1, d2, d3, d4, d5, d6, d7, d8, d9, d10, d11, d12⟩ := X0_2.out.facts
        go_wp2_with fail
        clear d0 d1 d2 d3 d4 d5 d6 d7 d8 d9 d10 d11 d12
        refine (HFW.out _ T0_2.out).mono ?_
        rintro e w3 ⟨rfl, hb⟩
        have HB3 := hid (bel HB2.out hb)
        have E_3 := hid (E_2.out.below hb)
        have T0_3 := hid (T0_2.out.below hb)
        have X0_3 := hid (X0_2.out.below hb)
        clear hb
        go_upto_region 3 with (fail)
        obtain ⟨d0, d1, d2, d3, d4, d5, d6, d7, d8, d9, d10, d11, d12⟩ := X0_3.out.facts
        go_wp2_with fail
        clear d0 d1 d2 d3 d4 d5 d6 d7 d8 d9 d10 d11 d12
        refine (HR1.out _ _ _ _ T0_3.out E_3.out).mono ?_
        rintro e w4 ⟨rfl, hb⟩
        have HB4 := hid (bel HB3.out hb)
        have E_4 := hid (E_3.out.below hb)
        have T0_4 := hid (T0_3.out.below hb)
        have X0_4 := hid (X0_3.out.below hb)
        clear hb
        go_upto_region 4 with (fail)
        obtain ⟨d0, d1, d2, d3, d4, d5, d6, d7, d8, d9, d10, d11, d12⟩ := X0_4.out.facts
        go_wp2_with fail
        clear d0 d1 d2 d3 d4 d5 d6 d7 d8 d9 d10 d11 d12
        refine (HR2.out _ _ _ _ T0_4.out).mono ?_
        rintro e w5 ⟨rfl, hb⟩
        have HB5 := hid (bel HB4.out hb)
        have E_5 := hid (E_4.out.below hb)
        have T0_5 := hid (T0_4.out.below hb)
        have X0_5 := hid (X0_4.out.below hb)
        clear hb
        go_wp2_with fail
        refine (HPS.out _ E_5.out).mono ?_
        rintro e w6 ⟨A1, n1, c1, rfl, hpt1, hb⟩
        have HB6 := hid (bel HB5.out hb)
        have E_6 := hid (E_5.out.below hb)
        have T0_6 := hid (T0_5.out.below hb)
        have X0_6 := hid (X0_5.out.below hb)
        clear hb
        have T1 := hid hpt1
        clear hpt1
        go_upto_region 6 with (fail)
        generalize hwa : World.alloc _ _ = v7
        have hxa : UB v7 w6.heap.size v (.slice A1 n1 c1) := by rw [← hwa]; exact heap_alloc_new _ _
        have hb : Below w6.heap.size w6 v7 := by rw [← hwa]; exact (Below.refl _ _).alloc (Nat.le_refl _) _
        have X1 := hid hxa
        clear hwa hxa
        have HB7 := hid (bel HB6.out hb)
        have E_7 := hid (E_6.out.below hb)
        have T0_7 := hid (T0_6.out.below hb)
        have X0_7 := hid (X0_6.out.below hb)
        have T1_7 := hid (T1.out.below hb)
        clear hb
        go_upto_region 8 with (fail)
        obtain ⟨e0, e1, e2, e3, e4, e5, e6, e7, e8, e9, e10, e11, e12⟩ := X1.out.facts
        go_wp2_with fail
        clear e0 e1 e2 e3 e4 e5 e6 e7 e8 e9 e10 e11 e12
        refine (HQ1.out _ _ _ _ T1_7.out E_7.out).mono ?_
        rintro e w8 ⟨rfl, hb⟩
        have HB8 := hid (bel HB7.out hb)
        have E_8 := hid (E_7.out.below hb)
        have T0_8 := hid (T0_7.out.below hb)
        have X0_8 := hid (X0_7.out.below hb)
        have T1_8 := hid (T1_7.out.below hb)
        have X1_8 := hid (X1.out.below hb)
        clear hb
        go_upto_region 9 with (fail)
        obtain ⟨e0, e1, e2, e3, e4, e5, e6, e7, e8, e9, e10, e11, e12⟩ := X1_8.out.facts
        go_wp2_with fail
        clear e0 e1 e2 e3 e4 e5 e6 e7 e8 e9 e10 e11 e12
        refine (HQ2.out _ _ _ _ T1_8.out).mono ?_
        rintro e w9 ⟨rfl, hb⟩
        have HB9 := hid (bel HB8.out hb)
        have E_9 := hid (E_8.out.below hb)
        have T0_9 := hid (T0_8.out.below hb)
        have X0_9 := hid (X0_8.out.below hb)
        have T1_9 := hid (T1_8.out.below hb)
        have X1_9 := hid (X1_8.out.below hb)
        clear hb
        by_cases hy0 : y = 0
        · have HF0 := hid (HFI.out hy0)
          subst hy0
          go_wp2_with fail
          refine (HF0.out _ E_9.out).mono ?_
          rintro e w10 ⟨rfl, hb⟩
          have HB10 := hid (bel HB9.out hb)
          have E_10 := hid (E_9.out.below hb)
          have T0_10 := hid (T0_9.out.below hb)
          have X0_10 := hid (X0_9.out.below hb)
          have T1_10 := hid (T1_9.out.below hb)
          have X1_10 := hid (X1_9.out.below hb)
          clear hb
          go_wp2
          go_ret
          exact ⟨by first | rfl | trivial, HB10.out⟩
        · have hy1 : (y != 0) = true := by simpa using hy0
          have hy2 : (y == 0) = false := by simpa using hy0
          go_wp2
          go_ret
          exact ⟨by first | rfl | trivial, HB9.out⟩
  · have hli : (1000 : Int) < (s.size : Int) := by omega
    cases FB with
    | false =>
      go_enter Tryz.func7, Tryz.ntmps7
      go_upto_region 1 with (fail)
      generalize hwa : World.alloc w _ = v0
      have hxa : UB v0 w.heap.size u (.slice A0 n0 c0) := by rw [← hwa]; exact heap_alloc_new _ _
      have hb : Below w.heap.size w v0 := by rw [← hwa]; exact (Below.refl _ _).alloc (Nat.le_refl _) _
      have X0 := hid hxa
      clear hwa hxa
      have HB1 := hid hb
      have E_1 := hid (HE.out.below hb)
      have T0_1 := hid (HPT.out.below hb)
      clear hb
      go_wp2_with fail
      refine (HAW.out _ E_1.out).mono ?_
      rintro e w2 ⟨rfl, hb⟩
      have HB2 := hid (bel HB1.out hb)
      have E_2 := hid (E_1.out.below hb)
      have T0_2 := hid (T0_1.out.below hb)
      have X0_2 := hid (X0.out.below hb)
      clear hb
      obtain ⟨d0, d1, d2, d3, d4, d5, d6, d7, d8, d9, d10, d11, d12⟩ := X0_2.out.facts
      go_wp2_with fail
      clear d0 d1 d2 d3 d4 d5 d6 d7 d8 d9 d10 d11 d12
      refine (HFW.out _ T0_2.out).mono ?_
      rintro e w3 ⟨rfl, hb⟩
      have HB3 := hid (bel HB2.out hb)
      have E_3 := hid (E_2.out.below hb)
      have T0_3 := hid (T0_2.out.below hb)
      have X0_3 := hid (X0_2.out.below hb)
      clear hb
      go_wp2_with fail
      refine (HAW.out _ E_3.out).mono ?_
      rintro e w4 ⟨rfl, hb⟩
      have HB4 := hid (bel HB3.out hb)
      have E_4 := hid (E_3.out.below hb)
      have T0_4 := hid (T0_3.out.below hb)
      have X0_4 := hid (X0_3.out.below hb)
      clear hb
      go_wp2
      go_ret
      exact ⟨by first | rfl | trivial, HB4.out⟩
    | true =>
      go_enter Tryz.func7, Tryz.ntmps7
      go_upto_region 1 with (fail)
      generalize hwa : World.alloc w _ = v0
      have hxa : UB v0 w.heap.size u (.slice A0 n0 c0) := by rw [← hwa]; exact heap_alloc_new _ _
      have hb : Below w.heap.size w v0 := by rw [← hwa]; exact (Below.refl _ _).alloc (Nat.le_refl _) _
      have X0 := hid hxa
      clear hwa hxa
      have HB1 := hid hb
      have E_1 := hid (HE.out.below hb)
      have T0_1 := hid (HPT.out.below hb)
      clear hb
      go_wp2_with fail
      refine (HAW.out _ E_1.out).mono ?_
      rintro e w2 ⟨rfl, hb⟩
      have HB2 := hid (bel HB1.out hb)
      have E_2 := hid (E_1.out.below hb)
      have T0_2 := hid (T0_1.out.below hb)
      have X0_2 := hid (X0.out.below hb)
      clear hb
      obtain ⟨d0, d1, d2, d3, d4, d5, d6, d7, d8, d9, d10, d11, d12⟩ := X0_2.out.facts
      go_wp2_with fail
      clear d0 d1 d2 d3 d4 d5 d6 d7 d8 d9 d10 d11 d12
      refine (HFW.out _ T0_2.out).mono ?_
      rintro e w3 ⟨rfl, hb⟩
      have HB3 := hid (bel HB2.out hb)
      have E_3 := hid (E_2.out.below hb)
      have T0_3 := hid (T0_2.out.below hb)
      have X0_3 := hid (X0_2.out.below hb)
      clear hb
      go_wp2_with fail
      refine (HAW.out _ E_3.out).mono ?_
      rintro e w4 ⟨rfl, hb⟩
      have HB4 := hid (bel HB3.out hb)
      have E_4 := hid (E_3.out.below hb)
      have T0_4 := hid (T0_3.out.below hb)
      have X0_4 := hid (X0_3.out.below hb)
      clear hb
      go_wp2
      go_ret
      exact ⟨by first | rfl | trivial, HB4.out⟩
end Go.Proofs.YtmdofbccebkbiaaGreatDoor.Laws
