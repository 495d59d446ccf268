/- The law WindowsPaths, walked. -/
import Derived.Test.YtmdofbccebkbiaaGreatDoorNH
import Derived.Test.YtmdofbccebkbiaaGreatDoorND
import Derived.Test.YtmdofbccebkbiaaGreatDoorMX
import Derived.Test.YtmdofbccebkbiaaGreatDoorMS
set_option linter.unusedSimpArgs false
set_option linter.unusedVariables false
namespace Go.Proofs.YtmdofbccebkbiaaGreatDoor.Laws
open Go.RowKit Go.Proofs.YtmdofbccebkbiaaGreatDoor.Base Go.Proofs.YtmdofbccebkbiaaGreatDoor.aT Go.Proofs.YtmdofbccebkbiaaGreatDoor.rJ Go.Proofs.YtmdofbccebkbiaaGreatDoor.xJ Go.Proofs.YtmdofbccebkbiaaGreatDoor.zX Go.Proofs.YtmdofbccebkbiaaGreatDoor.Ox Go.Proofs.YtmdofbccebkbiaaGreatDoor.aI Go.Proofs.YtmdofbccebkbiaaGreatDoor.Ot Go.Proofs.YtmdofbccebkbiaaGreatDoor.zV Go.Proofs.YtmdofbccebkbiaaGreatDoor.Ulw
open Go.Proofs.YtmdofbccebkbiaaGreatDoor.bQ (OY)
open Go.Proofs.YtmdofbccebkbiaaGreatDoor.lI (nP)
open Go.Proofs.YtmdofbccebkbiaaGreatDoor.uT (Max)
open Go.Proofs.YtmdofbccebkbiaaGreatDoor.L9 (tK)

theorem LJ {h : List UInt8} {l : List ByteArray} {o : List UInt8} (e : nI h l = some o) : jc o = true ∧ o.length ≤ (bQ.aF l).length + h.length + 2 := by
  unfold nI at e
  split at e
  · rename_i hx
    injection e with e
    rw [← e]
    refine ⟨hx.2, ?_⟩
    rw [List.length_append]
    have h1 := iO (nR h l)
    unfold headW nR at *
    by_cases hh : h ≠ []
    · rw [if_pos hh] at h1 ⊢
      rw [if_pos hh]
      simp only [List.length_cons]
      omega
    · rw [if_neg hh] at h1 ⊢
      rw [if_neg hh]
      cases l with
      | nil => simp at h1 ⊢; omega
      | cons a r =>
        have e2 : (bQ.aF (a :: r)).length = (a.data.toList.length + 1) + (bQ.aF r).length := by
          show ((47 :: a.data.toList) ++ bQ.aF r).length = _
          rw [List.length_append, List.length_cons]
        have e3 : (a :: r).drop 1 = r := rfl
        rw [e3] at h1 ⊢
        show a.data.toList.length + _ ≤ _
        omega
  · cases e
theorem Xw {au hst : List UInt8} {b6 : Bool} {l : List ByteArray} (h : (lQ au hst b6 l).2 = 0) : jc (lQ au hst b6 l).1 = true := by
  revert h
  unfold lQ
  split
  · intro h; cases h
  · cases e : nI hst l with
    | none => intro h; cases h
    | some o => intro _; exact (LJ e).1
theorem aaM {au hst : List UInt8} {b6 : Bool} {l : List ByteArray} : (lQ au hst b6 l).1.length ≤ (bQ.aF l).length + hst.length + 2 := by
  unfold lQ
  split
  · exact Nat.zero_le _
  · cases e : nI hst l with
    | none => exact Nat.zero_le _
    | some o => exact (LJ e).2
theorem aaz {s0 s1 s2 s3 s7 s11 s12 : ByteArray} {l : List ByteArray} {n : Nat} (hn : l.length = n) (h : OY s0 s1 s2 s3 s7 s11 s12 l ≤ 1000 ∧ n ≤ 50) : (bQ.aF l).length + s3.size ≤ 3000 := by
  have h1 := h.1
  unfold OY at h1
  rw [bQ.bP]
  omega
theorem U7 (u : U) (A : Option Addr) (n c : Nat) (w : World) (hP : Pt w u A n c) (hl : (bQ.aF u.aF).length + u.hst.length ≤ 800000) (E : Env w) : Calls Tryz.prog 34 #[.agg #[.string (strOf u.au), .string (strOf u.usr), .string (strOf u.dR), .string (strOf u.hst), .bool u.hh, .int .i64 u.port, .bool u.opq, .string (strOf u.txt), .slice A n c, .bool u.hq, .bool u.hf, .string (strOf u.eu), .string (strOf u.fH)]] w fun e w' => e = .returned (.tuple #[.string (strOf (lQ u.au u.hst u.opq u.aF).1), .int .i64 (lQ u.au u.hst u.opq u.aF).2]) ∧ Below w.heap.size w w' :=
  yE (strOf u.au) (strOf u.usr) (strOf u.dR) (strOf u.hst) u.hh u.port u.opq (strOf u.txt) A n c u.aF u.hq u.hf (strOf u.eu) (strOf u.fH) w hP.aF.1 hP.aF.2.1 hP.aF.2.2 (by rw [ah]; exact hl) ⟨E.pow, E.QG, E.max⟩
set_option linter.unusedSimpArgs false in
set_option maxRecDepth 100000 in
set_option maxHeartbeats 8000000 in
theorem Em (s0 s1 s2 s3 : ByteArray) (b4 : Bool) (z5 : Int) (b6 : Bool) (s7 : ByteArray) (A0 : Option Addr) (n0 c0 : Nat) (l : List ByteArray) (b9 b10 : Bool) (s11 s12 : ByteArray) (s : ByteArray) (w : World) (hs0 : s0.size ≤ 140737488351232) (hs1 : s1.size ≤ 140737488351232) (hs2 : s2.size ≤ 140737488351232) (hs3 : s3.size ≤ 140737488351232) (hz : -9223372036854775808 ≤ z5 ∧ z5 ≤ 9223372036854775807) (hs7 : s7.size ≤ 140737488351232) (hR : bK w A0 n0 (l.map Value.string)) (hnc : n0 ≤ c0) (hcm : c0 ≤ maxLen) (hel : ∀ s ∈ l, s.size ≤ 140737488351232) (hs11 : s11.size ≤ 140737488351232) (Nc : s12.size ≤ 140737488351232) (hss : s.size ≤ 140737488351232) (hT : Tab.Pow w) (hL : nP w) (hM : Max w) (hU : tK w) : Calls Tryz.prog 9 #[.agg #[.string s0, .string s1, .string s2, .string s3, .bool b4, .int .i64 z5, .bool b6, .string s7, .slice A0 n0 c0, .bool b9, .bool b10, .string s11, .string s12], .string s] w fun e w' => e = .returned (.bool true) ∧ Below w.heap.size w w' := by
  have HE := hid (⟨hT, hL, hM, hU⟩ : Env w)
  have QB : Hid (∀ w : World, Env w → Calls Tryz.prog 33 #[] w fun e w' => e = .returned (.bool true) ∧ Below w.heap.size w w') := fun w E => WinW.Es w ⟨E.pow, E.QG, E.max⟩
  have hn : l.length = n0 := by rw [← hR.1, List.length_map]
  obtain ⟨u, hu⟩ : ∃ u : U, u = ⟨s0.data.toList, s1.data.toList, s2.data.toList, s3.data.toList, b4, z5, b6, s7.data.toList, l, b9, b10, s11.data.toList, s12.data.toList⟩ := ⟨_, rfl⟩
  have hval : Value.agg #[.string s0, .string s1, .string s2, .string s3, .bool b4, .int .i64 z5, .bool b6, .string s7, .slice A0 n0 c0, .bool b9, .bool b10, .string s11, .string s12] = .agg #[.string (strOf u.au), .string (strOf u.usr), .string (strOf u.dR), .string (strOf u.hst), .bool u.hh, .int .i64 u.port, .bool u.opq, .string (strOf u.txt), .slice A0 n0 c0, .bool u.hq, .bool u.hf, .string (strOf u.eu), .string (strOf u.fH)] := by
    rw [hu]
    simp only [aS]
  have hpt : Pt w u A0 n0 c0 := ⟨⟨by rw [hu]; exact hR, hnc, hcm⟩⟩
  obtain ⟨FB, hFB⟩ : ∃ b, b = decide (OY s0 s1 s2 s3 s7 s11 s12 l ≤ 1000 ∧ n0 ≤ 50) := ⟨_, rfl⟩
  have HFW : Hid (∀ w : World, Pt w u A0 n0 c0 → Calls Tryz.prog 25 #[.agg #[.string (strOf u.au), .string (strOf u.usr), .string (strOf u.dR), .string (strOf u.hst), .bool u.hh, .int .i64 u.port, .bool u.opq, .string (strOf u.txt), .slice A0 n0 c0, .bool u.hq, .bool u.hf, .string (strOf u.eu), .string (strOf u.fH)]] w fun e w' => e = .returned (.bool FB) ∧ Below w.heap.size w w') := fun w h => by
    rw [← hval, hFB]
    exact UrlD.few_any s0 s1 s2 s3 b4 z5 b6 s7 A0 n0 c0 l b9 b10 s11 s12 w (by have := h.aF.1; rw [hu] at this; exact this) hnc hcm hs0 hs1 hs2 hs3 hs7 hs11 Nc hel
  have hfew : FB = true → (bQ.aF u.aF).length + u.hst.length ≤ 3000 := fun h => by rw [hu]; have h9 := aaz hn (of_decide_eq_true (hFB.symm.trans h)); rw [← (show s3.data.toList.length = s3.size from Array.length_toList)] at h9; exact h9
  rw [hval]
  have HPT := hid hpt
  clear hval hu hFB hT hL hM hU hR hs0 hs1 hs2 hs3 hs7 hs11 Nc hel hz hnc hcm hn hpt
  obtain ⟨V, hV⟩ : ∃ V, V = lQ u.au u.hst u.opq u.aF := ⟨_, rfl⟩
  have QX : Hid (FB = true → ∀ (A : Option Addr) (n c : Nat) (w : World), Pt w u A n c → Env w → Calls Tryz.prog 34 #[.agg #[.string (strOf u.au), .string (strOf u.usr), .string (strOf u.dR), .string (strOf u.hst), .bool u.hh, .int .i64 u.port, .bool u.opq, .string (strOf u.txt), .slice A n c, .bool u.hq, .bool u.hf, .string (strOf u.eu), .string (strOf u.fH)]] w fun e w' => e = .returned (.tuple #[.string (strOf V.1), .int .i64 V.2]) ∧ Below w.heap.size w w') := fun h A n c w hP E => by rw [hV]; exact U7 u A n c w hP (by have := hfew h; omega) E
  have HP2 : Hid (FB = true → ∀ (A : Option Addr) (n c : Nat) (w : World), Pt w u A n c → Calls Tryz.prog 35 #[.agg #[.string (strOf u.au), .string (strOf u.usr), .string (strOf u.dR), .string (strOf u.hst), .bool u.hh, .int .i64 u.port, .bool u.opq, .string (strOf u.txt), .slice A n c, .bool u.hq, .bool u.hf, .string (strOf u.eu), .string (strOf u.fH)]] w fun e w' => e = .returned (.tuple #[.string (strOf V.1), .int .i64 V.2]) ∧ Below w.heap.size w w') := fun h A n c w hP => by rw [hV]; exact WinX.yJ (strOf u.au) (strOf u.usr) (strOf u.dR) (strOf u.hst) u.hh u.port u.opq (strOf u.txt) A n c u.aF u.hq u.hf (strOf u.eu) (strOf u.fH) w hP.aF.1 hP.aF.2.1 hP.aF.2.2 (by have := hfew h; rw [ah]; omega)
  have hqs : ((strOf V.1).toList == (strOf V.1).toList) = true := by simp
  obtain ⟨z, hz⟩ : ∃ z, z = V.2 := ⟨_, rfl⟩
  rw [← hz] at QX HP2
  have hqz : (z == z) = true := by simp
  obtain ⟨Q, hQ⟩ : ∃ Q, Q = strOf V.1 := ⟨_, rfl⟩
  rw [← hQ] at QX HP2 hqs
  clear hfew hV hz hQ
  by_cases hl : s.size ≤ 1000
  · have hli : ¬ (1000 : Int) < (s.size : Int) := by omega
    cases e1 : aI.url s.data.toList none with
    | none =>
      obtain ⟨u0, hu0⟩ : ∃ u0, u0 = U0 := ⟨_, rfl⟩
      have HPS := hid (fun w E => S9 (T := s) hu0 e1 (by omega) w E)
      clear e1 hu0 hl hss
      cases FB with
      | false =>
        go_enter Tryz.func9, Tryz.ntmps9
        go_upto_region 1 with (fail)
        generalize lG : World.alloc w _ = v0
        have hxa : UB v0 w.heap.size u (.slice A0 n0 c0) := by rw [← lG]; exact heap_alloc_new _ _
        have hb : Below w.heap.size w v0 := by rw [← lG]; exact (Below.refl _ _).alloc (Nat.le_refl _) _
        have X0 := hid hxa
        clear lG hxa
        have HB1 := hid hb
        have D7 := hid (HE.out.below hb)
        have GX := hid (HPT.out.below hb)
        clear hb
        go_wp2_with fail
        refine (QB.out _ D7.out).mono ?_
        rintro e w2 ⟨rfl, hb⟩
        have HB2 := hid (bel HB1.out hb)
        have FZ := hid (D7.out.below hb)
        have xM := hid (GX.out.below hb)
        have xO := hid (X0.out.below hb)
        clear hb
        obtain ⟨d0, d1, d2, d3, d4, d5, d6, d7, d8, d9, d10, d11, d12⟩ := xO.out.facts
        go_wp2_with fail
        clear d0 d1 d2 d3 d4 d5 d6 d7 d8 d9 d10 d11 d12
        refine (HFW.out _ xM.out).mono ?_
        rintro e w3 ⟨rfl, hb⟩
        have HB3 := hid (bel HB2.out hb)
        have FK := hid (FZ.out.below hb)
        have Ej := hid (xM.out.below hb)
        have En := hid (xO.out.below hb)
        clear hb
        go_wp2_with fail
        refine (QB.out _ FK.out).mono ?_
        rintro e w4 ⟨rfl, hb⟩
        have HB4 := hid (bel HB3.out hb)
        have TV := hid (FK.out.below hb)
        have MB := hid (Ej.out.below hb)
        have MF := hid (En.out.below hb)
        clear hb
        go_wp2
        go_ret
        exact ⟨by first | rfl | trivial, HB4.out⟩
      | true =>
        have HR1 := hid (QX.out rfl)
        have HR2 := hid (HP2.out rfl)
        clear QX HP2
        go_enter Tryz.func9, Tryz.ntmps9
        go_upto_region 1 with (fail)
        generalize lG : World.alloc w _ = v0
        have hxa : UB v0 w.heap.size u (.slice A0 n0 c0) := by rw [← lG]; exact heap_alloc_new _ _
        have hb : Below w.heap.size w v0 := by rw [← lG]; exact (Below.refl _ _).alloc (Nat.le_refl _) _
        have X0 := hid hxa
        clear lG hxa
        have HB1 := hid hb
        have D7 := hid (HE.out.below hb)
        have GX := hid (HPT.out.below hb)
        clear hb
        go_wp2_with fail
        refine (QB.out _ D7.out).mono ?_
        rintro e w2 ⟨rfl, hb⟩
        have HB2 := hid (bel HB1.out hb)
        have FZ := hid (D7.out.below hb)
        have xM := hid (GX.out.below hb)
        have xO := hid (X0.out.below hb)
        clear hb
        obtain ⟨d0, d1, d2, d3, d4, d5, d6, d7, d8, d9, d10, d11, d12⟩ := xO.out.facts
        go_wp2_with fail
        clear d0 d1 d2 d3 d4 d5 d6 d7 d8 d9 d10 d11 d12
        refine (HFW.out _ xM.out).mono ?_
        rintro e w3 ⟨rfl, hb⟩
        have HB3 := hid (bel HB2.out hb)
        have FK := hid (FZ.out.below hb)
        have Ej := hid (xM.out.below hb)
        have En := hid (xO.out.below hb)
        clear hb
        go_upto_region 3 with (fail)
        obtain ⟨d0, d1, d2, d3, d4, d5, d6, d7, d8, d9, d10, d11, d12⟩ := En.out.facts
        go_wp2_with fail
        clear d0 d1 d2 d3 d4 d5 d6 d7 d8 d9 d10 d11 d12
        refine (HR1.out _ _ _ _ Ej.out FK.out).mono ?_
        rintro e w4 ⟨rfl, hb⟩
        have HB4 := hid (bel HB3.out hb)
        have TV := hid (FK.out.below hb)
        have MB := hid (Ej.out.below hb)
        have MF := hid (En.out.below hb)
        clear hb
        go_upto_region 4 with (fail)
        obtain ⟨d0, d1, d2, d3, d4, d5, d6, d7, d8, d9, d10, d11, d12⟩ := MF.out.facts
        go_wp2_with fail
        clear d0 d1 d2 d3 d4 d5 d6 d7 d8 d9 d10 d11 d12
        refine (HR2.out _ _ _ _ MB.out).mono ?_
        rintro e w5 ⟨rfl, hb⟩
        have rE := hid (bel HB4.out hb)
        have E_5 := hid (TV.out.below hb)
        have T0_5 := hid (MB.out.below hb)
        have X0_5 := hid (MF.out.below hb)
        clear hb
        go_wp2_with fail
        refine (HPS.out _ E_5.out).mono ?_
        rintro e w6 ⟨A1, n1, c1, rfl, Zh, hb⟩
        have NZ := hid (bel rE.out hb)
        have E_6 := hid (E_5.out.below hb)
        have T0_6 := hid (T0_5.out.below hb)
        have X0_6 := hid (X0_5.out.below hb)
        clear hb
        have T1 := hid Zh
        clear Zh
        go_upto_region 6 with (fail)
        generalize lG : World.alloc _ _ = v7
        have hxa : UB v7 w6.heap.size u0 (.slice A1 n1 c1) := by rw [← lG]; exact heap_alloc_new _ _
        have hb : Below w6.heap.size w6 v7 := by rw [← lG]; exact (Below.refl _ _).alloc (Nat.le_refl _) _
        have X1 := hid hxa
        clear lG hxa
        have uU := hid (bel NZ.out hb)
        have E_7 := hid (E_6.out.below hb)
        have T0_7 := hid (T0_6.out.below hb)
        have X0_7 := hid (X0_6.out.below hb)
        have Yj := hid (T1.out.below hb)
        clear hb
        go_wp2
        go_ret
        exact ⟨by first | rfl | trivial, uU.out⟩
    | some v =>
      have hfit := rG.NT (M := 0) e1 (fun b h => by cases h)
      have hsl : s.data.toList.length = s.size := Array.length_toList
      have hvl : (bQ.aF v.aF).length + v.hst.length ≤ 790000 := by
        have h := (Ulw.Ez hfit (by omega)).2.2.2.2.2.2.2
        have h2 := hfit.all
        unfold rG.pl at h2
        omega
      have HPS := hid (fun w E => BI (T := s) e1 (by omega) w E)
      obtain ⟨X, hX⟩ : ∃ X, X = lQ v.au v.hst v.opq v.aF := ⟨_, rfl⟩
      have HQ1 : Hid (∀ (A : Option Addr) (n c : Nat) (w : World), Pt w v A n c → Env w → Calls Tryz.prog 34 #[.agg #[.string (strOf v.au), .string (strOf v.usr), .string (strOf v.dR), .string (strOf v.hst), .bool v.hh, .int .i64 v.port, .bool v.opq, .string (strOf v.txt), .slice A n c, .bool v.hq, .bool v.hf, .string (strOf v.eu), .string (strOf v.fH)]] w fun e w' => e = .returned (.tuple #[.string (strOf X.1), .int .i64 X.2]) ∧ Below w.heap.size w w') := fun A n c w hP E => by rw [hX]; exact U7 v A n c w hP (by omega) E
      have HQ2 : Hid (∀ (A : Option Addr) (n c : Nat) (w : World), Pt w v A n c → Calls Tryz.prog 35 #[.agg #[.string (strOf v.au), .string (strOf v.usr), .string (strOf v.dR), .string (strOf v.hst), .bool v.hh, .int .i64 v.port, .bool v.opq, .string (strOf v.txt), .slice A n c, .bool v.hq, .bool v.hf, .string (strOf v.eu), .string (strOf v.fH)]] w fun e w' => e = .returned (.tuple #[.string (strOf X.1), .int .i64 X.2]) ∧ Below w.heap.size w w') := fun A n c w hP => by rw [hX]; exact WinX.yJ (strOf v.au) (strOf v.usr) (strOf v.dR) (strOf v.hst) v.hh v.port v.opq (strOf v.txt) A n c v.aF v.hq v.hf (strOf v.eu) (strOf v.fH) w hP.aF.1 hP.aF.2.1 hP.aF.2.2 (by rw [ah]; omega)
      have hxf : X.2 = 0 → jc X.1 = true := fun h => by rw [hX] at h ⊢; exact Xw h
      have hxl : X.1.length ≤ 890000 := by rw [hX]; have := aaM (au := v.au) (hst := v.hst) (b6 := v.opq) (l := v.aF); omega
      have hqs2 : ((strOf X.1).toList == (strOf X.1).toList) = true := by simp
      obtain ⟨y, hy⟩ : ∃ y, y = X.2 := ⟨_, rfl⟩
      obtain ⟨P, hP⟩ : ∃ P, P = strOf X.1 := ⟨_, rfl⟩
      have FM : Hid (y = 0 → ∀ w : World, Env w → Calls Tryz.prog 36 #[.string P] w fun e w' => e = .returned (.bool true) ∧ Below w.heap.size w w') := fun h w E => by
        have hh := zW.ni (strOf X.1) w (by rw [ah]; omega) ⟨E.pow, E.QG, E.max⟩
        rw [show jc (strOf X.1).data.toList = true from hxf (hy.symm.trans h), ← hP] at hh
        exact hh
      rw [← hy, ← hP] at HQ1 HQ2
      rw [← hP] at hqs2
      have hqy : (y == y) = true := by simp
      clear hfit hvl hX hxf hxl hy hP hsl e1 hl hss
      cases FB with
      | false =>
        go_enter Tryz.func9, Tryz.ntmps9
        go_upto_region 1 with (fail)
        generalize lG : World.alloc w _ = v0
        have hxa : UB v0 w.heap.size u (.slice A0 n0 c0) := by rw [← lG]; exact heap_alloc_new _ _
        have hb : Below w.heap.size w v0 := by rw [← lG]; exact (Below.refl _ _).alloc (Nat.le_refl _) _
        have X0 := hid hxa
        clear lG hxa
        have HB1 := hid hb
        have D7 := hid (HE.out.below hb)
        have GX := hid (HPT.out.below hb)
        clear hb
        go_wp2_with fail
        refine (QB.out _ D7.out).mono ?_
        rintro e w2 ⟨rfl, hb⟩
        have HB2 := hid (bel HB1.out hb)
        have FZ := hid (D7.out.below hb)
        have xM := hid (GX.out.below hb)
        have xO := hid (X0.out.below hb)
        clear hb
        obtain ⟨d0, d1, d2, d3, d4, d5, d6, d7, d8, d9, d10, d11, d12⟩ := xO.out.facts
        go_wp2_with fail
        clear d0 d1 d2 d3 d4 d5 d6 d7 d8 d9 d10 d11 d12
        refine (HFW.out _ xM.out).mono ?_
        rintro e w3 ⟨rfl, hb⟩
        have HB3 := hid (bel HB2.out hb)
        have FK := hid (FZ.out.below hb)
        have Ej := hid (xM.out.below hb)
        have En := hid (xO.out.below hb)
        clear hb
        go_wp2_with fail
        refine (QB.out _ FK.out).mono ?_
        rintro e w4 ⟨rfl, hb⟩
        have HB4 := hid (bel HB3.out hb)
        have TV := hid (FK.out.below hb)
        have MB := hid (Ej.out.below hb)
        have MF := hid (En.out.below hb)
        clear hb
        go_wp2
        go_ret
        exact ⟨by first | rfl | trivial, HB4.out⟩
      | true =>
        have HR1 := hid (QX.out rfl)
        have HR2 := hid (HP2.out rfl)
        clear QX HP2
        go_enter Tryz.func9, Tryz.ntmps9
        go_upto_region 1 with (fail)
        generalize lG : World.alloc w _ = v0
        have hxa : UB v0 w.heap.size u (.slice A0 n0 c0) := by rw [← lG]; exact heap_alloc_new _ _
        have hb : Below w.heap.size w v0 := by rw [← lG]; exact (Below.refl _ _).alloc (Nat.le_refl _) _
        have X0 := hid hxa
        clear lG hxa
        have HB1 := hid hb
        have D7 := hid (HE.out.below hb)
        have GX := hid (HPT.out.below hb)
        clear hb
        go_wp2_with fail
        refine (QB.out _ D7.out).mono ?_
        rintro e w2 ⟨rfl, hb⟩
        have HB2 := hid (bel HB1.out hb)
        have FZ := hid (D7.out.below hb)
        have xM := hid (GX.out.below hb)
        have xO := hid (X0.out.below hb)
        clear hb
        obtain ⟨d0, d1, d2, d3, d4, d5, d6, d7, d8, d9, d10, d11, d12⟩ := xO.out.facts
        go_wp2_with fail
        clear d0 d1 d2 d3 d4 d5 d6 d7 d8 d9 d10 d11 d12
        refine (HFW.out _ xM.out).mono ?_
        rintro e w3 ⟨rfl, hb⟩
        have HB3 := hid (bel HB2.out hb)
        have FK := hid (FZ.out.below hb)
        have Ej := hid (xM.out.below hb)
        have En := hid (xO.out.below hb)
        clear hb
        go_upto_region 3 with (fail)
        obtain ⟨d0, d1, d2, d3, d4, d5, d6, d7, d8, d9, d10, d11, d12⟩ := En.out.facts
        go_wp2_with fail
        clear d0 d1 d2 d3 d4 d5 d6 d7 d8 d9 d10 d11 d12
        refine (HR1.out _ _ _ _ Ej.out FK.out).mono ?_
        rintro e w4 ⟨rfl, hb⟩
        have HB4 := hid (bel HB3.out hb)
        have TV := hid (FK.out.below hb)
        have MB := hid (Ej.out.below hb)
        have MF := hid (En.out.below hb)
        clear hb
        go_upto_region 4 with (fail)
        obtain ⟨d0, d1, d2, d3, d4, d5, d6, d7, d8, d9, d10, d11, d12⟩ := MF.out.facts
        go_wp2_with fail
        clear d0 d1 d2 d3 d4 d5 d6 d7 d8 d9 d10 d11 d12
        refine (HR2.out _ _ _ _ MB.out).mono ?_
        rintro e w5 ⟨rfl, hb⟩
        have rE := hid (bel HB4.out hb)
        have E_5 := hid (TV.out.below hb)
        have T0_5 := hid (MB.out.below hb)
        have X0_5 := hid (MF.out.below hb)
        clear hb
        go_wp2_with fail
        refine (HPS.out _ E_5.out).mono ?_
        rintro e w6 ⟨A1, n1, c1, rfl, Zh, hb⟩
        have NZ := hid (bel rE.out hb)
        have E_6 := hid (E_5.out.below hb)
        have T0_6 := hid (T0_5.out.below hb)
        have X0_6 := hid (X0_5.out.below hb)
        clear hb
        have T1 := hid Zh
        clear Zh
        go_upto_region 6 with (fail)
        generalize lG : World.alloc _ _ = v7
        have hxa : UB v7 w6.heap.size v (.slice A1 n1 c1) := by rw [← lG]; exact heap_alloc_new _ _
        have hb : Below w6.heap.size w6 v7 := by rw [← lG]; exact (Below.refl _ _).alloc (Nat.le_refl _) _
        have X1 := hid hxa
        clear lG hxa
        have uU := hid (bel NZ.out hb)
        have E_7 := hid (E_6.out.below hb)
        have T0_7 := hid (T0_6.out.below hb)
        have X0_7 := hid (X0_6.out.below hb)
        have Yj := hid (T1.out.below hb)
        clear hb
        go_upto_region 8 with (fail)
        obtain ⟨e0, e1, e2, e3, e4, e5, e6, e7, e8, e9, e10, e11, e12⟩ := X1.out.facts
        go_wp2_with fail
        clear e0 e1 e2 e3 e4 e5 e6 e7 e8 e9 e10 e11 e12
        refine (HQ1.out _ _ _ _ Yj.out E_7.out).mono ?_
        rintro e w8 ⟨rfl, hb⟩
        have HB8 := hid (bel uU.out hb)
        have E_8 := hid (E_7.out.below hb)
        have T0_8 := hid (T0_7.out.below hb)
        have X0_8 := hid (X0_7.out.below hb)
        have T1_8 := hid (Yj.out.below hb)
        have X1_8 := hid (X1.out.below hb)
        clear hb
        go_upto_region 9 with (fail)
        obtain ⟨e0, e1, e2, e3, e4, e5, e6, e7, e8, e9, e10, e11, e12⟩ := X1_8.out.facts
        go_wp2_with fail
        clear e0 e1 e2 e3 e4 e5 e6 e7 e8 e9 e10 e11 e12
        refine (HQ2.out _ _ _ _ T1_8.out).mono ?_
        rintro e w9 ⟨rfl, hb⟩
        have HB9 := hid (bel HB8.out hb)
        have E_9 := hid (E_8.out.below hb)
        have T0_9 := hid (T0_8.out.below hb)
        have X0_9 := hid (X0_8.out.below hb)
        have T1_9 := hid (T1_8.out.below hb)
        have X1_9 := hid (X1_8.out.below hb)
        clear hb
        by_cases hy0 : y = 0
        · have HF0 := hid (FM.out hy0)
          subst hy0
          go_wp2_with fail
          refine (HF0.out _ E_9.out).mono ?_
          rintro e w10 ⟨rfl, hb⟩
          have HB10 := hid (bel HB9.out hb)
          have E_10 := hid (E_9.out.below hb)
          have T0_10 := hid (T0_9.out.below hb)
          have X0_10 := hid (X0_9.out.below hb)
          have Yh := hid (T1_9.out.below hb)
          have Ym := hid (X1_9.out.below hb)
          clear hb
          go_wp2
          go_ret
          exact ⟨by first | rfl | trivial, HB10.out⟩
        · have hy1 : (y != 0) = true := by simpa using hy0
          have hy2 : (y == 0) = false := by simpa using hy0
          go_wp2
          go_ret
          exact ⟨by first | rfl | trivial, HB9.out⟩
  · have hli : (1000 : Int) < (s.size : Int) := by omega
    cases FB with
    | false =>
      go_enter Tryz.func9, Tryz.ntmps9
      go_upto_region 1 with (fail)
      generalize lG : World.alloc w _ = v0
      have hxa : UB v0 w.heap.size u (.slice A0 n0 c0) := by rw [← lG]; exact heap_alloc_new _ _
      have hb : Below w.heap.size w v0 := by rw [← lG]; exact (Below.refl _ _).alloc (Nat.le_refl _) _
      have X0 := hid hxa
      clear lG hxa
      have HB1 := hid hb
      have D7 := hid (HE.out.below hb)
      have GX := hid (HPT.out.below hb)
      clear hb
      go_wp2_with fail
      refine (QB.out _ D7.out).mono ?_
      rintro e w2 ⟨rfl, hb⟩
      have HB2 := hid (bel HB1.out hb)
      have FZ := hid (D7.out.below hb)
      have xM := hid (GX.out.below hb)
      have xO := hid (X0.out.below hb)
      clear hb
      obtain ⟨d0, d1, d2, d3, d4, d5, d6, d7, d8, d9, d10, d11, d12⟩ := xO.out.facts
      go_wp2_with fail
      clear d0 d1 d2 d3 d4 d5 d6 d7 d8 d9 d10 d11 d12
      refine (HFW.out _ xM.out).mono ?_
      rintro e w3 ⟨rfl, hb⟩
      have HB3 := hid (bel HB2.out hb)
      have FK := hid (FZ.out.below hb)
      have Ej := hid (xM.out.below hb)
      have En := hid (xO.out.below hb)
      clear hb
      go_wp2_with fail
      refine (QB.out _ FK.out).mono ?_
      rintro e w4 ⟨rfl, hb⟩
      have HB4 := hid (bel HB3.out hb)
      have TV := hid (FK.out.below hb)
      have MB := hid (Ej.out.below hb)
      have MF := hid (En.out.below hb)
      clear hb
      go_wp2
      go_ret
      exact ⟨by first | rfl | trivial, HB4.out⟩
    | true =>
      go_enter Tryz.func9, Tryz.ntmps9
      go_upto_region 1 with (fail)
      generalize lG : World.alloc w _ = v0
      have hxa : UB v0 w.heap.size u (.slice A0 n0 c0) := by rw [← lG]; exact heap_alloc_new _ _
      have hb : Below w.heap.size w v0 := by rw [← lG]; exact (Below.refl _ _).alloc (Nat.le_refl _) _
      have X0 := hid hxa
      clear lG hxa
      have HB1 := hid hb
      have D7 := hid (HE.out.below hb)
      have GX := hid (HPT.out.below hb)
      clear hb
      go_wp2_with fail
      refine (QB.out _ D7.out).mono ?_
      rintro e w2 ⟨rfl, hb⟩
      have HB2 := hid (bel HB1.out hb)
      have FZ := hid (D7.out.below hb)
      have xM := hid (GX.out.below hb)
      have xO := hid (X0.out.below hb)
      clear hb
      obtain ⟨d0, d1, d2, d3, d4, d5, d6, d7, d8, d9, d10, d11, d12⟩ := xO.out.facts
      go_wp2_with fail
      clear d0 d1 d2 d3 d4 d5 d6 d7 d8 d9 d10 d11 d12
      refine (HFW.out _ xM.out).mono ?_
      rintro e w3 ⟨rfl, hb⟩
      have HB3 := hid (bel HB2.out hb)
      have FK := hid (FZ.out.below hb)
      have Ej := hid (xM.out.below hb)
      have En := hid (xO.out.below hb)
      clear hb
      go_wp2_with fail
      refine (QB.out _ FK.out).mono ?_
      rintro e w4 ⟨rfl, hb⟩
      have HB4 := hid (bel HB3.out hb)
      have TV := hid (FK.out.below hb)
      have MB := hid (Ej.out.below hb)
      have MF := hid (En.out.below hb)
      clear hb
      go_wp2
      go_ret
      exact ⟨by first | rfl | trivial, HB4.out⟩
end Go.Proofs.YtmdofbccebkbiaaGreatDoor.Laws
