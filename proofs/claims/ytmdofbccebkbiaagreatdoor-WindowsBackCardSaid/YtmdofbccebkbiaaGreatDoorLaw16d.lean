/- The law WindowsBack, walked. -/
import Derived.Test.YtmdofbccebkbiaaGreatDoorNI
import Derived.Test.YtmdofbccebkbiaaGreatDoorNH
import Derived.Test.YtmdofbccebkbiaaGreatDoorND
import Derived.Test.YtmdofbccebkbiaaGreatDoorMS
set_option linter.unusedSimpArgs false
set_option linter.unusedVariables false
namespace Go.Proofs.YtmdofbccebkbiaaGreatDoor.Laws
open Go.RowKit Go.Proofs.YtmdofbccebkbiaaGreatDoor.Base Go.Proofs.YtmdofbccebkbiaaGreatDoor.aT Go.Proofs.YtmdofbccebkbiaaGreatDoor.rJ Go.Proofs.YtmdofbccebkbiaaGreatDoor.xJ Go.Proofs.YtmdofbccebkbiaaGreatDoor.zX Go.Proofs.YtmdofbccebkbiaaGreatDoor.Ox Go.Proofs.YtmdofbccebkbiaaGreatDoor.WinY Go.Proofs.YtmdofbccebkbiaaGreatDoor.WinZ Go.Proofs.YtmdofbccebkbiaaGreatDoor.WinS Go.Proofs.YtmdofbccebkbiaaGreatDoor.aI Go.Proofs.YtmdofbccebkbiaaGreatDoor.rG Go.Proofs.YtmdofbccebkbiaaGreatDoor.Ot Go.Proofs.YtmdofbccebkbiaaGreatDoor.zV Go.Proofs.YtmdofbccebkbiaaGreatDoor.Ulw
open Go.Proofs.YtmdofbccebkbiaaGreatDoor.rF (seg)
open Go.Proofs.YtmdofbccebkbiaaGreatDoor.VX (pre Jq)
open Go.Proofs.YtmdofbccebkbiaaGreatDoor.lI (nP)
open Go.Proofs.YtmdofbccebkbiaaGreatDoor.uT (Max)
open Go.Proofs.YtmdofbccebkbiaaGreatDoor.L9 (tK)

theorem pathB_u (u : U) (A : Option Addr) (n c : Nat) (w : World) (hP : Pt w u A n c) (hl : (bQ.aF u.aF).length + u.hst.length ≤ 800000) (E : Env w) : Calls Tryz.prog 34 #[.agg #[.string (strOf u.au), .string (strOf u.usr), .string (strOf u.dR), .string (strOf u.hst), .bool u.hh, .int .i64 u.port, .bool u.opq, .string (strOf u.txt), .slice A n c, .bool u.hq, .bool u.hf, .string (strOf u.eu), .string (strOf u.fH)]] w fun e w' => e = .returned (.tuple #[.string (strOf (lQ u.au u.hst u.opq u.aF).1), .int .i64 (lQ u.au u.hst u.opq u.aF).2]) ∧ Below w.heap.size w w' :=
  yE (strOf u.au) (strOf u.usr) (strOf u.dR) (strOf u.hst) u.hh u.port u.opq (strOf u.txt) A n c u.aF u.hq u.hf (strOf u.eu) (strOf u.fH) w hP.aF.1 hP.aF.2.1 hP.aF.2.2 (by rw [ah]; exact hl) ⟨E.pow, E.QG, E.max⟩
theorem Xv {T : ByteArray} {v : W3} (ho : iI T.data.toList = some v) (hs : T.size ≤ 900000) (w : World) (E : Env w) : Calls Tryz.prog 38 #[.string T] w fun e w' => ∃ A n c, e = .returned (.tuple #[.agg #[.string (strOf (nJ v).au), .string (strOf (nJ v).usr), .string (strOf (nJ v).dR), .string (strOf (nJ v).hst), .bool (nJ v).hh, .int .i64 (nJ v).port, .bool (nJ v).opq, .string (strOf (nJ v).txt), .slice A n c, .bool (nJ v).hq, .bool (nJ v).hf, .string (strOf (nJ v).eu), .string (strOf (nJ v).fH)], .int .i64 0]) ∧ Pt w' (nJ v) A n c ∧ Below w.heap.size w w' :=
  (WinW.Qz ho hs w ⟨E.pow, E.QG, E.max⟩).mono fun e w' ⟨A, n, c, h1, h2, h3⟩ => ⟨A, n, c, h1, ⟨⟨h2.IW, h2.nc, h2.cm⟩⟩, h3⟩
theorem Kq : ∀ l : List (List UInt8), (bQ.aF ((l.map seg).map strOf)).length ≤ 3 * (glue 92 l).length
  | [] => Nat.zero_le _
  | x :: l => by
    have ih := Kq l
    have h2 := rF.Gq x
    have e1 : bQ.aF (((x :: l).map seg).map strOf) = (47 :: seg x) ++ bQ.aF ((l.map seg).map strOf) := rfl
    have e2 : glue 92 (x :: l) = (92 :: x) ++ glue 92 l := rfl
    rw [e1, e2, List.length_append, List.length_append, List.length_cons, List.length_cons]
    omega
theorem EC : ∀ (k : Nat) (l : List (List UInt8)), (glue 92 (l.drop k)).length ≤ (glue 92 l).length
  | 0, _ => Nat.le_refl _
  | k + 1, [] => Nat.le_refl _
  | k + 1, x :: l => by
    have ih := EC k l
    have e2 : glue 92 (x :: l) = (92 :: x) ++ glue 92 l := rfl
    rw [List.drop_succ_cons, e2, List.length_append]
    omega
theorem aaO {L : List UInt8} {v : W3} (e : iI L = some v) : v.1.length ≤ L.length ∧ v.2.1.length ≤ L.length ∧ (glue 92 v.2.2).length ≤ L.length + 1 := by
  have hg : (glue 92 (gJ L)).length = L.length + 1 := by
    have h : glue 92 (gJ L) = 92 :: L.map bs := yt 92 (L.map bs)
    rw [h, List.length_cons, List.length_map]
  have h3 : ∀ k, ((gJ L).getD k []).length ≤ L.length := fun k => by
    rw [List.getD_eq_getElem?_getD]
    cases e : (gJ L)[k]? with
    | none => exact Nat.zero_le _
    | some y =>
      have := wu 92 _ y (List.mem_of_getElem? e)
      rw [List.length_map] at this
      exact this
  have d1 := EC 1 (gJ L)
  have d3 := EC 3 (gJ L)
  unfold iI NV at e
  split at e
  · injection e with e
    rw [← e]
    unfold three
    split
    · exact ⟨h3 0, Nat.zero_le _, by show (glue 92 ((gJ L).drop 1)).length ≤ _; omega⟩
    · exact ⟨Nat.zero_le _, h3 2, by show (glue 92 ((gJ L).drop 3)).length ≤ _; omega⟩
  · cases e
theorem Yu (s : ByteArray) (w : World) (hs : s.size ≤ 900000) : Calls Tryz.prog 39 #[.string s] w fun e w' => e = .returned (.string (strOf (s.data.toList.map bs))) ∧ Below w.heap.size w w' := by
  have HS : Hid (Calls Tryz.prog 79 #[.string s, .int .u8 47, .int .u8 92] w fun e w' => e = .returned (.string (strOf (s.data.toList.map bs))) ∧ Below w.heap.size w w') := iP s 47 92 w hs
  clear hs
  go_enter Tryz.func39, Tryz.ntmps39
  go_wp2_with fail
  refine HS.out.mono ?_
  rintro e w2 ⟨rfl, hb⟩
  have HB := hid hb
  clear hb
  go_wp2
  go_ret
  exact ⟨rfl, HB.out⟩
set_option linter.unusedSimpArgs false in
set_option maxRecDepth 100000 in
set_option maxHeartbeats 8000000 in
theorem FU (s : ByteArray) (w : World) (h0 : s.size ≤ 140737488351232) (hT : Tab.Pow w) (hL : nP w) (hM : Max w) (hU : tK w) : Calls Tryz.prog 10 #[.string s] w fun e w' => e = .returned (.bool true) ∧ Below w.heap.size w w' := by
  have HE := hid (⟨hT, hL, hM, hU⟩ : Env w)
  have QB : Hid (∀ w : World, Env w → Calls Tryz.prog 33 #[] w fun e w' => e = .returned (.bool true) ∧ Below w.heap.size w w') := fun w E => WinW.Es w ⟨E.pow, E.QG, E.max⟩
  clear hT hL hM hU
  by_cases hl : s.size ≤ 500
  · have hli : ¬ (500 : Int) < (s.size : Int) := by omega
    obtain ⟨b, hb⟩ : ∃ b, b = jc s.data.toList := ⟨_, rfl⟩
    have HF2 : Hid (∀ w : World, Calls Tryz.prog 37 #[.string s] w fun e w' => e = .returned (.bool b) ∧ Below w.heap.size w w') := fun w => by rw [hb]; exact Rn.uf s w (by omega)
    have hsl : s.data.toList.length = s.size := Array.length_toList
    cases b with
    | false =>
      clear hb hsl
      go_enter Tryz.func10, Tryz.ntmps10
      go_wp2_with fail
      refine (QB.out _ HE.out).mono ?_
      rintro e w1 ⟨rfl, hb⟩
      have HB1 := hid hb
      have D7 := hid (HE.out.below hb)
      clear hb
      go_wp2_with fail
      refine (HF2.out _).mono ?_
      rintro e w2 ⟨rfl, hb⟩
      have HB2 := hid (bel HB1.out hb)
      have FZ := hid (D7.out.below hb)
      clear hb
      go_wp2_with fail
      refine (QB.out _ FZ.out).mono ?_
      rintro e w3 ⟨rfl, hb⟩
      have HB3 := hid (bel HB2.out hb)
      have FK := hid (FZ.out.below hb)
      clear hb
      go_wp2
      go_ret
      exact ⟨by first | rfl | trivial, HB3.out⟩
    | true =>
      obtain ⟨v, hv⟩ : ∃ v, iI s.data.toList = some v := by
        rw [← sG] at hb
        exact Option.isSome_iff_exists.1 hb.symm
      obtain ⟨g1, g2, g3⟩ := aaO hv
      have hcl := Kq v.2.2
      have hag := Xx hv
      have hbk := aaN hv
      have hpl : (bQ.aF (nJ v).aF).length ≤ 3000 := by
        show (bQ.aF ((pre v.1 ++ v.2.2.map seg).map strOf)).length ≤ _
        unfold pre
        split
        · show (bQ.aF ((v.2.2.map seg).map strOf)).length ≤ _
          omega
        · show ((47 :: v.1) ++ bQ.aF ((v.2.2.map seg).map strOf)).length ≤ _
          rw [List.length_append, List.length_cons]
          omega
      have hfit : Fit (nJ v) 6000 := by
        refine ⟨?_, by show (-1 : Int) ≤ -1; decide, by show (-1 : Int) ≤ 65535; decide⟩
        show 4 + 0 + 0 + v.2.1.length + 0 + 0 + 0 + (bQ.aF (nJ v).aF).length ≤ 6000
        omega
      have hprl := W9 hfit
      have hhl : (nJ v).hst.length ≤ 500 := by show v.2.1.length ≤ 500; omega
      have HU1 := hid (fun w E => Xv hv (by omega) w E)
      obtain ⟨u, hu⟩ : ∃ u, u = nJ v := ⟨_, rfl⟩
      rw [← hu] at hag hbk hpl hfit hprl hhl HU1
      obtain ⟨M, hM⟩ : ∃ M, M = strOf (s.data.toList.map bs) := ⟨_, rfl⟩
      have XV : Hid (∀ (A : Option Addr) (n c : Nat) (w : World), Pt w u A n c → Env w → Calls Tryz.prog 34 #[.agg #[.string (strOf u.au), .string (strOf u.usr), .string (strOf u.dR), .string (strOf u.hst), .bool u.hh, .int .i64 u.port, .bool u.opq, .string (strOf u.txt), .slice A n c, .bool u.hq, .bool u.hf, .string (strOf u.eu), .string (strOf u.fH)]] w fun e w' => e = .returned (.tuple #[.string M, .int .i64 0]) ∧ Below w.heap.size w w') := fun A n c w hP E => by
        have h := pathB_u u A n c w hP (by omega) E
        rw [hbk] at h
        rw [hM]
        exact h
      have HBK : Hid (∀ w : World, Calls Tryz.prog 39 #[.string s] w fun e w' => e = .returned (.string M) ∧ Below w.heap.size w w') := fun w => by rw [hM]; exact Yu s w (by omega)
      obtain ⟨P, hP⟩ : ∃ P, P = strOf (kT u) := ⟨_, rfl⟩
      have QF : Hid (∀ (A : Option Addr) (n c : Nat) (w : World), Pt w u A n c → Env w → Calls Tryz.prog 31 #[.agg #[.string (strOf u.au), .string (strOf u.usr), .string (strOf u.dR), .string (strOf u.hst), .bool u.hh, .int .i64 u.port, .bool u.opq, .string (strOf u.txt), .slice A n c, .bool u.hq, .bool u.hf, .string (strOf u.eu), .string (strOf u.fH)]] w fun e w' => e = .returned (.string P) ∧ Below w.heap.size w w') := fun A n c w h E => by rw [hP]; exact Vd hfit (by omega) A n c w h E
      have HPS := hid (fun w E => BI (T := P) (u := u) (by rw [hP]; exact hag) (by rw [hP, ah]; omega) w E)
      have hqs : (M.toList == M.toList) = true := by simp
      clear hv g1 g2 g3 hcl hag hbk hpl hfit hprl hhl hu hM hP hb hsl
      go_enter Tryz.func10, Tryz.ntmps10
      go_wp2_with fail
      refine (QB.out _ HE.out).mono ?_
      rintro e w1 ⟨rfl, hb⟩
      have HB1 := hid hb
      have D7 := hid (HE.out.below hb)
      clear hb
      go_wp2_with fail
      refine (HF2.out _).mono ?_
      rintro e w2 ⟨rfl, hb⟩
      have HB2 := hid (bel HB1.out hb)
      have FZ := hid (D7.out.below hb)
      clear hb
      go_wp2_with fail
      refine (HU1.out _ FZ.out).mono ?_
      rintro e w3 ⟨A1, n1, c1, rfl, hpt, hb⟩
      have HB3 := hid (bel HB2.out hb)
      have FK := hid (FZ.out.below hb)
      clear hb
      have T1 := hid hpt
      clear hpt
      go_upto_region 4 with (fail)
      generalize lG : World.alloc _ _ = v4
      have hxa : UB v4 w3.heap.size u (.slice A1 n1 c1) := by rw [← lG]; exact heap_alloc_new _ _
      have hb : Below w3.heap.size w3 v4 := by rw [← lG]; exact (Below.refl _ _).alloc (Nat.le_refl _) _
      have X1 := hid hxa
      clear lG hxa
      have HB4 := hid (bel HB3.out hb)
      have TV := hid (FK.out.below hb)
      have Yi := hid (T1.out.below hb)
      clear hb
      obtain ⟨d0, d1, d2, d3, d4, d5, d6, d7, d8, d9, d10, d11, d12⟩ := X1.out.facts
      go_wp2_with fail
      clear d0 d1 d2 d3 d4 d5 d6 d7 d8 d9 d10 d11 d12
      refine (XV.out _ _ _ _ Yi.out TV.out).mono ?_
      rintro e w5 ⟨rfl, hb⟩
      have rE := hid (bel HB4.out hb)
      have E_5 := hid (TV.out.below hb)
      have T1_5 := hid (Yi.out.below hb)
      have X1_5 := hid (X1.out.below hb)
      clear hb
      go_upto_region 5 with (fail)
      obtain ⟨d0, d1, d2, d3, d4, d5, d6, d7, d8, d9, d10, d11, d12⟩ := X1_5.out.facts
      go_wp2_with fail
      clear d0 d1 d2 d3 d4 d5 d6 d7 d8 d9 d10 d11 d12
      refine (QF.out _ _ _ _ T1_5.out E_5.out).mono ?_
      rintro e w6 ⟨rfl, hb⟩
      have NZ := hid (bel rE.out hb)
      have E_6 := hid (E_5.out.below hb)
      have T1_6 := hid (T1_5.out.below hb)
      have X1_6 := hid (X1_5.out.below hb)
      clear hb
      go_wp2_with fail
      refine (HPS.out _ E_6.out).mono ?_
      rintro e w7 ⟨A2, n2, c2, rfl, hpt, hb⟩
      have uU := hid (bel NZ.out hb)
      have E_7 := hid (E_6.out.below hb)
      have Yj := hid (T1_6.out.below hb)
      have X1_7 := hid (X1_6.out.below hb)
      clear hb
      have T2 := hid hpt
      clear hpt
      go_upto_region 6 with (fail)
      generalize lG : World.alloc _ _ = v8
      have hxa : UB v8 w7.heap.size u (.slice A2 n2 c2) := by rw [← lG]; exact heap_alloc_new _ _
      have hb : Below w7.heap.size w7 v8 := by rw [← lG]; exact (Below.refl _ _).alloc (Nat.le_refl _) _
      have X2 := hid hxa
      clear lG hxa
      have HB8 := hid (bel uU.out hb)
      have E_8 := hid (E_7.out.below hb)
      have T1_8 := hid (Yj.out.below hb)
      have X1_8 := hid (X1_7.out.below hb)
      have T2_8 := hid (T2.out.below hb)
      clear hb
      obtain ⟨e0, e1, e2, e3, e4, e5, e6, e7, e8, e9, e10, e11, e12⟩ := X2.out.facts
      go_wp2_with fail
      clear e0 e1 e2 e3 e4 e5 e6 e7 e8 e9 e10 e11 e12
      refine (XV.out _ _ _ _ T2_8.out E_8.out).mono ?_
      rintro e w9 ⟨rfl, hb⟩
      have HB9 := hid (bel HB8.out hb)
      have E_9 := hid (E_8.out.below hb)
      have T1_9 := hid (T1_8.out.below hb)
      have X1_9 := hid (X1_8.out.below hb)
      have T2_9 := hid (T2_8.out.below hb)
      have X2_9 := hid (X2.out.below hb)
      clear hb
      go_upto_region 7 with (fail)
      go_wp2_with fail
      refine (HBK.out _).mono ?_
      rintro e w10 ⟨rfl, hb⟩
      have HB10 := hid (bel HB9.out hb)
      have E_10 := hid (E_9.out.below hb)
      have Yh := hid (T1_9.out.below hb)
      have Ym := hid (X1_9.out.below hb)
      have T2_10 := hid (T2_9.out.below hb)
      have X2_10 := hid (X2_9.out.below hb)
      clear hb
      go_upto_region 8 with (fail)
      obtain ⟨d0, d1, d2, d3, d4, d5, d6, d7, d8, d9, d10, d11, d12⟩ := Ym.out.facts
      obtain ⟨e0, e1, e2, e3, e4, e5, e6, e7, e8, e9, e10, e11, e12⟩ := X2_10.out.facts
      go_wp2_with fail
      clear d0 d1 d2 d3 d4 d5 d6 d7 d8 d9 d10 d11 d12 e0 e1 e2 e3 e4 e5 e6 e7 e8 e9 e10 e11 e12
      refine (aap u _ _ _ _ _ _ _ Yh.out T2_10.out).mono ?_
      rintro e LH ⟨rfl, hb⟩
      have HB11 := hid (bel HB10.out hb)
      have E_11 := hid (E_10.out.below hb)
      have T1_11 := hid (Yh.out.below hb)
      have X1_11 := hid (Ym.out.below hb)
      have T2_11 := hid (T2_10.out.below hb)
      have X2_11 := hid (X2_10.out.below hb)
      clear hb
      go_wp2
      go_ret
      exact ⟨by first | rfl | trivial, HB11.out⟩
  · have hli : (500 : Int) < (s.size : Int) := by omega
    go_enter Tryz.func10, Tryz.ntmps10
    go_wp2_with fail
    refine (QB.out _ HE.out).mono ?_
    rintro e w1 ⟨rfl, hb⟩
    have HB1 := hid hb
    have D7 := hid (HE.out.below hb)
    clear hb
    go_wp2_with fail
    refine (QB.out _ D7.out).mono ?_
    rintro e w2 ⟨rfl, hb⟩
    have HB2 := hid (bel HB1.out hb)
    have FZ := hid (D7.out.below hb)
    clear hb
    go_wp2
    go_ret
    exact ⟨by first | rfl | trivial, HB2.out⟩
end Go.Proofs.YtmdofbccebkbiaaGreatDoor.Laws
