/- Texts that belong together: Law17a. -/
import Derived.Test.YtcfgioklgmlclaaGreatDoorPH
set_option linter.unusedSimpArgs false
set_option linter.unusedVariables false
set_option maxRecDepth 100000
set_option maxHeartbeats 64000000
namespace Go.Proofs.YtcfgioklgmlclaaGreatDoor.Laws
open Go.RowKit Base aP fE aH tZ Uo Ulw uq qL lJ MV rC X7 Nk Qv kX Fh J8 aas
open Go.Proofs.YtcfgioklgmlclaaGreatDoor.dD (Dp)
theorem Qg (s0 s1 s2 s3 : ByteArray) (b4 : Bool) (z5 : Int) (b6 : Bool) (s7 : ByteArray) (A : Option Addr) (n cap : Nat) (l : List ByteArray) (b9 b10 : Bool) (s11 s12 : ByteArray) (w : World) (hs0 : s0.size ≤ 140737488351232) (hs1 : s1.size ≤ 140737488351232) (hs2 : s2.size ≤ 140737488351232) (hs3 : s3.size ≤ 140737488351232) (hz : -9223372036854775808 ≤ z5 ∧ z5 ≤ 9223372036854775807) (hs7 : s7.size ≤ 140737488351232) (hR : dS w A n (l.map Value.string)) (hnc : n ≤ cap) (hcm : cap ≤ maxLen) (hel : ∀ s ∈ l, s.size ≤ 140737488351232) (hs11 : s11.size ≤ 140737488351232) (Ou : s12.size ≤ 140737488351232) (hT : Tab.Pow w) (hL : pR w) (hM : Max w) (hU : uw w) :
  Calls Tryz.prog 3 #[.agg #[.string s0, .string s1, .string s2, .string s3, .bool b4, .int .i64 z5, .bool b6, .string s7, .slice A n cap, .bool b9, .bool b10, .string s11, .string s12]] w fun e w' => e = .returned (.bool true) ∧ Below w.heap.size w w' := by
 have HE := hid (⟨hT, hL, hM, hU⟩ : Env w)
 have Ws : Hid (∀ w : World, Env w → Calls Tryz.prog 11 #[] w fun e w' => e = .returned (.bool true) ∧ Below w.heap.size w w') := fun w E => Ep w E
 obtain ⟨u, hu⟩ : ∃ u : U, u = ⟨s0.data.toList, s1.data.toList, s2.data.toList, s3.data.toList, b4, z5, b6, s7.data.toList, l, b9, b10, s11.data.toList, s12.data.toList⟩ := ⟨_, rfl⟩
 have hval : Value.agg #[.string s0, .string s1, .string s2, .string s3, .bool b4, .int .i64 z5, .bool b6, .string s7, .slice A n cap, .bool b9, .bool b10, .string s11, .string s12] = .agg #[.string (strOf u.aj), .string (strOf u.usr), .string (strOf u.dR), .string (strOf u.hst), .bool u.hh, .int .i64 u.port, .bool u.opq, .string (strOf u.txt), .slice A n cap, .bool u.hq, .bool u.hf, .string (strOf u.eF), .string (strOf u.fG)] := by subst hu; simp only [ay]
 obtain ⟨FB, YX⟩ : ∃ b, b = decide (Dp s0 s1 s2 s3 s7 s11 s12 l ≤ 1000 ∧ n ≤ 50) := ⟨_, rfl⟩
 have HFW : Hid (∀ w : World, Rs w A n u.aN → Calls Tryz.prog 12 #[.agg #[.string (strOf u.aj), .string (strOf u.usr), .string (strOf u.dR), .string (strOf u.hst), .bool u.hh, .int .i64 u.port, .bool u.opq, .string (strOf u.txt), .slice A n cap, .bool u.hq, .bool u.hf, .string (strOf u.eF), .string (strOf u.fG)]] w fun e w' => e = .returned (.bool FB) ∧ Below w.heap.size w w') := fun w h => by
  rw [← hval, YX]
  exact UrlD.Oh s0 s1 s2 s3 b4 z5 b6 s7 A n cap l b9 b10 s11 s12 w (by have := h.OW; rw [hu] at this; exact this) hnc hcm hs0 hs1 hs2 hs3 hs7 hs11 Ou hel
 have HR := hid (show Rs w A n u.aN from ⟨by rw [hu]; exact hR⟩)
 have hSH : FB = true → Sh u n cap := by
  intro h
  rw [YX, decide_eq_true_iff] at h
  have hn : l.length = n := by rw [← hR.1, List.length_map]
  have h1 := h.1
  unfold Dp at h1
  have h2 : (dD.aN l).length ≤ 2000 := by rw [dD.jE]; omega
  subst hu
  refine ⟨?_, hz.1, hz.2, hnc, hcm⟩
  ·show s0.data.toList.length + s1.data.toList.length + s2.data.toList.length + s3.data.toList.length + s7.data.toList.length + s11.data.toList.length + (dD.aN l).length ≤ 400000
   simp only [rC.dl]
   omega
 have hFR : FB = true → u.fG.length ≤ 400000 := by
  intro h
  rw [YX, decide_eq_true_iff] at h
  have h1 := h.1
  unfold Dp at h1
  subst hu
  show s12.data.toList.length ≤ 400000
  rw [rC.dl]
  omega
 obtain ⟨M, B, hMB⟩ : ∃ M B, tH u = (M, B) := ⟨_, _, rfl⟩
 obtain ⟨er, her⟩ : ∃ x, x = AY u := ⟨_, rfl⟩
 obtain ⟨SB, hSB⟩ : ∃ S, S = strOf B := ⟨_, rfl⟩
 have xq := hid hSB
 have J3 : Hid (FB = true → ∀ w : World, Rs w A n u.aN → Env w → Calls Tryz.prog 13 #[.agg #[.string (strOf u.aj), .string (strOf u.usr), .string (strOf u.dR), .string (strOf u.hst), .bool u.hh, .int .i64 u.port, .bool u.opq, .string (strOf u.txt), .slice A n cap, .bool u.hq, .bool u.hf, .string (strOf u.eF), .string (strOf u.fG)]] w fun e w' => (∃ A1 c1 A2 c2, e = .returned (.tuple #[.agg #[.string (strOf M.ty), .string (strOf M.sub), .slice A1 M.ps.length c1], .slice A2 B.length c2, .int .i64 er]) ∧ Mp w' M A1 c1 ∧ Bp w' B A2 c2) ∧ Below w.heap.size w w') := fun h w hR E => by
  have k := qA (hSH h) w hR E
  rw [hMB, ← her] at k
  exact k
 have je : Hid (FB = true → ∀ w : World, Rs w A n u.aN → Calls Tryz.prog 14 #[.agg #[.string (strOf u.aj), .string (strOf u.usr), .string (strOf u.dR), .string (strOf u.hst), .bool u.hh, .int .i64 u.port, .bool u.opq, .string (strOf u.txt), .slice A n cap, .bool u.hq, .bool u.hf, .string (strOf u.eF), .string (strOf u.fG)]] w fun e w' => (∃ A1 c1, e = .returned (.tuple #[.agg #[.string (strOf M.ty), .string (strOf M.sub), .slice A1 M.ps.length c1], .string SB, .int .i64 er]) ∧ Mp w' M A1 c1) ∧ Below w.heap.size w w') := fun h w hR => by
  have k := OY (hSH h) (hFR h) w hR
  rw [hMB, ← her] at k
  rw [hSB]
  exact k
 have Ug : Hid (∀ (A A2 : Option Addr) (c c2 : Nat) (w : World), Mp w M A c → Mp w M A2 c2 → Calls Tryz.prog 15 #[.agg #[.string (strOf M.ty), .string (strOf M.sub), .slice A M.ps.length c], .agg #[.string (strOf M.ty), .string (strOf M.sub), .slice A2 M.ps.length c2]] w fun e w' => e = .returned (.bool true) ∧ Below w.heap.size w w') := fun A A2 c c2 w h k => ZB w h k
 have qs : (SB.toList == SB.toList) = true := beq_self_eq_true _
 have qe : (er == er) = true := beq_self_eq_true _
 rw [hval]
 clear hval hu YX hSH hFR hMB her hSB hT hL hM hU hR hs0 hs1 hs2 hs3 hs7 hs11 Ou hel hz hnc hcm
 go_enter Tryz.func3, Tryz.ntmps3
 go_upto_region 1 with (fail)
 generalize gI : World.alloc _ _ = v1
 have hxa : UB v1 (w.heap.size) u (.slice A n cap) := by rw [← gI]; exact heap_alloc_new _ _
 have hb : Below w.heap.size w v1 := by rw [← gI]; exact (Below.refl _ _).alloc (Nat.le_refl _) _
 have X := hid hxa
 clear gI hxa
 have HB1 := hid hb
 have JU := hid (HE.out.below hb)
 have R_1 := hid (HR.out.below hb)
 clear hb
 go_wp2_with fail
 refine (Ws.out _ JU.out).mono ?_
 rintro e w2 ⟨rfl, hb⟩
 have HB2 := hid (bel HB1.out hb)
 have TN := hid (JU.out.below hb)
 have R_2 := hid (R_1.out.below hb)
 have X_2 := hid (X.out.below hb)
 clear hb
 obtain ⟨d0, d1, d2, d3, d4, d5, d6, d7, d8, d9, d10, d11, d12⟩ := X_2.out.facts
 go_wp2_with fail
 clear d0 d1 d2 d3 d4 d5 d6 d7 d8 d9 d10 d11 d12
 refine (HFW.out _ R_2.out).mono ?_
 rintro e w3 ⟨rfl, hb⟩
 have HB3 := hid (bel HB2.out hb)
 have MW := hid (TN.out.below hb)
 have R_3 := hid (R_2.out.below hb)
 have X_3 := hid (X_2.out.below hb)
 clear hb
 cases FB with
 | false =>
  go_wp2_with fail
  refine (Ws.out _ MW.out).mono ?_
  rintro e w4 ⟨rfl, hb⟩
  have HB4 := hid (bel HB3.out hb)
  have Ya := hid (MW.out.below hb)
  have R_4 := hid (R_3.out.below hb)
  have X_4 := hid (X_3.out.below hb)
  clear hb
  go_wp2
  go_ret
  exact ⟨rfl, HB4.out⟩
 | true =>
  have HPC2 := hid (J3.out rfl)
  have HPR2 := hid (je.out rfl)
  clear J3 je HFW Ws
  obtain ⟨d0, d1, d2, d3, d4, d5, d6, d7, d8, d9, d10, d11, d12⟩ := X_3.out.facts
  go_wp2_with fail
  clear d0 d1 d2 d3 d4 d5 d6 d7 d8 d9 d10 d11 d12
  refine (HPC2.out _ R_3.out MW.out).mono ?_
  rintro e w4 ⟨⟨A1, c1, A2, c2, rfl, hmp, hbp⟩, hb⟩
  have HB4 := hid (bel HB3.out hb)
  have Ya := hid (MW.out.below hb)
  have R_4 := hid (R_3.out.below hb)
  have X_4 := hid (X_3.out.below hb)
  clear hb
  have M1 := hid (hmp)
  have B2 := hid (hbp)
  clear hmp hbp
  go_upto_region 4 with (fail)
  generalize gI : World.alloc _ _ = v5
  have hxa : B3 29 v5 (w4.heap.size) (.string (strOf M.ty)) (.string (strOf M.sub)) (.slice A1 M.ps.length c1) := by rw [← gI]; exact heap_alloc_new _ _
  have hb : Below w4.heap.size w4 v5 := by rw [← gI]; exact (Below.refl _ _).alloc (Nat.le_refl _) _
  have X3 := hid hxa
  clear gI hxa
  have mO := hid (bel HB4.out hb)
  have E_5 := hid (Ya.out.below hb)
  have R_5 := hid (R_4.out.below hb)
  have X_5 := hid (X_4.out.below hb)
  have Yj := hid (M1.out.below hb)
  have B2_5 := hid (B2.out.below hb)
  clear hb
  obtain ⟨d0, d1, d2, d3, d4, d5, d6, d7, d8, d9, d10, d11, d12⟩ := X_5.out.facts
  go_wp2_with fail
  clear d0 d1 d2 d3 d4 d5 d6 d7 d8 d9 d10 d11 d12
  refine (HPR2.out _ R_5.out).mono ?_
  rintro e w6 ⟨⟨A3, c3, rfl, hmp⟩, hb⟩
  have sW := hid (bel mO.out hb)
  have E_6 := hid (E_5.out.below hb)
  have R_6 := hid (R_5.out.below hb)
  have X_6 := hid (X_5.out.below hb)
  have M1_6 := hid (Yj.out.below hb)
  have B2_6 := hid (B2_5.out.below hb)
  have aa1 := hid (X3.out.below hb)
  clear hb
  have M3 := hid (hmp)
  clear hmp
  go_upto_region 5 with (fail)
  generalize gI : World.alloc _ _ = v7
  have hxa : B3 29 v7 (w6.heap.size) (.string (strOf M.ty)) (.string (strOf M.sub)) (.slice A3 M.ps.length c3) := by rw [← gI]; exact heap_alloc_new _ _
  have hb : Below w6.heap.size w6 v7 := by rw [← gI]; exact (Below.refl _ _).alloc (Nat.le_refl _) _
  have X4 := hid hxa
  clear gI hxa
  have rD := hid (bel sW.out hb)
  have E_7 := hid (E_6.out.below hb)
  have R_7 := hid (R_6.out.below hb)
  have X_7 := hid (X_6.out.below hb)
  have M1_7 := hid (M1_6.out.below hb)
  have B2_7 := hid (B2_6.out.below hb)
  have X3_7 := hid (aa1.out.below hb)
  have M3_7 := hid (M3.out.below hb)
  clear hb
  obtain ⟨m0, m1, m2⟩ := X3_7.out.facts
  obtain ⟨n0, n1, n2⟩ := X4.out.facts
  go_wp2_with fail
  clear m0 m1 m2 n0 n1 n2
  refine (Ug.out _ _ _ _ _ M1_7.out M3_7.out).mono ?_
  rintro e wz ⟨rfl, hb⟩
  have PO := hid (bel rD.out hb)
  have E_8 := hid (E_7.out.below hb)
  have R_8 := hid (R_7.out.below hb)
  have X_8 := hid (X_7.out.below hb)
  have M1_8 := hid (M1_7.out.below hb)
  have B2_8 := hid (B2_7.out.below hb)
  have X3_8 := hid (X3_7.out.below hb)
  have M3_8 := hid (M3_7.out.below hb)
  have X4_8 := hid (X4.out.below hb)
  clear hb
  have hs := aQ (P := Tryz.prog) 30 9 5 Tryz.underlying30 Tryz.underlying5 Tryz.underlying9 _ c2 B2_8.out.OW
  rw [← xq.out] at hs
  go_wp2
  go_ret
  exact ⟨rfl, PO.out⟩
end Go.Proofs.YtcfgioklgmlclaaGreatDoor.Laws
