/- Texts that belong together: Law17c. -/
import Derived.Test.YtcfgioklgmlclaaGreatDoorPG
import Derived.Test.YtcfgioklgmlclaaGreatDoorMT
set_option linter.unusedSimpArgs false
set_option linter.unusedVariables false
set_option maxRecDepth 100000
set_option maxHeartbeats 64000000
namespace Go.Proofs.YtcfgioklgmlclaaGreatDoor.Laws
open Go.RowKit Base aP fE aH tZ Uo Ulw uq qL lJ MV rC X7 Nk Qv kX Fh J8 aas
open Go.Proofs.YtcfgioklgmlclaaGreatDoor.dD (Dp)
theorem same_m {M : MT} {A A2 : Option Addr} {c c2 : Nat} (w : World) (h : Mp w M A c) (k : Mp w M A2 c2) : Calls Tryz.prog 18 #[.agg #[.string (strOf M.ty), .string (strOf M.sub), .slice A M.ps.length c], .agg #[.string (strOf M.ty), .string (strOf M.sub), .slice A2 M.ps.length c2]] w fun e w' => e = .returned (.bool true) ∧ Below w.heap.size w w' := by
 have h1 := Nk.SI (strOf M.ty) (strOf M.sub) A M.ps.length c (mF M.ps) (strOf M.ty) (strOf M.sub) A2 M.ps.length c2 (mF M.ps) w h.prm k.prm h.nc h.cm k.nc k.cm
 rw [Qv.EN] at h1
 exact h1
theorem BX (s0 s1 : ByteArray) (w : World) (h0 : s0.size ≤ 140737488351232) (_h1 : s1.size ≤ 140737488351232) (hT : Tab.Pow w) (hL : pR w) (hM : Max w) (hU : uw w) : Calls Tryz.prog 4 #[.string s0, .string s1] w fun e w' => e = .returned (.bool true) ∧ Below w.heap.size w w' := by
 have HE := hid (⟨hT, hL, hM, hU⟩ : Env w)
 have Ws : Hid (∀ w : World, Env w → Calls Tryz.prog 11 #[] w fun e w' => e = .returned (.bool true) ∧ Below w.heap.size w w') := fun w E => Ep w E
 clear hT hL hM hU _h1
 by_cases hl : s0.size ≤ 1000
 ·have hli : ¬ (1000 : Int) < (s0.size : Int) := by omega
  obtain ⟨F, rfl⟩ : ∃ F, s1 = strOf F := ⟨_, (ay _).symm⟩
  cases e1 : aH.url s0.data.toList none with
  | none =>
   obtain ⟨u0, hu0⟩ : ∃ u0, u0 = U0 := ⟨_, rfl⟩
   have HU0 := hid hu0
   have HP1 : Hid (∀ w, Env w → Calls Tryz.prog 16 #[.string s0, .pointer none] w fun e w' => ∃ A' n' c', e = .returned (.tuple #[.agg #[.string (strOf u0.aj), .string (strOf u0.usr), .string (strOf u0.dR), .string (strOf u0.hst), .bool u0.hh, .int .i64 u0.port, .bool u0.opq, .string (strOf u0.txt), .slice A' n' c', .bool u0.hq, .bool u0.hf, .string (strOf u0.eF), .string (strOf u0.fG)], .int .i64 2]) ∧ Pt w' u0 A' n' c' ∧ Below w.heap.size w w') := fun w E => Vq HU0.out e1 (by omega) w E
   have JW : Hid (∀ (A : Option Addr) (n c : Nat) (w : World), Pt w u0 A n c → Calls Tryz.prog 17 #[.agg #[.string (strOf u0.aj), .string (strOf u0.usr), .string (strOf u0.dR), .string (strOf u0.hst), .bool u0.hh, .int .i64 u0.port, .bool u0.opq, .string (strOf u0.txt), .slice A n c, .bool u0.hq, .bool u0.hf, .string (strOf u0.eF), .string (strOf u0.fG)], .agg #[.string ⟨#[]⟩, .string ⟨#[]⟩, .string ⟨#[]⟩, .string ⟨#[]⟩, .bool false, .int .i64 0, .bool false, .string ⟨#[]⟩, .slice none 0 0, .bool false, .bool false, .string ⟨#[]⟩, .string ⟨#[]⟩]] w fun e w' => e = .returned (.bool true) ∧ Below w.heap.size w w') := fun A n c w h => Smz.ZK hu0 A n c w h
   clear e1 hu0 hl h0
   go_enter Tryz.func4, Tryz.ntmps4
   go_wp2_with fail
   refine (Ws.out _ HE.out).mono ?_
   rintro e w1 ⟨rfl, hb⟩
   have HB1 := hid hb
   have JU := hid (HE.out.below hb)
   clear hb
   go_wp2_with fail
   refine (HP1.out _ JU.out).mono ?_
   rintro e w2 ⟨A1, n1, c1, rfl, hpt, hb⟩
   have HB2 := hid (bel HB1.out hb)
   have TN := hid (JU.out.below hb)
   clear hb
   have T1 := hid (hpt)
   clear hpt
   go_upto_region 4 with (fail)
   generalize gI : World.alloc _ _ = v3
   have hxa : UB v3 (w2.heap.size) u0 (.slice A1 n1 c1) := by rw [← gI]; exact heap_alloc_new _ _
   have hb : Below w2.heap.size w2 v3 := by rw [← gI]; exact (Below.refl _ _).alloc (Nat.le_refl _) _
   have X1 := hid hxa
   clear gI hxa
   have HB3 := hid (bel HB2.out hb)
   have MW := hid (TN.out.below hb)
   have Yq := hid (T1.out.below hb)
   clear hb
   obtain ⟨ka0, ka1, ka2, ka3, ka4, ka5, ka6, ka7, ka8, ka9, Oy, Oz, OB⟩ := X1.out.facts
   go_wp2_with fail
   clear ka0 ka1 ka2 ka3 ka4 ka5 ka6 ka7 ka8 ka9 Oy Oz OB
   refine (JW.out _ _ _ _ Yq.out).mono ?_
   rintro e w4 ⟨rfl, hb⟩
   have HB4 := hid (bel HB3.out hb)
   have Ya := hid (MW.out.below hb)
   have aaY := hid (Yq.out.below hb)
   have aa0 := hid (X1.out.below hb)
   clear hb
   go_wp2
   go_ret
   exact ⟨rfl, HB4.out⟩
  | some u =>
   have HP1 : Hid (∀ w, Env w → Calls Tryz.prog 16 #[.string s0, .pointer none] w fun e w' => ∃ A' n' c', e = .returned (.tuple #[.agg #[.string (strOf u.aj), .string (strOf u.usr), .string (strOf u.dR), .string (strOf u.hst), .bool u.hh, .int .i64 u.port, .bool u.opq, .string (strOf u.txt), .slice A' n' c', .bool u.hq, .bool u.hf, .string (strOf u.eF), .string (strOf u.fG)], .int .i64 0]) ∧ Pt w' u A' n' c' ∧ Below w.heap.size w w') := fun w E => I4 e1 (by omega) w E
   obtain ⟨v, hv⟩ : ∃ v : U, v = { u with hf := !u.hf, fG := F } := ⟨_, rfl⟩
   have HV := hid hv
   obtain ⟨M, B, hMB⟩ : ∃ M B, tH u = (M, B) := ⟨_, _, rfl⟩
   obtain ⟨er, her⟩ : ∃ x, x = AY u := ⟨_, rfl⟩
   have hMB2 : tH v = (M, B) := by rw [hv]; exact hMB
   have her2 : er = AY v := by rw [hv]; exact her
   have hfit := xY.XY (M := 0) e1 (fun _ e => by cases e)
   have HFI : Hid (∀ (w : World) (A : Option Addr) (n c : Nat), Pt w u A n c → Sh u n c ∧ Rs w A n u.aN) := fun w A n c h => ⟨sh_of hfit (by rw [rC.dl]; omega) h, ⟨h.aN.1⟩⟩
   have HF2 : Hid (∀ (n c : Nat), Sh u n c → Sh v n c) := fun n c h => by rw [hv]; exact ⟨h.all, h.lo, h.hi, h.nc, h.cm⟩
   have HR2 : Hid (∀ (w : World) (A : Option Addr) (n : Nat), Rs w A n u.aN → Rs w A n v.aN) := fun w A n h => by rw [hv]; exact h
   have J3 : Hid (∀ (A : Option Addr) (n c : Nat), Sh u n c → ∀ w : World, Rs w A n u.aN → Env w → Calls Tryz.prog 13 #[.agg #[.string (strOf u.aj), .string (strOf u.usr), .string (strOf u.dR), .string (strOf u.hst), .bool u.hh, .int .i64 u.port, .bool u.opq, .string (strOf u.txt), .slice A n c, .bool u.hq, .bool u.hf, .string (strOf u.eF), .string (strOf u.fG)]] w fun e w' => (∃ A1 c1 A2 c2, e = .returned (.tuple #[.agg #[.string (strOf M.ty), .string (strOf M.sub), .slice A1 M.ps.length c1], .slice A2 B.length c2, .int .i64 er]) ∧ Mp w' M A1 c1 ∧ Bp w' B A2 c2) ∧ Below w.heap.size w w') := fun A n c hS w hR E => by
    have k := qA hS w hR E
    rw [hMB, ← her] at k
    exact k
   have HPV : Hid (∀ (A : Option Addr) (n c : Nat), Sh v n c → ∀ w : World, Rs w A n v.aN → Env w → Calls Tryz.prog 13 #[.agg #[.string (strOf v.aj), .string (strOf v.usr), .string (strOf v.dR), .string (strOf v.hst), .bool v.hh, .int .i64 v.port, .bool v.opq, .string (strOf v.txt), .slice A n c, .bool v.hq, .bool v.hf, .string (strOf v.eF), .string (strOf v.fG)]] w fun e w' => (∃ A1 c1 A2 c2, e = .returned (.tuple #[.agg #[.string (strOf M.ty), .string (strOf M.sub), .slice A1 M.ps.length c1], .slice A2 B.length c2, .int .i64 er]) ∧ Mp w' M A1 c1 ∧ Bp w' B A2 c2) ∧ Below w.heap.size w w') := fun A n c hS w hR E => by
    have k := qA hS w hR E
    rw [hMB2, ← her2] at k
    exact k
   have Ug : Hid (∀ (A A2 : Option Addr) (c c2 : Nat) (w : World), Mp w M A c → Mp w M A2 c2 → Calls Tryz.prog 18 #[.agg #[.string (strOf M.ty), .string (strOf M.sub), .slice A M.ps.length c], .agg #[.string (strOf M.ty), .string (strOf M.sub), .slice A2 M.ps.length c2]] w fun e w' => e = .returned (.bool true) ∧ Below w.heap.size w w') := fun A A2 c c2 w h k => same_m w h k
   obtain ⟨SB, hSB⟩ : ∃ S, S = strOf B := ⟨_, rfl⟩
   have xq := hid hSB
   have qs : (SB.toList == SB.toList) = true := beq_self_eq_true _
   have qe : (er == er) = true := beq_self_eq_true _
   clear e1 hv hMB her hMB2 her2 hfit hSB hl h0
   go_enter Tryz.func4, Tryz.ntmps4
   go_wp2_with fail
   refine (Ws.out _ HE.out).mono ?_
   rintro e w1 ⟨rfl, hb⟩
   have HB1 := hid hb
   have JU := hid (HE.out.below hb)
   clear hb
   go_wp2_with fail
   refine (HP1.out _ JU.out).mono ?_
   rintro e w2 ⟨A1, n1, c1, rfl, hpt, hb⟩
   have HB2 := hid (bel HB1.out hb)
   have TN := hid (JU.out.below hb)
   clear hb
   have T1 := hid (hpt)
   clear hpt
   go_upto_region 4 with (fail)
   generalize gI : World.alloc _ _ = v3
   have hxa : UB v3 (w2.heap.size) u (.slice A1 n1 c1) := by rw [← gI]; exact heap_alloc_new _ _
   have hb : Below w2.heap.size w2 v3 := by rw [← gI]; exact (Below.refl _ _).alloc (Nat.le_refl _) _
   have X1 := hid hxa
   clear gI hxa
   have HB3 := hid (bel HB2.out hb)
   have MW := hid (TN.out.below hb)
   have Yq := hid (T1.out.below hb)
   clear hb
   obtain ⟨ka0, ka1, ka2, ka3, ka4, ka5, ka6, ka7, ka8, ka9, Oy, Oz, OB⟩ := X1.out.facts
   go_upto_region 7 with (fail)
   clear ka0 ka1 ka2 ka3 ka4 ka5 ka6 ka7 ka8 ka9 Oy Oz OB
   generalize gI : World.alloc _ _ = wa
   have hxa : UB wa (v3.heap.size) u (.slice A1 n1 c1) := by rw [← gI]; exact heap_alloc_new _ _
   have hba : Below v3.heap.size v3 wa := by rw [← gI]; exact (Below.refl _ _).alloc (Nat.le_refl _) _
   have hx1 : UB wa _ u (.slice A1 n1 c1) := UB.below X1.out hba
   have cx := hx1.facts.2.2.2.2.2.2.2.2.2.2.1
   have e0 := hxa.facts.2.2.2.2.2.2.2.2.2.2.1
   have e2 := hxa.facts.2.2.2.2.2.2.2.2.2.2.2.2
   have f0 := hxa.thaw.2.2.2.2.2.2.2.2.2.2.1
   have f2 := hxa.thaw.2.2.2.2.2.2.2.2.2.2.2.2
   go_upto_region 8 with (fail)
   clear cx f0 f2 e0 e2
   have hx2 := (hxa.hf (!u.hf)).fG F
   have hb := (hba.setCell (p := ⟨v3.heap.size, 10, none⟩) (Nat.le_refl _) (.bool !u.hf)).setCell (p := ⟨v3.heap.size, 12, none⟩) (Nat.le_refl _) (.string (strOf F))
   generalize World.setCell (World.setCell wa _ _) _ _ = wq at hx2 hb ⊢
   have X2 : Hid (UB wq (v3.heap.size) v (.slice A1 n1 c1)) := by show UB _ _ _ _; rw [HV.out]; exact hx2
   clear gI hxa hba hx1 hx2
   have HB4 := hid (bel HB3.out hb)
   have Ya := hid (MW.out.below hb)
   have aaY := hid (Yq.out.below hb)
   have aa0 := hid (X1.out.below hb)
   clear hb
   obtain ⟨hS1, hR1⟩ := HFI.out _ _ _ _ aaY.out
   have FT := hid hS1
   have HR1 := hid hR1
   clear hS1 hR1
   obtain ⟨ka0, ka1, ka2, ka3, ka4, ka5, ka6, ka7, ka8, ka9, Oy, Oz, OB⟩ := aa0.out.facts
   go_wp2_with fail
   clear ka0 ka1 ka2 ka3 ka4 ka5 ka6 ka7 ka8 ka9 Oy Oz OB
   refine (J3.out _ _ _ FT.out _ HR1.out Ya.out).mono ?_
   rintro e w5 ⟨⟨A3, c3, A4, c4, rfl, hmp, hbp⟩, hb⟩
   have mO := hid (bel HB4.out hb)
   have E_5 := hid (Ya.out.below hb)
   have T1_5 := hid (aaY.out.below hb)
   have X1_5 := hid (aa0.out.below hb)
   have X2_5 := hid (X2.out.below hb)
   have HR1_5 := hid (HR1.out.below hb)
   clear hb
   have M3 := hid (hmp)
   have B4 := hid (hbp)
   clear hmp hbp
   go_upto_region 9 with (fail)
   generalize gI : World.alloc _ _ = v6
   have hxa : B3 29 v6 (w5.heap.size) (.string (strOf M.ty)) (.string (strOf M.sub)) (.slice A3 M.ps.length c3) := by rw [← gI]; exact heap_alloc_new _ _
   have hb : Below w5.heap.size w5 v6 := by rw [← gI]; exact (Below.refl _ _).alloc (Nat.le_refl _) _
   have X3 := hid hxa
   clear gI hxa
   have sW := hid (bel mO.out hb)
   have E_6 := hid (E_5.out.below hb)
   have T1_6 := hid (T1_5.out.below hb)
   have X1_6 := hid (X1_5.out.below hb)
   have X2_6 := hid (X2_5.out.below hb)
   have HR1_6 := hid (HR1_5.out.below hb)
   have M3_6 := hid (M3.out.below hb)
   have B4_6 := hid (B4.out.below hb)
   clear hb
   obtain ⟨ka0, ka1, ka2, ka3, ka4, ka5, ka6, ka7, ka8, ka9, Oy, Oz, OB⟩ := X2_6.out.facts
   go_wp2_with fail
   clear ka0 ka1 ka2 ka3 ka4 ka5 ka6 ka7 ka8 ka9 Oy Oz OB
   refine (HPV.out _ _ _ (HF2.out _ _ FT.out) _ (HR2.out _ _ _ HR1_6.out) E_6.out).mono ?_
   rintro e w7 ⟨⟨A5, c5, A6, c6, rfl, hmp, hbp⟩, hb⟩
   have rD := hid (bel sW.out hb)
   have E_7 := hid (E_6.out.below hb)
   have T1_7 := hid (T1_6.out.below hb)
   have X1_7 := hid (X1_6.out.below hb)
   have X2_7 := hid (X2_6.out.below hb)
   have HR1_7 := hid (HR1_6.out.below hb)
   have M3_7 := hid (M3_6.out.below hb)
   have B4_7 := hid (B4_6.out.below hb)
   have X3_7 := hid (X3.out.below hb)
   clear hb
   have M5 := hid (hmp)
   have B6 := hid (hbp)
   clear hmp hbp
   go_upto_region 10 with (fail)
   generalize gI : World.alloc _ _ = v8
   have hxa : B3 29 v8 (w7.heap.size) (.string (strOf M.ty)) (.string (strOf M.sub)) (.slice A5 M.ps.length c5) := by rw [← gI]; exact heap_alloc_new _ _
   have hb : Below w7.heap.size w7 v8 := by rw [← gI]; exact (Below.refl _ _).alloc (Nat.le_refl _) _
   have X4 := hid hxa
   clear gI hxa
   have PO := hid (bel rD.out hb)
   have E_8 := hid (E_7.out.below hb)
   have T1_8 := hid (T1_7.out.below hb)
   have X1_8 := hid (X1_7.out.below hb)
   have X2_8 := hid (X2_7.out.below hb)
   have HR1_8 := hid (HR1_7.out.below hb)
   have M3_8 := hid (M3_7.out.below hb)
   have B4_8 := hid (B4_7.out.below hb)
   have X3_8 := hid (X3_7.out.below hb)
   have M5_8 := hid (M5.out.below hb)
   have B6_8 := hid (B6.out.below hb)
   clear hb
   obtain ⟨m0, m1, m2⟩ := X3_8.out.facts
   obtain ⟨n0, n1, n2⟩ := X4.out.facts
   go_wp2_with fail
   clear m0 m1 m2 n0 n1 n2
   refine (Ug.out _ _ _ _ _ M3_8.out M5_8.out).mono ?_
   rintro e wz ⟨rfl, hb⟩
   have HB9 := hid (bel PO.out hb)
   have E_9 := hid (E_8.out.below hb)
   have T1_9 := hid (T1_8.out.below hb)
   have X1_9 := hid (X1_8.out.below hb)
   have X2_9 := hid (X2_8.out.below hb)
   have HR1_9 := hid (HR1_8.out.below hb)
   have M3_9 := hid (M3_8.out.below hb)
   have B4_9 := hid (B4_8.out.below hb)
   have X3_9 := hid (X3_8.out.below hb)
   have M5_9 := hid (M5_8.out.below hb)
   have B6_9 := hid (B6_8.out.below hb)
   have X4_9 := hid (X4.out.below hb)
   clear hb
   have hs := aQ (P := Tryz.prog) 30 9 5 Tryz.underlying30 Tryz.underlying5 Tryz.underlying9 _ c4 B4_9.out.OW
   rw [← xq.out] at hs
   have ht := aQ (P := Tryz.prog) 30 9 5 Tryz.underlying30 Tryz.underlying5 Tryz.underlying9 _ c6 B6_9.out.OW
   rw [← xq.out] at ht
   go_wp2
   go_ret
   exact ⟨rfl, HB9.out⟩
 ·have hli : (1000 : Int) < (s0.size : Int) := by omega
  clear hl h0
  go_enter Tryz.func4, Tryz.ntmps4
  go_wp2_with fail
  refine (Ws.out _ HE.out).mono ?_
  rintro e w1 ⟨rfl, hb⟩
  have HB1 := hid hb
  have JU := hid (HE.out.below hb)
  clear hb
  go_wp2_with fail
  refine (Ws.out _ JU.out).mono ?_
  rintro e w2 ⟨rfl, hb⟩
  have HB2 := hid (bel HB1.out hb)
  have TN := hid (JU.out.below hb)
  clear hb
  go_wp2
  go_ret
  exact ⟨rfl, HB2.out⟩
end Go.Proofs.YtcfgioklgmlclaaGreatDoor.Laws
