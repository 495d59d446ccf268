/- Texts that belong together: Law18b. -/
import Derived.Test.YtcfgioklgmlclaaGreatDoorPM
set_option linter.unusedSimpArgs false
set_option linter.unusedVariables false
set_option maxRecDepth 100000
set_option maxHeartbeats 64000000
namespace Go.Proofs.YtcfgioklgmlclaaGreatDoor.Laws
open Go.RowKit Base aP fE aH tZ Uo Ulw uq qL lJ MV rC X7 Nk Qv kX Fh J8 aas aaE acg xu Um aam Ul aeI BuiD
open Go.Proofs.YtcfgioklgmlclaaGreatDoor.dD (Dp)
open Go.Proofs.YtcfgioklgmlclaaGreatDoor.aeJ (aaj)
theorem aaU {M : MT} (h : aar (strOf M.ty) (strOf M.sub) (mF M.ps)) : (dX M.ty M.sub M.ps).length ≤ 20000 := by
 obtain ⟨h1, h2, h3⟩ := h
 have := XA h3 (mF M.ps).length (Nat.le_refl _)
 rw [aeu, acA] at this
 have h4 := aew (strOf M.ty) (strOf M.sub)
 have h5 : (ess M.ty M.sub).length = (strOf M.ty).size + (strOf M.sub).size + 1 := h4
 unfold dX
 rw [List.length_append, h5]
 omega
theorem aeo (letters : Bool) {M : MT} (h : aar (strOf M.ty) (strOf M.sub) (mF M.ps)) (B : List UInt8) (hB : B.length ≤ 500) : (mk letters M B).length ≤ 26000 := by
 have h1 := aaU h
 unfold mk made Ag Ti
 cases letters with
 | true =>
  rw [if_pos rfl, List.length_append, List.length_append, List.length_append, List.length_cons, aad.aal]
  show 5 + (_ + (7 + _)) ≤ _
  omega
 | false =>
  rw [if_neg (by decide), List.length_append, List.length_append, List.length_cons]
  have := aeH.aat B
  show 5 + _ ≤ _
  omega
theorem aeS {letters : Bool} {M : MT} {B R : List UInt8} {e : Int} (h : bld letters M B = (R, e)) : (e = 0 ∧ R = mk letters M B ∧ Af (mk letters M B) M B = true) ∨ (¬ e = 0 ∧ R = []) := by
 unfold bld at h
 split at h
 ·split at h
  ·injection h with h1 h2; exact .inr ⟨by omega, h1.symm⟩
  ·split at h
   ·injection h with h1 h2; exact .inr ⟨by omega, h1.symm⟩
   ·split at h
    ·rename_i hs
     injection h with h1 h2
     exact .inl ⟨h2.symm, h1.symm, hs⟩
    ·injection h with h1 h2; exact .inr ⟨by omega, h1.symm⟩
 ·injection h with h1 h2; exact .inr ⟨by omega, h1.symm⟩
theorem ae1 {N M : MT} (h : same2 N M = true) : N = M := by
 unfold same2 Nk.Jq at h
 rw [Bool.and_eq_true, Bool.and_eq_true, decide_eq_true_iff, decide_eq_true_iff, decide_eq_true_iff] at h
 obtain ⟨h1, h2, h3⟩ := h
 have g : ∀ a b : List UInt8, strOf a = strOf b → a = b := fun a b e => by have := congrArg (fun s : ByteArray => s.data.toList) e; exact this
 have h4 : N.ps = M.ps := by rw [← acA N.ps, h3, acA]
 cases N; cases M
 simp only [MT.mk.injEq]
 exact ⟨g _ _ h1, g _ _ h2, h4⟩
theorem acB {s : List UInt8} {M : MT} {B : List UInt8} (h : Af s M B = true) : ∃ u, aH.url s none = some u ∧ AY u = 0 ∧ tH u = (M, B) := by
 unfold Af at h
 cases e : aH.url s none with
 | none => rw [e] at h; cases h
 | some u =>
  rw [e] at h
  simp only [Bool.and_eq_true, decide_eq_true_iff] at h
  obtain ⟨h1, h2, h3⟩ := h
  refine ⟨u, rfl, h1, ?_⟩
  rw [← ae1 h2, ← h3]
theorem aaz (T S : ByteArray) (A : Option Addr) (n cap : Nat) (l : List (ByteArray × ByteArray)) (A1 : Option Addr) (n1 c1 : Nat) (L : List UInt8) (w : World) (hTs : T.size ≤ 140737488351232) (hSs : S.size ≤ 140737488351232) (hr : uq.kV w A n l) (hc : n ≤ cap) (hm : cap ≤ maxLen) (hsh : Ul.Short l) (hrd : dS w A1 n1 (ak L)) (hc1 : n1 ≤ c1) (_z : c1 * 1 ≤ 140737488351232) (hT : Tab.Pow w) (hL : pR w) (hM : Max w) (hU : uw w) :
  Calls Tryz.prog 10 #[.agg #[.string T, .string S, .slice A n cap], .slice A1 n1 c1] w fun e w' => e = .returned (.bool true) ∧ Below w.heap.size w w' := by
 have HE := hid (⟨hT, hL, hM, hU⟩ : Env w)
 have Ws : Hid (∀ w : World, Env w → Calls Tryz.prog 22 #[] w fun e w' => e = .returned (.bool true) ∧ Below w.heap.size w w') := fun w E => aeJ.Ep w E
 have hll : l.length = n := hr.1
 obtain ⟨M, hMd⟩ : ∃ M : MT, M = ⟨T.data.toList, S.data.toList, vM l⟩ := ⟨_, rfl⟩
 have hval : Value.agg #[.string T, .string S, .slice A n cap] = .agg #[.string (strOf M.ty), .string (strOf M.sub), .slice A M.ps.length cap] := by rw [hMd]; simp only [ay]; rw [Cm, hll]
 have hps : mF M.ps = l := by rw [hMd]; exact psS_P l
 have hpl : M.ps.length = n := by rw [hMd]; show (vM l).length = n; rw [Cm, hll]
 have hmp : Mp w M A cap := ⟨by rw [hpl]; exact hc, hm, by rw [hpl, hps]; exact hr⟩
 have HMP := hid hmp
 have WB := hid hrd
 have hlL : L.length = n1 := by rw [← bF]; exact hrd.1
 have hty : (strOf M.ty).size ≤ 140737488351232 := by rw [hMd]; simp only [ay]; exact hTs
 have hsb : (strOf M.sub).size ≤ 140737488351232 := by rw [hMd]; simp only [ay]; exact hSs
 have HFW : Hid (∀ w : World, Mp w M A cap → Calls Tryz.prog 23 #[.agg #[.string (strOf M.ty), .string (strOf M.sub), .slice A M.ps.length cap]] w (WH w (strOf M.ty) (strOf M.sub) (mF M.ps))) := fun w h => Um.Oh (strOf M.ty) (strOf M.sub) A M.ps.length cap (mF M.ps) w h.prm h.nc h.cm (by rw [hps]; exact hsh) hty hsb
 have HBD : Hid (n1 ≤ 500 → aar (strOf M.ty) (strOf M.sub) (mF M.ps) → ∀ (letters : Bool) (w : World), Mp w M A cap → dS w A1 n1 (ak L) → Env w → Calls Tryz.prog 25 #[.agg #[.string (strOf M.ty), .string (strOf M.sub), .slice A M.ps.length cap], .slice A1 n1 c1, .bool letters] w fun e w' => e = .returned (.tuple #[.string (strOf (bld letters M L).1), .int .i64 (bld letters M L).2]) ∧ Below w.heap.size w w') := fun hn hF letters w h k E =>
  aak letters M A cap A1 n1 c1 L w h k hc1 (by omega) E (fun w' h' => aaj hF w' h') (by have := aaU hF; omega) (aam.aar.mid hF) (.inl (aeo letters hF L (by omega)))
 have HLN := hid hlL
 rw [hval]
 clear hval hps hpl hmp hty hsb hMd hll hTs hSs hr hc hm hsh hrd hc1 _z hT hL hM hU hlL
 go_enter Tryz.func10, Tryz.ntmps10
 go_upto_region 1 with (fail)
 generalize gI : World.alloc _ _ = v1
 have hxa : B3 29 v1 (w.heap.size) (.string (strOf M.ty)) (.string (strOf M.sub)) (.slice A M.ps.length cap) := by rw [← gI]; exact heap_alloc_new _ _
 have hb : Below w.heap.size w v1 := by rw [← gI]; exact (Below.refl _ _).alloc (Nat.le_refl _) _
 have XM := hid hxa
 clear gI hxa
 have HB1 := hid hb
 have JU := hid (HE.out.below hb)
 have ace := hid (HMP.out.below hb)
 have RD_1 := hid (WB.out.below hb)
 clear hb
 go_wp2_with fail
 refine (Ws.out _ JU.out).mono ?_
 rintro e w2 ⟨rfl, hb⟩
 have HB2 := hid (bel HB1.out hb)
 have TN := hid (JU.out.below hb)
 have aa2 := hid (ace.out.below hb)
 have RD_2 := hid (RD_1.out.below hb)
 have aa3 := hid (XM.out.below hb)
 clear hb
 obtain ⟨m0, m1, m2⟩ := aa3.out.facts
 go_wp2_with fail
 clear m0 m1 m2
 refine (HFW.out _ aa2.out).mono ?_
 rintro e wf ⟨fb, rfl, hfb, hb⟩
 have HB3 := hid (bel HB2.out hb)
 have MW := hid (TN.out.below hb)
 have aaG := hid (aa2.out.below hb)
 have aeh := hid (RD_2.out.below hb)
 have aaH := hid (aa3.out.below hb)
 clear hb
 cases fb with
 | false =>
  clear hfb
  go_wp2_with fail
  refine (Ws.out _ MW.out).mono ?_
  rintro e w4 ⟨rfl, hb⟩
  have HB4 := hid (bel HB3.out hb)
  have Ya := hid (MW.out.below hb)
  have aee := hid (aaG.out.below hb)
  have aei := hid (aeh.out.below hb)
  have aaT := hid (aaH.out.below hb)
  clear hb
  go_wp2
  go_ret
  exact ⟨rfl, HB4.out⟩
 | true =>
  have hF := hfb rfl
  have HF := hid hF
  clear hfb hF
  by_cases hn : n1 ≤ 500
  ·
   have hni : ¬ (500 : Int) < (n1 : Int) := by omega
   have HB0 := hid (HBD.out hn HF.out)
   clear HBD hn
   obtain ⟨R1, e1, hb1⟩ : ∃ R e, bld true M L = (R, e) := ⟨_, _, rfl⟩
   obtain ⟨R2, e2, hb2⟩ : ∃ R e, bld false M L = (R, e) := ⟨_, _, rfl⟩
   have hk1 := HB0.out true
   have hk2 := HB0.out false
   rw [hb1] at hk1
   rw [hb2] at hk2
   have HK1 := hid hk1
   have HK2 := hid hk2
   have ho1 := aeS hb1
   have ho2 := aeS hb2
   obtain ⟨X1, hX1⟩ : ∃ X, X = strOf R1 := ⟨_, rfl⟩
   obtain ⟨X2, hX2⟩ : ∃ X, X = strOf R2 := ⟨_, rfl⟩
   have HK1b : Hid (∀ w : World, Mp w M A cap → dS w A1 n1 (ak L) → Env w → Calls Tryz.prog 25 #[.agg #[.string (strOf M.ty), .string (strOf M.sub), .slice A M.ps.length cap], .slice A1 n1 c1, .bool true] w fun e w' => e = .returned (.tuple #[.string X1, .int .i64 e1]) ∧ Below w.heap.size w w') := by rw [hX1]; exact hk1
   have HK2b : Hid (∀ w : World, Mp w M A cap → dS w A1 n1 (ak L) → Env w → Calls Tryz.prog 25 #[.agg #[.string (strOf M.ty), .string (strOf M.sub), .slice A M.ps.length cap], .slice A1 n1 c1, .bool false] w fun e w' => e = .returned (.tuple #[.string X2, .int .i64 e2]) ∧ Below w.heap.size w w') := by rw [hX2]; exact hk2
   clear HK1 HK2 hk1 hk2 hb1 hb2 HB0
   have HO1 := hid ho1
   have jI := hid ho2
   have jr := hid hX1
   have iG := hid hX2
   clear ho1 ho2 hX1 hX2
   obtain ⟨m0, m1, m2⟩ := aaH.out.facts
   go_wp2_with fail
   clear m0 m1 m2
   refine (HK1b.out _ aaG.out aeh.out MW.out).mono ?_
   rintro e w4 ⟨rfl, hb⟩
   have HB4 := hid (bel HB3.out hb)
   have Ya := hid (MW.out.below hb)
   have aee := hid (aaG.out.below hb)
   have aei := hid (aeh.out.below hb)
   have aaT := hid (aaH.out.below hb)
   clear hb
   obtain ⟨m0, m1, m2⟩ := aaT.out.facts
   go_wp2_with fail
   clear m0 m1 m2
   refine (HK2b.out _ aee.out aei.out Ya.out).mono ?_
   rintro e w5 ⟨rfl, hb⟩
   have mO := hid (bel HB4.out hb)
   have E_5 := hid (Ya.out.below hb)
   have MP_5 := hid (aee.out.below hb)
   have RD_5 := hid (aei.out.below hb)
   have aeQ := hid (aaT.out.below hb)
   clear hb
   rcases HO1.out with ⟨he1, hr1, hs1⟩ | ⟨he1, hr1⟩
   ·
    subst he1
    rcases jI.out with ⟨he2, hr2, hs2⟩ | ⟨he2, hr2⟩
    ·
     subst he2
     obtain ⟨u, e1, er1, an1⟩ := acB hs1
     obtain ⟨v, e2, er2, an2⟩ := acB hs2
     rw [← hr1] at e1
     rw [← hr2] at e2
     have hx1 : X1.data.toList = R1 := by rw [jr.out]; rfl
     have hx2 : X2.data.toList = R2 := by rw [iG.out]; rfl
     have hz1 : X1.size ≤ 26000 := by rw [jr.out, ah, hr1]; exact aeo true HF.out L (by rw [HLN.out]; omega)
     have hz2 : X2.size ≤ 26000 := by rw [iG.out, ah, hr2]; exact aeo false HF.out L (by rw [HLN.out]; omega)
     rw [← hx1] at e1
     rw [← hx2] at e2
     have f1 := xY.XY (M := 0) e1 (fun _ e => by cases e)
     have f2 := xY.XY (M := 0) e2 (fun _ e => by cases e)
     have HF1 : Hid (∀ (w : World) (A : Option Addr) (n c : Nat), Pt w u A n c → Sh u n c ∧ Rs w A n u.aN) := fun w A n c h => ⟨ab5 f1 (by rw [rC.dl]; omega) h, ⟨h.aN.1⟩⟩
     have HF2 : Hid (∀ (w : World) (A : Option Addr) (n c : Nat), Pt w v A n c → Sh v n c ∧ Rs w A n v.aN) := fun w A n c h => ⟨ab5 f2 (by rw [rC.dl]; omega) h, ⟨h.aN.1⟩⟩
     have HP1 : Hid (∀ w, Env w → Calls Tryz.prog 16 #[.string X1, .pointer none] w fun e w' => ∃ A' n' c', e = .returned (.tuple #[.agg #[.string (strOf u.aj), .string (strOf u.usr), .string (strOf u.dR), .string (strOf u.hst), .bool u.hh, .int .i64 u.port, .bool u.opq, .string (strOf u.txt), .slice A' n' c', .bool u.hq, .bool u.hf, .string (strOf u.eF), .string (strOf u.fG)], .int .i64 0]) ∧ Pt w' u A' n' c' ∧ Below w.heap.size w w') := fun w E => I4 e1 (by omega) w E
     have HP2 : Hid (∀ w, Env w → Calls Tryz.prog 16 #[.string X2, .pointer none] w fun e w' => ∃ A' n' c', e = .returned (.tuple #[.agg #[.string (strOf v.aj), .string (strOf v.usr), .string (strOf v.dR), .string (strOf v.hst), .bool v.hh, .int .i64 v.port, .bool v.opq, .string (strOf v.txt), .slice A' n' c', .bool v.hq, .bool v.hf, .string (strOf v.eF), .string (strOf v.fG)], .int .i64 0]) ∧ Pt w' v A' n' c' ∧ Below w.heap.size w w') := fun w E => I4 e2 (by omega) w E
     have HC1 : Hid (∀ (A : Option Addr) (n c : Nat), Sh u n c → ∀ w : World, Rs w A n u.aN → Env w → Calls Tryz.prog 13 #[.agg #[.string (strOf u.aj), .string (strOf u.usr), .string (strOf u.dR), .string (strOf u.hst), .bool u.hh, .int .i64 u.port, .bool u.opq, .string (strOf u.txt), .slice A n c, .bool u.hq, .bool u.hf, .string (strOf u.eF), .string (strOf u.fG)]] w fun e w' => (∃ A1 c1 A2 c2, e = .returned (.tuple #[.agg #[.string (strOf M.ty), .string (strOf M.sub), .slice A1 M.ps.length c1], .slice A2 L.length c2, .int .i64 0]) ∧ Mp w' M A1 c1 ∧ Bp w' L A2 c2) ∧ Below w.heap.size w w') := fun A n c hS w hR E => by
      have k := qA hS w hR E
      rw [an1, er1] at k
      exact k
     have HC2 : Hid (∀ (A : Option Addr) (n c : Nat), Sh v n c → ∀ w : World, Rs w A n v.aN → Env w → Calls Tryz.prog 13 #[.agg #[.string (strOf v.aj), .string (strOf v.usr), .string (strOf v.dR), .string (strOf v.hst), .bool v.hh, .int .i64 v.port, .bool v.opq, .string (strOf v.txt), .slice A n c, .bool v.hq, .bool v.hf, .string (strOf v.eF), .string (strOf v.fG)]] w fun e w' => (∃ A1 c1 A2 c2, e = .returned (.tuple #[.agg #[.string (strOf M.ty), .string (strOf M.sub), .slice A1 M.ps.length c1], .slice A2 L.length c2, .int .i64 0]) ∧ Mp w' M A1 c1 ∧ Bp w' L A2 c2) ∧ Below w.heap.size w w') := fun A n c hS w hR E => by
      have k := qA hS w hR E
      rw [an2, er2] at k
      exact k
     have Ug : Hid (∀ (A A2 : Option Addr) (c c2 : Nat) (w : World), Mp w M A c → Mp w M A2 c2 → Calls Tryz.prog 18 #[.agg #[.string (strOf M.ty), .string (strOf M.sub), .slice A M.ps.length c], .agg #[.string (strOf M.ty), .string (strOf M.sub), .slice A2 M.ps.length c2]] w fun e w' => e = .returned (.bool true) ∧ Below w.heap.size w w') := fun A A2 c c2 w h k => by
      have h1 := Nk.SI (strOf M.ty) (strOf M.sub) A M.ps.length c (mF M.ps) (strOf M.ty) (strOf M.sub) A2 M.ps.length c2 (mF M.ps) w h.prm k.prm h.nc h.cm k.nc k.cm
      rw [Qv.EN] at h1
      exact h1
     obtain ⟨SL, hSL⟩ : ∃ S, S = strOf L := ⟨_, rfl⟩
     have HSL := hid hSL
     have qs : (SL.toList == SL.toList) = true := beq_self_eq_true _
     clear hSL e1 e2 er1 er2 an1 an2 hr1 hr2 hs1 hs2 hx1 hx2 hz1 hz2 f1 f2 HO1 jI HK1b HK2b Ws HFW
     go_wp2_with fail
     refine (HP1.out _ E_5.out).mono ?_
     rintro e w6 ⟨A1, n1, c1, rfl, hpt, hb⟩
     have sW := hid (bel mO.out hb)
     have E_6 := hid (E_5.out.below hb)
     have MP_6 := hid (MP_5.out.below hb)
     have RD_6 := hid (RD_5.out.below hb)
     have XM_6 := hid (aeQ.out.below hb)
     clear hb
     have T1 := hid (hpt)
     clear hpt
     go_upto_region 8 with (fail)
     generalize gI : World.alloc _ _ = v7
     have hxa : UB v7 (w6.heap.size) u (.slice A1 n1 c1) := by rw [← gI]; exact heap_alloc_new _ _
     have hb : Below w6.heap.size w6 v7 := by rw [← gI]; exact (Below.refl _ _).alloc (Nat.le_refl _) _
     have X1 := hid hxa
     clear gI hxa
     have rD := hid (bel sW.out hb)
     have E_7 := hid (E_6.out.below hb)
     have MP_7 := hid (MP_6.out.below hb)
     have RD_7 := hid (RD_6.out.below hb)
     have XM_7 := hid (XM_6.out.below hb)
     have T1_7 := hid (T1.out.below hb)
     clear hb
     go_wp2_with fail
     refine (HP2.out _ E_7.out).mono ?_
     rintro e w8 ⟨A2, n2, c2, rfl, hpt, hb⟩
     have PO := hid (bel rD.out hb)
     have E_8 := hid (E_7.out.below hb)
     have MP_8 := hid (MP_7.out.below hb)
     have RD_8 := hid (RD_7.out.below hb)
     have XM_8 := hid (XM_7.out.below hb)
     have T1_8 := hid (T1_7.out.below hb)
     have X1_8 := hid (X1.out.below hb)
     clear hb
     have T2 := hid (hpt)
     clear hpt
     go_upto_region 9 with (fail)
     generalize gI : World.alloc _ _ = v9
     have hxa : UB v9 (w8.heap.size) v (.slice A2 n2 c2) := by rw [← gI]; exact heap_alloc_new _ _
     have hb : Below w8.heap.size w8 v9 := by rw [← gI]; exact (Below.refl _ _).alloc (Nat.le_refl _) _
     have X2 := hid hxa
     clear gI hxa
     have HB9 := hid (bel PO.out hb)
     have E_9 := hid (E_8.out.below hb)
     have MP_9 := hid (MP_8.out.below hb)
     have RD_9 := hid (RD_8.out.below hb)
     have XM_9 := hid (XM_8.out.below hb)
     have T1_9 := hid (T1_8.out.below hb)
     have X1_9 := hid (X1_8.out.below hb)
     have T2_9 := hid (T2.out.below hb)
     clear hb
     obtain ⟨hS, hR⟩ := HF1.out _ _ _ _ T1_9.out
     have HSa := hid hS
     have HRa := hid hR
     clear hS hR
     obtain ⟨k0, k1, k2, k3, k4, k5, k6, k7, k8, k9, k10, k11, k12⟩ := X1_9.out.facts
     go_wp2_with fail
     clear k0 k1 k2 k3 k4 k5 k6 k7 k8 k9 k10 k11 k12
     refine (HC1.out _ _ _ HSa.out _ HRa.out E_9.out).mono ?_
     rintro e w10 ⟨⟨A3, c3, A4, c4, rfl, hmp, hbp⟩, hb⟩
     have HB10 := hid (bel HB9.out hb)
     have E_10 := hid (E_9.out.below hb)
     have MP_10 := hid (MP_9.out.below hb)
     have RD_10 := hid (RD_9.out.below hb)
     have XM_10 := hid (XM_9.out.below hb)
     have T1_10 := hid (T1_9.out.below hb)
     have X1_10 := hid (X1_9.out.below hb)
     have T2_10 := hid (T2_9.out.below hb)
     have X2_10 := hid (X2.out.below hb)
     clear hb
     clear HSa HRa
     have M3 := hid (hmp)
     have B4 := hid (hbp)
     clear hmp hbp
     go_upto_region 10 with (fail)
     generalize gI : World.alloc _ _ = v11
     have hxa : B3 29 v11 (w10.heap.size) (.string (strOf M.ty)) (.string (strOf M.sub)) (.slice A3 M.ps.length c3) := by rw [← gI]; exact heap_alloc_new _ _
     have hb : Below w10.heap.size w10 v11 := by rw [← gI]; exact (Below.refl _ _).alloc (Nat.le_refl _) _
     have Y3 := hid hxa
     clear gI hxa
     have HB11 := hid (bel HB10.out hb)
     have E_11 := hid (E_10.out.below hb)
     have MP_11 := hid (MP_10.out.below hb)
     have RD_11 := hid (RD_10.out.below hb)
     have XM_11 := hid (XM_10.out.below hb)
     have T1_11 := hid (T1_10.out.below hb)
     have X1_11 := hid (X1_10.out.below hb)
     have T2_11 := hid (T2_10.out.below hb)
     have X2_11 := hid (X2_10.out.below hb)
     have M3_11 := hid (M3.out.below hb)
     have B4_11 := hid (B4.out.below hb)
     clear hb
     obtain ⟨hS, hR⟩ := HF2.out _ _ _ _ T2_11.out
     have HSa := hid hS
     have HRa := hid hR
     clear hS hR
     obtain ⟨k0, k1, k2, k3, k4, k5, k6, k7, k8, k9, k10, k11, k12⟩ := X2_11.out.facts
     go_wp2_with fail
     clear k0 k1 k2 k3 k4 k5 k6 k7 k8 k9 k10 k11 k12
     refine (HC2.out _ _ _ HSa.out _ HRa.out E_11.out).mono ?_
     rintro e w12 ⟨⟨A5, c5, A6, c6, rfl, hmp, hbp⟩, hb⟩
     have HB12 := hid (bel HB11.out hb)
     have E_12 := hid (E_11.out.below hb)
     have MP_12 := hid (MP_11.out.below hb)
     have RD_12 := hid (RD_11.out.below hb)
     have XM_12 := hid (XM_11.out.below hb)
     have T1_12 := hid (T1_11.out.below hb)
     have X1_12 := hid (X1_11.out.below hb)
     have T2_12 := hid (T2_11.out.below hb)
     have X2_12 := hid (X2_11.out.below hb)
     have M3_12 := hid (M3_11.out.below hb)
     have B4_12 := hid (B4_11.out.below hb)
     have Y3_12 := hid (Y3.out.below hb)
     clear hb
     clear HSa HRa
     have M5 := hid (hmp)
     have B6 := hid (hbp)
     clear hmp hbp
     go_upto_region 11 with (fail)
     generalize gI : World.alloc _ _ = v13
     have hxa : B3 29 v13 (w12.heap.size) (.string (strOf M.ty)) (.string (strOf M.sub)) (.slice A5 M.ps.length c5) := by rw [← gI]; exact heap_alloc_new _ _
     have hb : Below w12.heap.size w12 v13 := by rw [← gI]; exact (Below.refl _ _).alloc (Nat.le_refl _) _
     have Y5 := hid hxa
     clear gI hxa
     have HB13 := hid (bel HB12.out hb)
     have E_13 := hid (E_12.out.below hb)
     have MP_13 := hid (MP_12.out.below hb)
     have RD_13 := hid (RD_12.out.below hb)
     have XM_13 := hid (XM_12.out.below hb)
     have T1_13 := hid (T1_12.out.below hb)
     have X1_13 := hid (X1_12.out.below hb)
     have T2_13 := hid (T2_12.out.below hb)
     have X2_13 := hid (X2_12.out.below hb)
     have M3_13 := hid (M3_12.out.below hb)
     have B4_13 := hid (B4_12.out.below hb)
     have Y3_13 := hid (Y3_12.out.below hb)
     have M5_13 := hid (M5.out.below hb)
     have B6_13 := hid (B6.out.below hb)
     clear hb
     obtain ⟨m0, m1, m2⟩ := Y3_13.out.facts
     obtain ⟨n0, n1', n2⟩ := Y5.out.facts
     go_wp2_with fail
     clear m0 m1 m2 n0 n1' n2
     refine (Ug.out _ _ _ _ _ M3_13.out M5_13.out).mono ?_
     rintro e wz ⟨rfl, hb⟩
     have HB14 := hid (bel HB13.out hb)
     have E_14 := hid (E_13.out.below hb)
     have MP_14 := hid (MP_13.out.below hb)
     have RD_14 := hid (RD_13.out.below hb)
     have XM_14 := hid (XM_13.out.below hb)
     have T1_14 := hid (T1_13.out.below hb)
     have X1_14 := hid (X1_13.out.below hb)
     have T2_14 := hid (T2_13.out.below hb)
     have X2_14 := hid (X2_13.out.below hb)
     have M3_14 := hid (M3_13.out.below hb)
     have B4_14 := hid (B4_13.out.below hb)
     have Y3_14 := hid (Y3_13.out.below hb)
     have M5_14 := hid (M5_13.out.below hb)
     have B6_14 := hid (B6_13.out.below hb)
     have Y5_14 := hid (Y5.out.below hb)
     clear hb
     have hs := aQ (P := Tryz.prog) 30 9 5 Tryz.underlying30 Tryz.underlying5 Tryz.underlying9 _ c4 B4_14.out.OW
     rw [← HSL.out] at hs
     have ht := aQ (P := Tryz.prog) 30 9 5 Tryz.underlying30 Tryz.underlying5 Tryz.underlying9 _ c6 B6_14.out.OW
     rw [← HSL.out] at ht
     go_wp2
     go_ret
     exact ⟨rfl, HB14.out⟩
    ·
     have q1 : (e2 == 0) = false := by rw [beq_eq_false_iff_ne]; exact he2
     have hx2 : X2.toList = [] := by rw [iG.out, hr2, rC.aK]
     have q2 : (X2.toList == []) = true := by rw [hx2]; rfl
     clear hr1 hs1 hr2
     go_wp2
     go_ret
     exact ⟨rfl, mO.out⟩
   ·
    have q1 : (e1 == 0) = false := by rw [beq_eq_false_iff_ne]; exact he1
    have hx1 : X1.toList = [] := by rw [jr.out, hr1, rC.aK]
    have q2 : (X1.toList == []) = true := by rw [hx1]; rfl
    clear hr1
    go_wp2
    go_ret
    exact ⟨rfl, mO.out⟩
  ·
   have hni : (500 : Int) < (n1 : Int) := by omega
   clear hn
   go_wp2_with fail
   refine (Ws.out _ MW.out).mono ?_
   rintro e w4 ⟨rfl, hb⟩
   have HB4 := hid (bel HB3.out hb)
   have Ya := hid (MW.out.below hb)
   have aee := hid (aaG.out.below hb)
   have aei := hid (aeh.out.below hb)
   have aaT := hid (aaH.out.below hb)
   clear hb
   go_wp2
   go_ret
   exact ⟨rfl, HB4.out⟩
end Go.Proofs.YtcfgioklgmlclaaGreatDoor.Laws
