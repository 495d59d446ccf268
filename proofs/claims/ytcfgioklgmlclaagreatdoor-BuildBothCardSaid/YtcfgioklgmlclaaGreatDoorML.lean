/- Texts that belong together: PrsN, PrsR. -/
import Derived.Test.YtcfgioklgmlclaaGreatDoorMJ
import Derived.Test.YtcfgioklgmlclaaGreatDoorMK
import Derived.Test.YtcfgioklgmlclaaGreatDoorMH
set_option linter.unusedSimpArgs false
set_option linter.unusedVariables false
set_option maxRecDepth 100000
set_option maxHeartbeats 64000000
namespace Go.Proofs.YtcfgioklgmlclaaGreatDoor.PrsN
open Go.RowKit Base fZ aP eX fE pU AO qM ng aH xX tq Ej tZ Pbx AL Em Qy kX AA Fh aaO PrsF Un PrsI
theorem O5 (p : Parts) (w : World) (hs : p.rest.length ≤ 700000) (hL : pR w) (hT : Tab.Pow w) (hM : Max w) : Calls Tryz.prog 46 #[.agg (cu p), .pointer none] w (mG w (aH.resolve p none)) := by
 obtain ⟨s, rt, q, f, hq, hf⟩ := p
 simp only at hs
 obtain ⟨O, hO⟩ : ∃ O, O = aH.resolve ⟨s, rt, q, f, hq, hf⟩ none := ⟨_, rfl⟩
 rw [← hO]
 unfold aH.resolve at hO
 simp only at hO
 have HO := hid hO
 have Fe : Hid (∀ w : World, Calls Tryz.prog 97 #[.string (strOf s)] w fun e w' => e = .returned (.bool (special s)) ∧ w' = w) := fun w => jq (strOf s) w
 have JV : Hid (∀ w : World, pR w → Tab.Pow w → Max w → Calls Tryz.prog 102 #[.agg (cu ⟨s, rt, q, f, hq, hf⟩)] w (mG w (aH.plain ⟨s, rt, q, f, hq, hf⟩))) := fun w a c d => LW ⟨s, rt, q, f, hq, hf⟩ w (by show rt.length ≤ _; omega) a c d
 have HFN : Hid (∀ w : World, pR w → Tab.Pow w → Max w → Calls Tryz.prog 96 #[.string (strOf rt), .pointer none] w (mG w (file rt none))) := fun w a c d => Lj rt w hs a c d
 have FU : Hid (∀ w : World, Calls Tryz.prog 101 #[.string (strOf s)] w fun e w' => e = .returned (.string (cs (special s))) ∧ w' = w) := fun w => pK (strOf s) w
 have KH : Hid (∀ w : World, Calls Tryz.prog 100 #[.string (strOf rt), .string (cs true)] w fun e w' => e = .returned (.string (strOf (rt.dropWhile (fP true)))) ∧ Below w.heap.size w w') := fun w => wS rt w
 obtain ⟨T2, hT2⟩ : ∃ x, x = rt.dropWhile (fP true) := ⟨_, rfl⟩
 have Ol : T2.length ≤ 900000 := by rw [hT2]; have := (List.dropWhile_sublist (fP true) (l := rt)).length_le; omega
 rw [← hT2] at KH HO
 obtain ⟨OA, hOA⟩ : ∃ x, x = authority s T2 := ⟨_, rfl⟩
 have HAU : Hid (∀ w : World, pR w → Tab.Pow w → Max w → Calls Tryz.prog 99 #[.string (strOf s), .string (strOf T2)] w (mG w OA)) := fun w a b c => by rw [hOA]; exact oG s T2 w Ol a b c
 rw [← hOA] at HO
 have HL := hid hL
 have HT := hid hT
 have HM := hid hM
 clear hO hT2 hOA hL hT hM
 go_enter Tryz.func46, Tryz.ntmps46
 go_upto_region 1 with (fail)
 generalize hw : World.alloc (World.alloc w _) _ = w1
 have h1 : PB w1 (w.heap.size) (⟨s, rt, q, f, hq, hf⟩) ∧ UB w1 ((w.heap.size + 1)) (U0) (.slice none 0 0) ∧ Below w.heap.size w w1 := by
  subst hw
  exact laid2 w _ _ _ _
 clear hw
 have Yi : Hid (w.heap.size ≤ w.heap.size) := Nat.le_refl _
 have bU : Hid (w.heap.size ≤ (w.heap.size + 1)) := Nat.le_succ _
 have dQ := hid h1.1
 have bJ := hid h1.2.1
 have dn := hid h1.2.2
 clear h1
 obtain ⟨p0, p1, p2, p3, p4, p5⟩ := dQ.out.facts
 by_cases hs1 : s = FILE
 ·
  have kW : Hid (O = file rt none) := by show _ = _; rw [HO.out, if_pos hs1]; first | done | rfl
  have abJ : ((strOf s).toList == [102, 105, 108, 101]) = true := by rw [aK, hs1]; first | done | rfl
  have abL : (strOf s).toList = [102, 105, 108, 101] := by rw [aK, hs1]; first | done | rfl
  clear hs1
  go_wp2_with fail
  refine (HFN.out _ (HL.out.below dn.out) (cO HT.out dn.out) (HM.out.below dn.out)).mono ?_
  rintro e w2 ⟨hbx, u', A', n', c', ok, rfl, hown, yG⟩
  have fV : Hid ((w.heap.size + 1) < w1.heap.size) := bJ.out.lt
  have HOW := hid hown
  have Ei := hid yG
  clear hown yG
  have jY := hid (dQ.out.below hbx)
  have dh := hid (bJ.out.below hbx)
  have eY := hid (bel dn.out hbx)
  have FQ : Hid (w.heap.size ≤ w1.heap.size) := dn.out.size
  clear dQ bJ dn
  clear hbx
  go_wp2_with (refine au dh.out u' A' n' c' (.tmp 4) (.tmp 23) rfl rfl rfl rfl ?_)
  try simp only [Exit.inBlock, Exit.then]
  exact bodyPost_ret (w := World.setRow w2 (w.heap.size + 1) (cells u' (.slice A' n' c'))) (res2 (u := u') (p := .slice A' n' c') rfl (dh.out.row u' _) ok _ rfl rfl) rfl ⟨below_setRow eY.out bU.out _, u', A', n', c', ok, rfl, (HOW.out.row fV.out _).base FQ.out, by rw [kW.out]; exact Ei.out⟩
 ·
  have abJ : ((strOf s).toList == [102, 105, 108, 101]) = false := by rw [aK, beq_eq_false_iff_ne]; exact hs1
  have abL : ¬ (strOf s).toList = [102, 105, 108, 101] := by rw [aK]; exact hs1
  cases hsp : special s with
  | true =>
   have kW : Hid (O = OA) := by show _ = _; rw [HO.out, if_neg hs1, if_pos hsp]
   rw [hsp] at Fe FU
   clear hsp hs1
   go_wp2_with fail
   refine (Fe.out _).mono ?_
   rintro e wx ⟨rfl, hwx⟩
   obtain rfl : w1 = wx := by first | exact hwx | exact hwx.symm
   clear hwx
   clear p0 p1 p2 p3 p4 p5
   go_upto_region 6 with (fail)
   refine dY (by kernel_rfl) [is (.pointer none), is (.bool false), is (.bool false), is (undef), is (undef), is (undef), is (undef), is (undef), is (undef), is (undef), is (.bool false), is (.bool false), is (undef), is (undef), is (undef), is (undef), is (.bool false)] [[], [0], [1], [2], [2, 3], [2, 4], [2, 5], [2], [2, 7], [2, 6, 8], [2, 9], [10], [11], [11, 12], [11, 13], [11, 14], [11, 15]] (by kernel_rfl) ?_ ?_
   ·refine ⟨?_, ?_, ?_, ?_, ?_, ?_, ?_, ?_, ?_, ?_, ?_, ?_, ?_, ?_, ?_, ?_, ?_, trivial⟩
    all_goals (intro t wq hbq hh K hK; simp only [filled, upd, Have, is, any, row, pick, Act.put, List.setIfInBounds_toArray, List.set_cons_zero, List.set_cons_succ, Nat.reduceAdd, Nat.reduceEqDiff, reduceIte, List.tail_cons, List.headD_cons] at hh hK ⊢; (try simp only [hh] at hK ⊢); try clear hh)
    ·go_simp; exact hK _ _ (Below.refl _ _) rfl
    ·go_simp; first | exact hK _ _ (Below.refl _ _) rfl | exact hK _ _ (Below.refl _ _) (iU (by omega) (by omega))
    iterate 7 · go_simp; exact hK _ _ (Below.refl _ _) rfl
    ·go_simp; first | exact hK _ _ (Below.refl _ _) rfl | exact hK _ _ (Below.refl _ _) (iU (by omega) (by omega))
    iterate 7 · go_simp; exact hK _ _ (Below.refl _ _) rfl
   ·intro t wz hbq hh
    have f16 := aS hh 16 (by decide)
    simp only [pick] at f16
    replace f16 : t 16 = (.bool false) := f16
    clear hh
    simp only [filled, upd, Have, is, any, row, pick, Act.put, List.setIfInBounds_toArray, List.set_cons_zero, List.set_cons_succ, Nat.reduceAdd, Nat.reduceEqDiff, reduceIte]
    simp only [f16]
    have um := hid (dQ.out.below hbq)
    have xU := hid (bJ.out.below hbq)
    have uj := hid (bel dn.out hbq)
    clear dQ bJ dn
    clear hbq
    have fV : Hid ((w.heap.size + 1) < wz.heap.size) := xU.out.lt
    go_upto_region 8 with (fail)
    refine dG (by kernel_rfl) 11 [is (.pointer (some ⟨w.heap.size, 0, none⟩)), is (.string (strOf s)), is (.pointer (some ⟨w.heap.size, 1, none⟩)), is (.string (strOf rt)), is (.pointer (some ⟨w.heap.size, 0, none⟩)), is (.string (strOf s)), is (.string (cs true)), is (.string (strOf T2)), Wj OA wz.heap.size, TF OA wz.heap.size, is (.bool OA.isSome)] [[], [0], [], [2], [], [4], [4, 5], [2, 3, 4, 5, 6], [0, 1, 2, 3, 4, 5, 6, 7], [0, 1, 2, 3, 4, 5, 6, 7, 8], [0, 1, 2, 3, 4, 5, 6, 7, 8], [0, 1, 2, 3, 4, 5, 6, 7, 8, 9, 10]] (by kernel_rfl) ?_ ?_
    ·refine ⟨?_, ?_, ?_, ?_, ?_, ?_, ?_, ?_, ?_, ?_, ?_, trivial⟩
     all_goals (intro t wq hbq hh K hK; simp only [filled, bH, upd, Have, is, any, row, pick, Act.put, List.setIfInBounds_toArray, List.set_cons_zero, List.set_cons_succ, Nat.reduceAdd, Nat.reduceEqDiff, reduceIte, List.tail_cons, List.headD_cons] at hh hK ⊢)
     ·(try clear hh); go_simp; exact hK _ _ (Below.refl _ _) rfl
     ·simp only [hh] at hK ⊢; clear hh; have hc := (um.out.below hbq).facts.1; go_simp; exact hK _ _ (Below.refl _ _) rfl
     ·(try clear hh); go_simp; exact hK _ _ (Below.refl _ _) rfl
     ·simp only [hh] at hK ⊢; clear hh; have hc := (um.out.below hbq).facts.2.1; go_simp; exact hK _ _ (Below.refl _ _) rfl
     ·(try clear hh); go_simp; exact hK _ _ (Below.refl _ _) rfl
     ·simp only [hh] at hK ⊢; clear hh; have hc := (um.out.below hbq).facts.1; go_simp; exact hK _ _ (Below.refl _ _) rfl
     ·simp only [hh] at hK ⊢; clear hh; go_simp; refine (FU.out _).mono ?_; rintro e w9 ⟨rfl, Kv⟩; subst Kv; exact hK _ _ (Below.refl _ _) rfl
     ·simp only [hh] at hK ⊢; clear hh; go_simp; refine (KH.out _).mono ?_; rintro e w9 ⟨rfl, nP⟩; exact hK _ _ nP rfl
     ·simp only [hh] at hK ⊢; clear hh; go_simp; refine (HAU.out _ (HL.out.below (bel uj.out hbq)) (cO HT.out (bel uj.out hbq)) (HM.out.below (bel uj.out hbq))).mono ?_; intro e w9 ha; obtain ⟨nP, A9, n9, c9, rfl, JY⟩ := fZ.nX ha; exact hK _ _ nP ⟨A9, n9, c9, rfl, aF JY hbq.size⟩
     ·have e8 := hh.2.2.2.2.2.2.2.2.1; (try clear hh); obtain ⟨A8, n8, c8, e8, ho8⟩ := e8; simp only [e8] at hK ⊢; go_simp; exact hK _ _ (Below.refl _ _) ⟨_, _, _, rfl, ho8⟩
     ·have e8 := hh.2.2.2.2.2.2.2.2.1; (try clear hh); obtain ⟨A8, n8, c8, e8, ho8⟩ := e8; simp only [e8] at hK ⊢; go_simp; exact hK _ _ (Below.refl _ _) rfl
    ·intro t wq hbq hh
     have f9 := aS hh 9 (by decide)
     simp only [pick] at f9
     have f10 := aS hh 10 (by decide)
     simp only [pick] at f10
     replace f10 : t 10 = (.bool OA.isSome) := f10
     clear hh
     simp only [filled, bH, upd, Have, is, any, row, pick, Act.put, List.setIfInBounds_toArray, List.set_cons_zero, List.set_cons_succ, Nat.reduceAdd, Nat.reduceEqDiff, reduceIte]
     obtain ⟨A9, n9, c9, f9, JY⟩ := f9
     simp only [f9, f10]
     have uo := hid (xU.out.below hbq)
     have Yc := hid (bel uj.out hbq)
     have Ua := hid JY
     clear JY hbq
     refine au uo.out ((OA).getD U0) A9 n9 c9 (.tmp 4) (.tmp 63) rfl rfl rfl rfl ?_
     go_wp2
     try simp only [Exit.inBlock, Exit.then]
     have ho := aF (fH.aC (w' := World.setRow wq (w.heap.size + 1) (cells ((OA).getD U0) (.slice A9 n9 c9))) (gb := (w.heap.size + 1)) (Ua.out) (fun k hk => setRow_other _ _ _ _ hk) fV.out) (by have h1 := bU.out; have h2 := fV.out; omega : w.heap.size ≤ _)
     refine bodyPost_ret (w := World.setRow wq (w.heap.size + 1) (cells ((OA).getD U0) (.slice A9 n9 c9))) (res2 (u := (OA).getD U0) (p := .slice A9 n9 c9) rfl (uo.out.row _ _) (OA).isSome _ rfl rfl) rfl ?_
     rw [kW.out]
     exact fZ.oC (below_setRow Yc.out bU.out _) ho
  | false =>
   rw [hsp] at Fe
   go_wp2_with fail
   refine (Fe.out _).mono ?_
   rintro e wx ⟨rfl, hwx⟩
   obtain rfl : w1 = wx := by first | exact hwx | exact hwx.symm
   clear hwx
   by_cases h0 : s = []
   ·
    have oD : Hid (O = none) := by show _ = _; rw [HO.out, if_neg hs1, if_neg (by rw [hsp]; simp), if_neg (by simp [h0])]
    have e0h0 : ((strOf s).toList == []) = true := by rw [aK, h0]; first | done | rfl
    have e1h0 : (strOf s).toList = [] := by rw [aK, h0]; first | done | rfl
    clear h0 hsp hs1
    go_wp2_with (refine au bJ.out U0 none 0 0 (.tmp 4) (.tmp 76) rfl rfl rfl rfl ?_)
    try simp only [Exit.inBlock, Exit.then]
    exact bodyPost_ret (w := World.setRow w1 (w.heap.size + 1) (cells U0 (.slice none 0 0))) (res2 (u := U0) (p := .slice none 0 0) rfl (bJ.out.row U0 _) false _ rfl rfl) rfl (iw oD.out (below_setRow dn.out bU.out _))
   ·
    have kW : Hid (O = aH.plain ⟨s, rt, q, f, hq, hf⟩) := by show _ = _; rw [HO.out, if_neg hs1, if_neg (by rw [hsp]; simp), if_pos h0]
    have e0h0 : ((strOf s).toList == []) = false := by rw [aK, beq_eq_false_iff_ne]; exact h0
    have e1h0 : ¬ (strOf s).toList = [] := by rw [aK]; exact h0
    have e2 : (strOf s).toList.isEmpty = false := by rw [aK]; simpa using h0
    clear h0 hsp hs1
    go_wp2_with fail
    refine (JV.out _ (HL.out.below dn.out) (cO HT.out dn.out) (HM.out.below dn.out)).mono ?_
    rintro e w2 ⟨hbx, u', A', n', c', ok, rfl, hown, yG⟩
    have fV : Hid ((w.heap.size + 1) < w1.heap.size) := bJ.out.lt
    have HOW := hid hown
    have Ei := hid yG
    clear hown yG
    have jY := hid (dQ.out.below hbx)
    have dh := hid (bJ.out.below hbx)
    have eY := hid (bel dn.out hbx)
    have FQ : Hid (w.heap.size ≤ w1.heap.size) := dn.out.size
    clear dQ bJ dn
    clear hbx
    go_wp2_with (refine au dh.out u' A' n' c' (.tmp 4) (.tmp 71) rfl rfl rfl rfl ?_)
    try simp only [Exit.inBlock, Exit.then]
    exact bodyPost_ret (w := World.setRow w2 (w.heap.size + 1) (cells u' (.slice A' n' c'))) (res2 (u := u') (p := .slice A' n' c') rfl (dh.out.row u' _) ok _ rfl rfl) rfl ⟨below_setRow eY.out bU.out _, u', A', n', c', ok, rfl, (HOW.out.row fV.out _).base FQ.out, by rw [kW.out]; exact Ei.out⟩
end Go.Proofs.YtcfgioklgmlclaaGreatDoor.PrsN
namespace Go.Proofs.YtcfgioklgmlclaaGreatDoor.PrsR
open Go.RowKit Base fZ aP eX fE pU AO qM ng aH xX tq Ej tZ Pbx AL Em kX AA Fh XZ J8 Un PrsN
theorem KR (C : List UInt8) : (aH.apart C).rest.length ≤ C.length ∧ (aH.apart C).eF.length ≤ C.length ∧ (aH.apart C).fG.length ≤ C.length := by
 have h1 := o8 35 C
 have h2 := o8 63 (dV 35 C).1
 have h3 := o8 58 (dV 63 (dV 35 C).1).1
 unfold aH.apart
 simp only
 split
 ·refine ⟨?_, ?_, ?_⟩ <;> simp only <;> omega
 ·refine ⟨?_, ?_, ?_⟩ <;> simp only <;> omega
theorem Ig (u : U) (p : Parts) : (aH.finish u p).aN = u.aN := by
 cases h1 : p.hq <;> cases h2 : p.hf <;> simp [aH.finish, h1, h2]
theorem adF {fn : Func} {a b : Tmp} {w : World} {g : Nat} {u : U} {p : Value} (h : fn.results = #[.cell a 24, .tmp b]) (hU : UB w g u p) (z : Int) (tmps : Array Value) (h2 : tmps.getD a undef = .pointer (some ⟨g, 0, none⟩)) (h3 : tmps.getD b undef = .int .i64 z) :
  (results fn tmps).run Tryz.prog w = .ok (.tuple #[.agg (cells u p), .int .i64 z]) w := by
 have hp' : tmps[a]?.getD undef = .pointer (some ⟨g, 0, none⟩) := by simpa using h2
 have hq' : tmps[b]?.getD undef = .int .i64 z := by simpa using h3
 simp [results, h, hp', hq', asAddr, hU.load]
def AnsP (w : World) (o : Option U) (e : Ending) (w' : World) : Prop := Below w.heap.size w w' ∧ ∃ A n c, e = .returned (.tuple #[.agg (cells (o.getD U0) (.slice A n c)), .int .i64 (if o.isSome = true then 0 else 2)]) ∧ Own w w' (o.getD U0) A n c
theorem IZ (T : List UInt8) (w : World) (hs : T.length ≤ 65536) (hL : pR w) (hT : Tab.Pow w) (hM : Max w) (hU : uw w) : Calls Tryz.prog 16 #[.string (strOf T), .pointer none] w (AnsP w (aH.url T none)) := by
 have hcl := zq T
 obtain ⟨C, hC⟩ : ∃ x, x = clean T := ⟨_, rfl⟩
 rw [← hC] at hcl
 obtain ⟨p, hp⟩ : ∃ x, x = aH.apart C := ⟨_, rfl⟩
 have hpl := KR C
 rw [← hp] at hpl
 obtain ⟨OR, hOR⟩ : ∃ x, x = aH.resolve p none := ⟨_, rfl⟩
 obtain ⟨OU, hOU⟩ : ∃ x, x = aH.url T none := ⟨_, rfl⟩
 have HOU : Hid (OU = OR.map fun u => aH.finish u p) := by show _ = _; rw [hOU]; unfold aH.url; rw [← hC, ← hp, ← hOR]
 rw [← hOU]
 have HCL : Hid (∀ w : World, uw w → Calls Tryz.prog 45 #[.string (strOf T)] w fun e w' => e = .returned (.string (strOf C)) ∧ Below w.heap.size w w') := fun w h => by rw [hC]; exact clean_any T w (by omega) h
 have HAP : Hid (∀ w : World, Max w → Calls Tryz.prog 44 #[.string (strOf C)] w fun e w' => e = .returned (.agg (cu p)) ∧ Below w.heap.size w w') := fun w h => by rw [hp]; exact KQ C w (by omega) h
 have HRS : Hid (∀ w : World, pR w → Tab.Pow w → Max w → Calls Tryz.prog 46 #[.agg (cu p), .pointer none] w (mG w OR)) := fun w a c d => by rw [hOR]; exact O5 p w (by omega) a c d
 have HFI : Hid (∀ (u : U) (A : Option Addr) (n c : Nat) (w : World), Calls Tryz.prog 47 #[.agg (cells u (.slice A n c)), .agg (cu p)] w fun e w' => e = .returned (.agg (cells (aH.finish u p) (.slice A n c))) ∧ Below w.heap.size w w') := fun u A n c w => Ie u p A n c w (by omega) (by omega)
 have hTI : ¬ ((strOf T).size : Int) > 65536 := by rw [ah]; omega
 have hTI2 : ((strOf T).size : Int) ≤ 65536 := by omega
 have HL := hid hL
 have HT := hid hT
 have HM := hid hM
 have HUT := hid hU
 clear hOU hOR hp hC hL hT hM hU hpl hcl
 obtain ⟨s, rt, q, f, hq, hf⟩ := p
 go_enter Tryz.func16, Tryz.ntmps16
 go_upto_region 1 with (fail)
 generalize hw : World.alloc w _ = w1
 have h1 : UB w1 (w.heap.size) (U0) (.slice none 0 0) ∧ Below w.heap.size w w1 := by
  subst hw
  exact laid1 w _ _
 clear hw
 have bU : Hid (w.heap.size ≤ w.heap.size) := (Below.refl w.heap.size w).size
 have dn := hid (bel (Below.refl w.heap.size w) h1.2)
 have bJ := hid h1.1
 clear h1
 go_wp2_with fail
 refine (HCL.out _ (HUT.out.below dn.out)).mono ?_
 rintro e w2 ⟨rfl, hbx⟩
 have dh := hid (bJ.out.below hbx)
 have eY := hid (bel dn.out hbx)
 clear bJ dn
 clear hbx
 go_wp2_with fail
 refine (HAP.out _ (HM.out.below eY.out)).mono ?_
 rintro e w3 ⟨rfl, hbx⟩
 have bQ := hid (dh.out.below hbx)
 have dL := hid (bel eY.out hbx)
 clear dh eY
 clear hbx
 rw [show Value.agg (cu ⟨s, rt, q, f, hq, hf⟩) = .agg #[.string (strOf s), .string (strOf rt), .string (strOf q), .string (strOf f), .bool hq, .bool hf] from rfl]
 go_upto_region 4 with (fail)
 generalize hw : World.alloc w3 _ = w4
 have h1 : PB w4 (w3.heap.size) (⟨s, rt, q, f, hq, hf⟩) ∧ Below w3.heap.size w3 w4 := by
  subst hw
  exact laid1 w3 _ _
 clear hw
 have hlr := bQ.out.lt
 have Np : Hid (w.heap.size ≠ w3.heap.size) := by show _ ≠ _; omega
 have Nl : Hid (w3.heap.size ≠ w.heap.size) := by show _ ≠ _; omega
 clear hlr
 have Yi : Hid (w.heap.size ≤ w3.heap.size) := dL.out.size
 have bP := hid (bQ.out.below h1.2)
 have dH := hid (bel dL.out h1.2)
 have oU := hid h1.1
 clear bQ dL
 clear h1
 obtain ⟨p0, p1, p2, p3, p4, p5⟩ := oU.out.facts
 go_wp2_with fail
 clear p0 p1 p2 p3 p4 p5
 refine (HRS.out _ (HL.out.below dH.out) (cO HT.out dH.out) (HM.out.below dH.out)).mono ?_
 rintro e w5 ⟨hbx, u', A', n', c', ok, rfl, hown, yG⟩
 have fV : Hid (w.heap.size < w4.heap.size) := bP.out.lt
 have FQ : Hid (w.heap.size ≤ w4.heap.size) := dH.out.size
 have bM := hid (bP.out.below hbx)
 have oV := hid (oU.out.below hbx)
 have dZ := hid (bel dH.out hbx)
 have Ei := hid yG
 have HWw5 := hid (show Own w4 w5 u' A' n' c' from hown)
 clear yG hown
 clear bP oU dH
 clear hbx
 rw [show Value.agg (cells u' (.slice A' n' c')) = .agg #[.string (strOf u'.aj), .string (strOf u'.usr), .string (strOf u'.dR), .string (strOf u'.hst), .bool u'.hh, .int .i64 u'.port, .bool u'.opq, .string (strOf u'.txt), .slice A' n' c', .bool u'.hq, .bool u'.hf, .string (strOf u'.eF), .string (strOf u'.fG)] from rfl]
 go_upto_region 5 with (fail)
 generalize hw : World.alloc w5 _ = w6
 have h1 : UB w6 (w5.heap.size) (u') (.slice A' n' c') ∧ Below w5.heap.size w5 w6 := by
  subst hw
  exact laid1 w5 _ _
 clear hw
 have hlr := bM.out.lt
 have aU : Hid (w.heap.size ≠ w5.heap.size) := by show _ ≠ _; omega
 have nU : Hid (w5.heap.size ≠ w.heap.size) := by show _ ≠ _; omega
 clear hlr
 have hlp := oV.out.lt
 have jw : Hid (w3.heap.size ≠ w5.heap.size) := by show _ ≠ _; omega
 have Nr : Hid (w5.heap.size ≠ w3.heap.size) := by show _ ≠ _; omega
 clear hlp
 have dU : Hid (w.heap.size ≤ w5.heap.size) := dZ.out.size
 have bT := hid (bM.out.below h1.2)
 have Cj := hid (oV.out.below h1.2)
 have fA := hid (bel dZ.out h1.2)
 have bD := hid h1.1
 have HBU := hid h1.2
 clear bM oV dZ
 clear h1
 skip
 cases ok with
 | false =>
  have oD : Hid (OU = none) := by
   show _ = _
   rcases Ei.out with ⟨_, h⟩ | ⟨h, _⟩
   ·cases h
   ·rw [HOU.out, h]; rfl
  go_wp2_with (refine au bT.out U0 none 0 0 (.tmp 4) (.tmp 24) rfl rfl rfl rfl ?_)
  try simp only [Exit.inBlock, Exit.then]
  refine bodyPost_ret (w := World.setRow w6 w.heap.size (cells U0 (.slice none 0 0))) (adF (u := U0) (p := .slice none 0 0) rfl (bT.out.row U0 _) 2 _ rfl rfl) rfl ?_
  rw [oD.out]
  exact ⟨below_setRow fA.out bU.out _, none, 0, 0, rfl, wG _ _ rfl⟩
 | true =>
  have HSO : Hid (OU = some (aH.finish u' ⟨s, rt, q, f, hq, hf⟩)) := by
   show _ = _
   rcases Ei.out with ⟨h, _⟩ | ⟨_, h, _⟩
   ·rw [HOU.out, h]; rfl
   ·cases h
  have hfp : (aH.finish u' ⟨s, rt, q, f, hq, hf⟩).aN = u'.aN := Ig _ _
  obtain ⟨d0, d1, d2, d3, d4, d5, d6, d7, d8, d9, d10, d11, d12⟩ := bD.out.facts
  obtain ⟨p0, p1, p2, p3, p4, p5⟩ := Cj.out.facts
  go_wp2_with fail
  clear d0 d1 d2 d3 d4 d5 d6 d7 d8 d9 d10 d11 d12
  clear p0 p1 p2 p3 p4 p5
  skip
  have TJ : Hid (Below w5.heap.size w5 w6) := HBU.out
  refine (HFI.out u' A' n' c' _).mono ?_
  rintro e w7 ⟨rfl, hbx⟩
  have dI := hid (bT.out.below hbx)
  have HXpw7 := hid (Cj.out.below hbx)
  have dJ := hid (bD.out.below hbx)
  have gQ := hid (bel fA.out hbx)
  clear bT Cj bD fA
  have HBX9 := hid hbx
  clear hbx
  have hwn := (HWw5.out.below TJ.out).below HBX9.out
  go_wp2_with (refine au dI.out (aH.finish u' ⟨s, rt, q, f, hq, hf⟩) A' n' c' (.tmp 4) (.tmp 27) rfl rfl rfl rfl ?_)
  try simp only [Exit.inBlock, Exit.then]
  have ho := (hwn.row fV.out (cells (aH.finish u' ⟨s, rt, q, f, hq, hf⟩) (.slice A' n' c'))).base FQ.out
  refine bodyPost_ret (w := World.setRow w7 w.heap.size (cells (aH.finish u' ⟨s, rt, q, f, hq, hf⟩) (.slice A' n' c'))) (adF (u := aH.finish u' ⟨s, rt, q, f, hq, hf⟩) (p := .slice A' n' c') rfl (dI.out.row _ _) 0 _ rfl rfl) rfl ?_
  rw [HSO.out]
  exact ⟨below_setRow gQ.out bU.out _, A', n', c', rfl, by show Own _ _ (aH.finish u' ⟨s, rt, q, f, hq, hf⟩) _ _ _; unfold Own; rw [hfp]; exact ho⟩
end Go.Proofs.YtcfgioklgmlclaaGreatDoor.PrsR
