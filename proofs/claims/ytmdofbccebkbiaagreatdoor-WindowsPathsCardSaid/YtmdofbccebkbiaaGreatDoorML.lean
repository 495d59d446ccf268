/- Texts that belong together: PrsN, Yc. -/
import Derived.Test.YtmdofbccebkbiaaGreatDoorMJ
import Derived.Test.YtmdofbccebkbiaaGreatDoorMK
import Derived.Test.YtmdofbccebkbiaaGreatDoorMH
set_option linter.unusedSimpArgs false
set_option linter.unusedVariables false
set_option maxRecDepth 100000
set_option maxHeartbeats 64000000
namespace Go.Proofs.YtmdofbccebkbiaaGreatDoor.PrsN
open Go.RowKit Base eH aT dM iT pR Ba oW mY aI AZ sJ Eh zV Pbx zU Ce Ou lI wR uT Yb PrsF Q8 PrsI
theorem NC (p : Parts) (w : World) (hs : p.rest.length ≤ 700000) (hL : nP w) (hT : Tab.Pow w) (hM : Max w) : Calls Tryz.prog 41 #[.agg (eX p), .pointer none] w (mG w (aI.resolve p none)) := by
 obtain ⟨s, rt, q, f, hq, hf⟩ := p
 simp only at hs
 obtain ⟨O, hO⟩ : ∃ O, O = aI.resolve ⟨s, rt, q, f, hq, hf⟩ none := ⟨_, rfl⟩
 rw [← hO]
 unfold aI.resolve at hO
 simp only at hO
 have HO := hid hO
 have zQ : Hid (∀ w : World, Calls Tryz.prog 84 #[.string (strOf s)] w fun e w' => e = .returned (.bool (special s)) ∧ w' = w) := fun w => jo (strOf s) w
 have wY : Hid (∀ w : World, nP w → Tab.Pow w → Max w → Calls Tryz.prog 89 #[.agg (eX ⟨s, rt, q, f, hq, hf⟩)] w (mG w (aI.plain ⟨s, rt, q, f, hq, hf⟩))) := fun w a c d => Ld ⟨s, rt, q, f, hq, hf⟩ w (by show rt.length ≤ _; omega) a c d
 have QS : Hid (∀ w : World, nP w → Tab.Pow w → Max w → Calls Tryz.prog 83 #[.string (strOf rt), .pointer none] w (mG w (file rt none))) := fun w a c d => KG rt w hs a c d
 have JC : Hid (∀ w : World, Calls Tryz.prog 88 #[.string (strOf s)] w fun e w' => e = .returned (.string (cs (special s))) ∧ w' = w) := fun w => iP (strOf s) w
 have HTR : Hid (∀ w : World, Calls Tryz.prog 87 #[.string (strOf rt), .string (cs true)] w fun e w' => e = .returned (.string (strOf (rt.dropWhile (eY true)))) ∧ Below w.heap.size w w') := fun w => wE rt w
 obtain ⟨T2, hT2⟩ : ∃ x, x = rt.dropWhile (eY true) := ⟨_, rfl⟩
 have MX : T2.length ≤ 900000 := by rw [hT2]; have := (List.dropWhile_sublist (eY true) (l := rt)).length_le; omega
 rw [← hT2] at HTR HO
 obtain ⟨OA, Y4⟩ : ∃ x, x = authority s T2 := ⟨_, rfl⟩
 have HAU : Hid (∀ w : World, nP w → Tab.Pow w → Max w → Calls Tryz.prog 86 #[.string (strOf s), .string (strOf T2)] w (mG w OA)) := fun w a b c => by rw [Y4]; exact oG s T2 w MX a b c
 rw [← Y4] at HO
 have HL := hid hL
 have HT := hid hT
 have HM := hid hM
 clear hO hT2 Y4 hL hT hM
 go_enter Tryz.func41, Tryz.ntmps41
 go_upto_region 1 with (fail)
 generalize hw : World.alloc (World.alloc w _) _ = w1
 have h1 : PB w1 (w.heap.size) (⟨s, rt, q, f, hq, hf⟩) ∧ UB w1 ((w.heap.size + 1)) (U0) (.slice none 0 0) ∧ Below w.heap.size w w1 := by
  subst hw
  exact laid2 w _ _ _ _
 clear hw
 have VN : Hid (w.heap.size ≤ w.heap.size) := Nat.le_refl _
 have bG : Hid (w.heap.size ≤ (w.heap.size + 1)) := Nat.le_succ _
 have dK := hid h1.1
 have aY := hid h1.2.1
 have bU := hid h1.2.2
 clear h1
 obtain ⟨p0, p1, p2, p3, p4, p5⟩ := dK.out.facts
 by_cases hs1 : s = FILE
 ·
  have l9 : Hid (O = file rt none) := by show _ = _; rw [HO.out, if_pos hs1]; first | done | rfl
  have YN : ((strOf s).toList == [102, 105, 108, 101]) = true := by rw [aW, hs1]; first | done | rfl
  have YP : (strOf s).toList = [102, 105, 108, 101] := by rw [aW, hs1]; first | done | rfl
  clear hs1
  go_wp2_with fail
  refine (QS.out _ (HL.out.below bU.out) (bJ HT.out bU.out) (HM.out.below bU.out)).mono ?_
  rintro e w2 ⟨hbx, u', A', n', c', ok, rfl, hown, yu⟩
  have fK : Hid ((w.heap.size + 1) < w1.heap.size) := aY.out.lt
  have HOW := hid hown
  have Ee := hid yu
  clear hown yu
  have jS := hid (dK.out.below hbx)
  have bT := hid (aY.out.below hbx)
  have dY := hid (bel bU.out hbx)
  have FP : Hid (w.heap.size ≤ w1.heap.size) := bU.out.size
  clear dK aY bU
  clear hbx
  go_wp2_with (refine ak bT.out u' A' n' c' (.tmp 4) (.tmp 23) rfl rfl rfl rfl ?_)
  try simp only [Exit.inBlock, Exit.then]
  exact bodyPost_ret (w := World.setRow w2 (w.heap.size + 1) (cells u' (.slice A' n' c'))) (res2 (u := u') (p := .slice A' n' c') rfl (bT.out.row u' _) ok _ rfl rfl) rfl ⟨below_setRow dY.out bG.out _, u', A', n', c', ok, rfl, (HOW.out.row fK.out _).base FP.out, by rw [l9.out]; exact Ee.out⟩
 ·
  have YN : ((strOf s).toList == [102, 105, 108, 101]) = false := by rw [aW, beq_eq_false_iff_ne]; exact hs1
  have YP : ¬ (strOf s).toList = [102, 105, 108, 101] := by rw [aW]; exact hs1
  cases hsp : special s with
  | true =>
   have l9 : Hid (O = OA) := by show _ = _; rw [HO.out, if_neg hs1, if_pos hsp]
   rw [hsp] at zQ JC
   clear hsp hs1
   go_wp2_with fail
   refine (zQ.out _).mono ?_
   rintro e wx ⟨rfl, hwx⟩
   obtain rfl : w1 = wx := by first | exact hwx | exact hwx.symm
   clear hwx
   clear p0 p1 p2 p3 p4 p5
   go_upto_region 6 with (fail)
   refine bW (by kernel_rfl) [is (.pointer none), is (.bool false), is (.bool false), is (undef), is (undef), is (undef), is (undef), is (undef), is (undef), is (undef), is (.bool false), is (.bool false), is (undef), is (undef), is (undef), is (undef), is (.bool false)] [[], [0], [1], [2], [2, 3], [2, 4], [2, 5], [2], [2, 7], [2, 6, 8], [2, 9], [10], [11], [11, 12], [11, 13], [11, 14], [11, 15]] (by kernel_rfl) ?_ ?_
   ·refine ⟨?_, ?_, ?_, ?_, ?_, ?_, ?_, ?_, ?_, ?_, ?_, ?_, ?_, ?_, ?_, ?_, ?_, trivial⟩
    all_goals (intro t wq hbq hh K hK; simp only [filled, upd, Have, is, any, row, pick, Act.put, List.setIfInBounds_toArray, List.set_cons_zero, List.set_cons_succ, Nat.reduceAdd, Nat.reduceEqDiff, reduceIte, List.tail_cons, List.headD_cons] at hh hK ⊢; (try simp only [hh] at hK ⊢); try clear hh)
    ·go_simp; exact hK _ _ (Below.refl _ _) rfl
    ·go_simp; first | exact hK _ _ (Below.refl _ _) rfl | exact hK _ _ (Below.refl _ _) (gV (by omega) (by omega))
    iterate 7 · go_simp; exact hK _ _ (Below.refl _ _) rfl
    ·go_simp; first | exact hK _ _ (Below.refl _ _) rfl | exact hK _ _ (Below.refl _ _) (gV (by omega) (by omega))
    iterate 7 · go_simp; exact hK _ _ (Below.refl _ _) rfl
   ·intro t wz hbq hh
    have f16 := aG hh 16 (by decide)
    simp only [pick] at f16
    replace f16 : t 16 = (.bool false) := f16
    clear hh
    simp only [filled, upd, Have, is, any, row, pick, Act.put, List.setIfInBounds_toArray, List.set_cons_zero, List.set_cons_succ, Nat.reduceAdd, Nat.reduceEqDiff, reduceIte]
    simp only [f16]
    have tC := hid (dK.out.below hbq)
    have xG := hid (aY.out.below hbq)
    have tu := hid (bel bU.out hbq)
    clear dK aY bU
    clear hbq
    have fK : Hid ((w.heap.size + 1) < wz.heap.size) := xG.out.lt
    go_upto_region 8 with (fail)
    refine aZ (by kernel_rfl) 11 [is (.pointer (some ⟨w.heap.size, 0, none⟩)), is (.string (strOf s)), is (.pointer (some ⟨w.heap.size, 1, none⟩)), is (.string (strOf rt)), is (.pointer (some ⟨w.heap.size, 0, none⟩)), is (.string (strOf s)), is (.string (cs true)), is (.string (strOf T2)), TQ OA wz.heap.size, QA OA wz.heap.size, is (.bool OA.isSome)] [[], [0], [], [2], [], [4], [4, 5], [2, 3, 4, 5, 6], [0, 1, 2, 3, 4, 5, 6, 7], [0, 1, 2, 3, 4, 5, 6, 7, 8], [0, 1, 2, 3, 4, 5, 6, 7, 8], [0, 1, 2, 3, 4, 5, 6, 7, 8, 9, 10]] (by kernel_rfl) ?_ ?_
    ·refine ⟨?_, ?_, ?_, ?_, ?_, ?_, ?_, ?_, ?_, ?_, ?_, trivial⟩
     all_goals (intro t wq hbq hh K hK; simp only [filled, aQ, upd, Have, is, any, row, pick, Act.put, List.setIfInBounds_toArray, List.set_cons_zero, List.set_cons_succ, Nat.reduceAdd, Nat.reduceEqDiff, reduceIte, List.tail_cons, List.headD_cons] at hh hK ⊢)
     ·(try clear hh); go_simp; exact hK _ _ (Below.refl _ _) rfl
     ·simp only [hh] at hK ⊢; clear hh; have hc := (tC.out.below hbq).facts.1; go_simp; exact hK _ _ (Below.refl _ _) rfl
     ·(try clear hh); go_simp; exact hK _ _ (Below.refl _ _) rfl
     ·simp only [hh] at hK ⊢; clear hh; have hc := (tC.out.below hbq).facts.2.1; go_simp; exact hK _ _ (Below.refl _ _) rfl
     ·(try clear hh); go_simp; exact hK _ _ (Below.refl _ _) rfl
     ·simp only [hh] at hK ⊢; clear hh; have hc := (tC.out.below hbq).facts.1; go_simp; exact hK _ _ (Below.refl _ _) rfl
     ·simp only [hh] at hK ⊢; clear hh; go_simp; refine (JC.out _).mono ?_; rintro e w9 ⟨rfl, hw9⟩; subst hw9; exact hK _ _ (Below.refl _ _) rfl
     ·simp only [hh] at hK ⊢; clear hh; go_simp; refine (HTR.out _).mono ?_; rintro e w9 ⟨rfl, uh⟩; exact hK _ _ uh rfl
     ·simp only [hh] at hK ⊢; clear hh; go_simp; refine (HAU.out _ (HL.out.below (bel tu.out hbq)) (bJ HT.out (bel tu.out hbq)) (HM.out.below (bel tu.out hbq))).mono ?_; intro e w9 ha; obtain ⟨uh, A9, n9, c9, rfl, Jz⟩ := eH.nV ha; exact hK _ _ uh ⟨A9, n9, c9, rfl, ay Jz hbq.size⟩
     ·have e8 := hh.2.2.2.2.2.2.2.2.1; (try clear hh); obtain ⟨A8, n8, c8, e8, ho8⟩ := e8; simp only [e8] at hK ⊢; go_simp; exact hK _ _ (Below.refl _ _) ⟨_, _, _, rfl, ho8⟩
     ·have e8 := hh.2.2.2.2.2.2.2.2.1; (try clear hh); obtain ⟨A8, n8, c8, e8, ho8⟩ := e8; simp only [e8] at hK ⊢; go_simp; exact hK _ _ (Below.refl _ _) rfl
    ·intro t wq hbq hh
     have f9 := aG hh 9 (by decide)
     simp only [pick] at f9
     have f10 := aG hh 10 (by decide)
     simp only [pick] at f10
     replace f10 : t 10 = (.bool OA.isSome) := f10
     clear hh
     simp only [filled, aQ, upd, Have, is, any, row, pick, Act.put, List.setIfInBounds_toArray, List.set_cons_zero, List.set_cons_succ, Nat.reduceAdd, Nat.reduceEqDiff, reduceIte]
     obtain ⟨A9, n9, c9, f9, Jz⟩ := f9
     simp only [f9, f10]
     have tH := hid (xG.out.below hbq)
     have AU := hid (bel tu.out hbq)
     have QU := hid Jz
     clear Jz hbq
     refine ak tH.out ((OA).getD U0) A9 n9 c9 (.tmp 4) (.tmp 63) rfl rfl rfl rfl ?_
     go_wp2
     try simp only [Exit.inBlock, Exit.then]
     have ho := ay (eF.aB (w' := World.setRow wq (w.heap.size + 1) (cells ((OA).getD U0) (.slice A9 n9 c9))) (gb := (w.heap.size + 1)) (QU.out) (fun k hk => setRow_other _ _ _ _ hk) fK.out) (by have h1 := bG.out; have h2 := fK.out; omega : w.heap.size ≤ _)
     refine bodyPost_ret (w := World.setRow wq (w.heap.size + 1) (cells ((OA).getD U0) (.slice A9 n9 c9))) (res2 (u := (OA).getD U0) (p := .slice A9 n9 c9) rfl (tH.out.row _ _) (OA).isSome _ rfl rfl) rfl ?_
     rw [l9.out]
     exact eH.oD (below_setRow AU.out bG.out _) ho
  | false =>
   rw [hsp] at zQ
   go_wp2_with fail
   refine (zQ.out _).mono ?_
   rintro e wx ⟨rfl, hwx⟩
   obtain rfl : w1 = wx := by first | exact hwx | exact hwx.symm
   clear hwx
   by_cases h0 : s = []
   ·
    have mM : Hid (O = none) := by show _ = _; rw [HO.out, if_neg hs1, if_neg (by rw [hsp]; simp), if_neg (by simp [h0])]
    have e0h0 : ((strOf s).toList == []) = true := by rw [aW, h0]; first | done | rfl
    have e1h0 : (strOf s).toList = [] := by rw [aW, h0]; first | done | rfl
    clear h0 hsp hs1
    go_wp2_with (refine ak aY.out U0 none 0 0 (.tmp 4) (.tmp 76) rfl rfl rfl rfl ?_)
    try simp only [Exit.inBlock, Exit.then]
    exact bodyPost_ret (w := World.setRow w1 (w.heap.size + 1) (cells U0 (.slice none 0 0))) (res2 (u := U0) (p := .slice none 0 0) rfl (aY.out.row U0 _) false _ rfl rfl) rfl (gU mM.out (below_setRow bU.out bG.out _))
   ·
    have l9 : Hid (O = aI.plain ⟨s, rt, q, f, hq, hf⟩) := by show _ = _; rw [HO.out, if_neg hs1, if_neg (by rw [hsp]; simp), if_pos h0]
    have e0h0 : ((strOf s).toList == []) = false := by rw [aW, beq_eq_false_iff_ne]; exact h0
    have e1h0 : ¬ (strOf s).toList = [] := by rw [aW]; exact h0
    have e2 : (strOf s).toList.isEmpty = false := by rw [aW]; simpa using h0
    clear h0 hsp hs1
    go_wp2_with fail
    refine (wY.out _ (HL.out.below bU.out) (bJ HT.out bU.out) (HM.out.below bU.out)).mono ?_
    rintro e w2 ⟨hbx, u', A', n', c', ok, rfl, hown, yu⟩
    have fK : Hid ((w.heap.size + 1) < w1.heap.size) := aY.out.lt
    have HOW := hid hown
    have Ee := hid yu
    clear hown yu
    have jS := hid (dK.out.below hbx)
    have bT := hid (aY.out.below hbx)
    have dY := hid (bel bU.out hbx)
    have FP : Hid (w.heap.size ≤ w1.heap.size) := bU.out.size
    clear dK aY bU
    clear hbx
    go_wp2_with (refine ak bT.out u' A' n' c' (.tmp 4) (.tmp 71) rfl rfl rfl rfl ?_)
    try simp only [Exit.inBlock, Exit.then]
    exact bodyPost_ret (w := World.setRow w2 (w.heap.size + 1) (cells u' (.slice A' n' c'))) (res2 (u := u') (p := .slice A' n' c') rfl (bT.out.row u' _) ok _ rfl rfl) rfl ⟨below_setRow dY.out bG.out _, u', A', n', c', ok, rfl, (HOW.out.row fK.out _).base FP.out, by rw [l9.out]; exact Ee.out⟩
end Go.Proofs.YtmdofbccebkbiaaGreatDoor.PrsN
namespace Go.Proofs.YtmdofbccebkbiaaGreatDoor.Yc
open Go.RowKit Base eH aT dM iT pR Ba oW mY aI AZ sJ Eh zV Pbx zU Ce lI wR uT VB L9 Q8 PrsN
theorem J9 (C : List UInt8) : (aI.apart C).rest.length ≤ C.length ∧ (aI.apart C).eu.length ≤ C.length ∧ (aI.apart C).fH.length ≤ C.length := by
 have h1 := oZ 35 C
 have h2 := oZ 63 (fB 35 C).1
 have h3 := oZ 58 (fB 63 (fB 35 C).1).1
 unfold aI.apart
 simp only
 split
 ·refine ⟨?_, ?_, ?_⟩ <;> simp only <;> omega
 ·refine ⟨?_, ?_, ?_⟩ <;> simp only <;> omega
theorem Ht (u : U) (p : Parts) : (aI.finish u p).aF = u.aF := by
 cases h1 : p.hq <;> cases h2 : p.hf <;> simp [aI.finish, h1, h2]
theorem aak {fn : Func} {a b : Tmp} {w : World} {g : Nat} {u : U} {p : Value} (h : fn.results = #[.cell a 25, .tmp b]) (hU : UB w g u p) (z : Int) (tmps : Array Value) (h2 : tmps.getD a undef = .pointer (some ⟨g, 0, none⟩)) (h3 : tmps.getD b undef = .int .i64 z) :
  (results fn tmps).run Tryz.prog w = .ok (.tuple #[.agg (cells u p), .int .i64 z]) w := by
 have hp' : tmps[a]?.getD undef = .pointer (some ⟨g, 0, none⟩) := by simpa using h2
 have hq' : tmps[b]?.getD undef = .int .i64 z := by simpa using h3
 simp [results, h, hp', hq', asAddr, hU.load]
def AnsP (w : World) (o : Option U) (e : Ending) (w' : World) : Prop := Below w.heap.size w w' ∧ ∃ A n c, e = .returned (.tuple #[.agg (cells (o.getD U0) (.slice A n c)), .int .i64 (if o.isSome = true then 0 else 2)]) ∧ Own w w' (o.getD U0) A n c
theorem BH (T : List UInt8) (w : World) (hs : T.length ≤ 65536) (hL : nP w) (hT : Tab.Pow w) (hM : Max w) (hU : tK w) : Calls Tryz.prog 12 #[.string (strOf T), .pointer none] w (AnsP w (aI.url T none)) := by
 have hcl := zx T
 obtain ⟨C, hC⟩ : ∃ x, x = clean T := ⟨_, rfl⟩
 rw [← hC] at hcl
 obtain ⟨p, hp⟩ : ∃ x, x = aI.apart C := ⟨_, rfl⟩
 have hpl := J9 C
 rw [← hp] at hpl
 obtain ⟨OR, Y5⟩ : ∃ x, x = aI.resolve p none := ⟨_, rfl⟩
 obtain ⟨OU, hOU⟩ : ∃ x, x = aI.url T none := ⟨_, rfl⟩
 have HOU : Hid (OU = OR.map fun u => aI.finish u p) := by show _ = _; rw [hOU]; unfold aI.url; rw [← hC, ← hp, ← Y5]
 rw [← hOU]
 have QC : Hid (∀ w : World, tK w → Calls Tryz.prog 15 #[.string (strOf T)] w fun e w' => e = .returned (.string (strOf C)) ∧ Below w.heap.size w w') := fun w h => by rw [hC]; exact clean_any T w (by omega) h
 have HAP : Hid (∀ w : World, Max w → Calls Tryz.prog 40 #[.string (strOf C)] w fun e w' => e = .returned (.agg (eX p)) ∧ Below w.heap.size w w') := fun w h => by rw [hp]; exact qy C w (by omega) h
 have HRS : Hid (∀ w : World, nP w → Tab.Pow w → Max w → Calls Tryz.prog 41 #[.agg (eX p), .pointer none] w (mG w OR)) := fun w a c d => by rw [Y5]; exact NC p w (by omega) a c d
 have FM : Hid (∀ (u : U) (A : Option Addr) (n c : Nat) (w : World), Calls Tryz.prog 42 #[.agg (cells u (.slice A n c)), .agg (eX p)] w fun e w' => e = .returned (.agg (cells (aI.finish u p) (.slice A n c))) ∧ Below w.heap.size w w') := fun u A n c w => Hr u p A n c w (by omega) (by omega)
 have hTI : ¬ ((strOf T).size : Int) > 65536 := by rw [ah]; omega
 have hTI2 : ((strOf T).size : Int) ≤ 65536 := by omega
 have HL := hid hL
 have HT := hid hT
 have HM := hid hM
 have HUT := hid hU
 clear hOU Y5 hp hC hL hT hM hU hpl hcl
 obtain ⟨s, rt, q, f, hq, hf⟩ := p
 go_enter Tryz.func12, Tryz.ntmps12
 go_upto_region 1 with (fail)
 generalize hw : World.alloc w _ = w1
 have h1 : UB w1 (w.heap.size) (U0) (.slice none 0 0) ∧ Below w.heap.size w w1 := by
  subst hw
  exact laid1 w _ _
 clear hw
 have bG : Hid (w.heap.size ≤ w.heap.size) := (Below.refl w.heap.size w).size
 have bU := hid (bel (Below.refl w.heap.size w) h1.2)
 have aY := hid h1.1
 clear h1
 go_wp2_with fail
 refine (QC.out _ (HUT.out.below bU.out)).mono ?_
 rintro e w2 ⟨rfl, hbx⟩
 have bT := hid (aY.out.below hbx)
 have dY := hid (bel bU.out hbx)
 clear aY bU
 clear hbx
 go_wp2_with fail
 refine (HAP.out _ (HM.out.below dY.out)).mono ?_
 rintro e w3 ⟨rfl, hbx⟩
 have bD := hid (bT.out.below hbx)
 have dD := hid (bel dY.out hbx)
 clear bT dY
 clear hbx
 rw [show Value.agg (eX ⟨s, rt, q, f, hq, hf⟩) = .agg #[.string (strOf s), .string (strOf rt), .string (strOf q), .string (strOf f), .bool hq, .bool hf] from rfl]
 go_upto_region 4 with (fail)
 generalize hw : World.alloc w3 _ = w4
 have h1 : PB w4 (w3.heap.size) (⟨s, rt, q, f, hq, hf⟩) ∧ Below w3.heap.size w3 w4 := by
  subst hw
  exact laid1 w3 _ _
 clear hw
 have hlr := bD.out.lt
 have LY : Hid (w.heap.size ≠ w3.heap.size) := by show _ ≠ _; omega
 have LX : Hid (w3.heap.size ≠ w.heap.size) := by show _ ≠ _; omega
 clear hlr
 have VN : Hid (w.heap.size ≤ w3.heap.size) := dD.out.size
 have bg := hid (bD.out.below h1.2)
 have bZ := hid (bel dD.out h1.2)
 have oU := hid h1.1
 clear bD dD
 clear h1
 obtain ⟨p0, p1, p2, p3, p4, p5⟩ := oU.out.facts
 go_wp2_with fail
 clear p0 p1 p2 p3 p4 p5
 refine (HRS.out _ (HL.out.below bZ.out) (bJ HT.out bZ.out) (HM.out.below bZ.out)).mono ?_
 rintro e w5 ⟨hbx, u', A', n', c', ok, rfl, hown, yu⟩
 have fK : Hid (w.heap.size < w4.heap.size) := bg.out.lt
 have FP : Hid (w.heap.size ≤ w4.heap.size) := bZ.out.size
 have bf := hid (bg.out.below hbx)
 have oV := hid (oU.out.below hbx)
 have dQ := hid (bel bZ.out hbx)
 have Ee := hid yu
 have HWw5 := hid (show Own w4 w5 u' A' n' c' from hown)
 clear yu hown
 clear bg oU bZ
 clear hbx
 rw [show Value.agg (cells u' (.slice A' n' c')) = .agg #[.string (strOf u'.au), .string (strOf u'.usr), .string (strOf u'.dR), .string (strOf u'.hst), .bool u'.hh, .int .i64 u'.port, .bool u'.opq, .string (strOf u'.txt), .slice A' n' c', .bool u'.hq, .bool u'.hf, .string (strOf u'.eu), .string (strOf u'.fH)] from rfl]
 go_upto_region 5 with (fail)
 generalize hw : World.alloc w5 _ = w6
 have h1 : UB w6 (w5.heap.size) (u') (.slice A' n' c') ∧ Below w5.heap.size w5 w6 := by
  subst hw
  exact laid1 w5 _ _
 clear hw
 have hlr := bf.out.lt
 have aO : Hid (w.heap.size ≠ w5.heap.size) := by show _ ≠ _; omega
 have nS : Hid (w5.heap.size ≠ w.heap.size) := by show _ ≠ _; omega
 clear hlr
 have hlp := oV.out.lt
 have jr : Hid (w3.heap.size ≠ w5.heap.size) := by show _ ≠ _; omega
 have L6 : Hid (w5.heap.size ≠ w3.heap.size) := by show _ ≠ _; omega
 clear hlp
 have dN : Hid (w.heap.size ≤ w5.heap.size) := dQ.out.size
 have bF := hid (bf.out.below h1.2)
 have Cc := hid (oV.out.below h1.2)
 have dZ := hid (bel dQ.out h1.2)
 have aV := hid h1.1
 have HBU := hid h1.2
 clear bf oV dQ
 clear h1
 skip
 cases ok with
 | false =>
  have mM : Hid (OU = none) := by
   show _ = _
   rcases Ee.out with ⟨_, h⟩ | ⟨h, _⟩
   ·cases h
   ·rw [HOU.out, h]; rfl
  go_wp2_with (refine ak bF.out U0 none 0 0 (.tmp 4) (.tmp 24) rfl rfl rfl rfl ?_)
  try simp only [Exit.inBlock, Exit.then]
  refine bodyPost_ret (w := World.setRow w6 w.heap.size (cells U0 (.slice none 0 0))) (aak (u := U0) (p := .slice none 0 0) rfl (bF.out.row U0 _) 2 _ rfl rfl) rfl ?_
  rw [mM.out]
  exact ⟨below_setRow dZ.out bG.out _, none, 0, 0, rfl, vW _ _ rfl⟩
 | true =>
  have HSO : Hid (OU = some (aI.finish u' ⟨s, rt, q, f, hq, hf⟩)) := by
   show _ = _
   rcases Ee.out with ⟨h, _⟩ | ⟨_, h, _⟩
   ·rw [HOU.out, h]; rfl
   ·cases h
  have hfp : (aI.finish u' ⟨s, rt, q, f, hq, hf⟩).aF = u'.aF := Ht _ _
  obtain ⟨d0, d1, d2, d3, d4, d5, d6, d7, d8, d9, d10, d11, d12⟩ := aV.out.facts
  obtain ⟨p0, p1, p2, p3, p4, p5⟩ := Cc.out.facts
  go_wp2_with fail
  clear d0 d1 d2 d3 d4 d5 d6 d7 d8 d9 d10 d11 d12
  clear p0 p1 p2 p3 p4 p5
  skip
  have XB : Hid (Below w5.heap.size w5 w6) := HBU.out
  refine (FM.out u' A' n' c' _).mono ?_
  rintro e w7 ⟨rfl, hbx⟩
  have cu := hid (bF.out.below hbx)
  have HXpw7 := hid (Cc.out.below hbx)
  have cZ := hid (aV.out.below hbx)
  have fZ := hid (bel dZ.out hbx)
  clear bF Cc aV dZ
  have HBX9 := hid hbx
  clear hbx
  have hwn := (HWw5.out.below XB.out).below HBX9.out
  go_wp2_with (refine ak cu.out (aI.finish u' ⟨s, rt, q, f, hq, hf⟩) A' n' c' (.tmp 4) (.tmp 27) rfl rfl rfl rfl ?_)
  try simp only [Exit.inBlock, Exit.then]
  have ho := (hwn.row fK.out (cells (aI.finish u' ⟨s, rt, q, f, hq, hf⟩) (.slice A' n' c'))).base FP.out
  refine bodyPost_ret (w := World.setRow w7 w.heap.size (cells (aI.finish u' ⟨s, rt, q, f, hq, hf⟩) (.slice A' n' c'))) (aak (u := aI.finish u' ⟨s, rt, q, f, hq, hf⟩) (p := .slice A' n' c') rfl (cu.out.row _ _) 0 _ rfl rfl) rfl ?_
  rw [HSO.out]
  exact ⟨below_setRow fZ.out bG.out _, A', n', c', rfl, by show Own _ _ (aI.finish u' ⟨s, rt, q, f, hq, hf⟩) _ _ _; unfold Own; rw [hfp]; exact ho⟩
end Go.Proofs.YtmdofbccebkbiaaGreatDoor.Yc
