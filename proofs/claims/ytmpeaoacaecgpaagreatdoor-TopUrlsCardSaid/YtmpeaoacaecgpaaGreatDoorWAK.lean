/- Texts that belong together: aj9, OpqA, OpqB, aj8. -/
import Derived.Test.YtmpeaoacaecgpaaGreatDoorWAJ
import Derived.Test.YtmpeaoacaecgpaaGreatDoorWAA
set_option linter.unusedSimpArgs false
set_option linter.unusedVariables false
set_option maxRecDepth 100000
set_option maxHeartbeats 64000000
namespace Go.Proofs.YtmpeaoacaecgpaaGreatDoor.aj9
open Go.RowKit Base Regs Base2 dI cO PthG PthH PthJ UrlA PrsP yw tN Fp mW Pbx tK yx jQ sU pO TI
theorem pre_len {r : List UInt8} (h : Lib.hasPrefix r [47, 47] = true) : 2 ≤ r.length := by
 unfold Lib.hasPrefix at h
 match r, h with
 | [], h => cases h
 | [a], h => simp [List.isPrefixOf] at h
 | a :: b :: t, _ => simp
theorem anT (E : List UInt8) : (Lib.trimSuffix E [32]).length ≤ E.length := by
 unfold Lib.trimSuffix
 split
 ·simp
 ·exact Nat.le_refl _
theorem VL (p : Parts) (w : World) (hs : p.rest.length ≤ 900000) (hL : oI w) (hT : Tab.Pow w) (hM : Max w) : Calls Tryz.prog 119 #[.agg (bQ p)] w (mO w (PrsP.plain p)) := by
 obtain ⟨s, r, q, f, hq, hf⟩ := p
 simp only at hs
 obtain ⟨O, hO⟩ : ∃ O, O = PrsP.plain ⟨s, r, q, f, hq, hf⟩ := ⟨_, rfl⟩
 rw [← hO]
 obtain ⟨a2, ha2⟩ : ∃ x, x = Lib.hasPrefix r [47, 47] := ⟨_, rfl⟩
 obtain ⟨a1, ha1⟩ : ∃ x, x = Lib.hasPrefix r [47] := ⟨_, rfl⟩
 unfold PrsP.plain at hO
 simp only at hO
 rw [← ha2, ← ha1] at hO
 have h2l : a2 = true → 2 ≤ r.length := fun h => by rw [h] at ha2; exact pre_len ha2.symm
 have H2L := hid h2l
 have HP2 : Hid (∀ w : World, Calls Tryz.prog 103 #[.string (strOf r), .string ⟨#[47, 47]⟩] w fun e w' => e = .returned (.bool a2) ∧ w' = w) := fun w => by rw [ha2]; exact Tryz.strings_HasPrefix (strOf r) ⟨#[47, 47]⟩ w
 have yc : Hid (∀ w : World, Calls Tryz.prog 103 #[.string (strOf r), .string ⟨#[47]⟩] w fun e w' => e = .returned (.bool a1) ∧ w' = w) := fun w => by rw [ha1]; exact Tryz.strings_HasPrefix (strOf r) ⟨#[47]⟩ w
 have HAU : Hid (∀ (L : List UInt8) (w : World), L.length ≤ 900000 → oI w → Tab.Pow w → Max w → Calls Tryz.prog 116 #[.string (strOf s), .string (strOf L)] w (mO w (authority s L))) := fun L w h a c d => qP s L w h a c d
 have UC : Hid (∀ w : World, Calls Tryz.prog 226 #[.string (strOf s), .string (strOf r)] w (lu w.heap.size w (rooted s r))) := fun w => AA (strOf s) (strOf r) w (dW (by omega))
 obtain ⟨E, hE⟩ : ∃ E, E = EscE.enc 0 r := ⟨_, rfl⟩
 have hEl : E.length ≤ 3000000 := by rw [hE]; have := EscE.iW 0 r; omega
 have F6 : Hid (∀ (A : Option Addr) (n c : Nat) (w : World), aY w A n (ah r) → n ≤ 1073741824 → Calls Tryz.prog 121 #[.int .i64 0, .slice A n c] w fun e w' => e = .returned (.string (strOf E)) ∧ Below w.heap.size w w') := fun A n c w h1 h2 => by rw [hE]; exact EscE.eF 0 A n c r w h1 h2
 have hop : PrsP.opq (hq || hf) r = if Lib.hasSuffix E [32] = true ∧ (hq || hf) = true then Lib.trimSuffix E [32] ++ [37, 50, 48] else E := by rw [hE]; rfl
 rw [hop] at hO
 obtain ⟨sb, hsb⟩ : ∃ x, x = Lib.hasSuffix E [32] := ⟨_, rfl⟩
 obtain ⟨TS, hTS⟩ : ∃ x, x = Lib.trimSuffix E [32] := ⟨_, rfl⟩
 have hTSl : TS.length ≤ 3000000 := by rw [hTS]; have := anT E; omega
 have Y5 : Hid (∀ w : World, Calls Tryz.prog 171 #[.string (strOf E), .string ⟨#[32]⟩] w fun e w' => e = .returned (.tuple #[.string (strOf TS), .bool sb]) ∧ w' = w) := fun w => by rw [hTS, hsb]; exact Tryz.strings_CutSuffix (strOf E) ⟨#[32]⟩ w (by rw [size_strOf]; omega)
 have HAD : Hid (∀ w : World, (Op.stringOp .add (strOf TS) ⟨#[37, 50, 48]⟩).run Tryz.prog w = .ok (.string (strOf (TS ++ [37, 50, 48]))) w) := fun w => dL (strOf TS) ⟨#[37, 50, 48]⟩ w (by rw [size_strOf]; show _ + 3 ≤ _; omega)
 rw [← hsb, ← hTS] at hO
 have HO := hid hO
 have HL := hid hL
 have HT := hid hT
 have HM := hid hM
 clear hO ha2 ha1 h2l hop hsb hTS hE hL hT hM
 go_enter Tryz.func119, Tryz.ntmps119
 go_upto_region 1 with (fail)
 generalize hw : World.alloc (World.alloc w _) _ = w1
 have h1 : PB w1 (w.heap.size) (⟨s, r, q, f, hq, hf⟩) ∧ UB w1 ((w.heap.size + 1)) (U0) (.slice none 0 0) ∧ Below w.heap.size w w1 := by
  subst hw
  exact laid2 w _ _ _ _
 clear hw
 have J8 : Hid (w.heap.size ≠ (w.heap.size + 1)) := by show _ ≠ _; omega
 have J9 : Hid ((w.heap.size + 1) ≠ w.heap.size) := by show _ ≠ _; omega
 have WL : Hid (w.heap.size ≤ w.heap.size) := Nat.le_refl _
 have bP : Hid (w.heap.size ≤ (w.heap.size + 1)) := Nat.le_succ _
 have dF := hid h1.1
 have aW := hid h1.2.1
 have bM := hid h1.2.2
 clear h1
 obtain ⟨p0, p1, p2, p3, p4, p5⟩ := dF.out.facts
 go_upto_region 7 with (fail)
 generalize hw : World.alloc w1 _ = w2
 have h1 : UB w2 (w1.heap.size) ({ U0 with au := s, port := -1 }) (.slice none 0 0) ∧ Below w1.heap.size w1 w2 := by
  subst hw
  exact laid1 w1 _ _
 clear hw
 have hlp := dF.out.lt
 have jf : Hid (w.heap.size ≠ w1.heap.size) := by show _ ≠ _; omega
 have Ko : Hid (w1.heap.size ≠ w.heap.size) := by show _ ≠ _; omega
 clear hlp
 have hlr := aW.out.lt
 have aX : Hid ((w.heap.size + 1) ≠ w1.heap.size) := by show _ ≠ _; omega
 have nO : Hid (w1.heap.size ≠ (w.heap.size + 1)) := by show _ ≠ _; omega
 clear hlr
 have fK : Hid (w.heap.size ≤ w1.heap.size) := bM.out.size
 have jE := hid (dF.out.below h1.2)
 have bK := hid (aW.out.below h1.2)
 have eX := hid (bel bM.out h1.2)
 have fZ := hid h1.1
 clear dF aW bM
 clear h1
 clear p0 p1 p2 p3 p4 p5
 obtain ⟨p0, p1, p2, p3, p4, p5⟩ := jE.out.facts
 go_wp2_with fail
 refine (HP2.out _).mono ?_
 rintro e wx ⟨rfl, hwx⟩
 obtain rfl : w2 = wx := by first | exact hwx | exact hwx.symm
 clear hwx
 cases a2 with
 | true =>
  have hl2 := H2L.out (by simp)
  have iV : Hid (O = authority s (r.drop 2)) := by show _ = _; rw [HO.out, if_pos (by simp)]
  obtain ⟨T2, hT2⟩ : ∃ x, x = r.drop 2 := ⟨_, rfl⟩
  have hx2 : (strOf r).extract 2 (strOf r).size = strOf T2 := by rw [l7, hT2]; rfl
  have gY := hid hx2
  have hkI : (2 : Int) ≤ ((strOf r).size : Int) := by rw [size_strOf]; omega
  rw [← hT2] at iV
  have XL : T2.length ≤ 900000 := by rw [hT2, List.length_drop]; omega
  have iy : Hid ((w.heap.size + 1) < w2.heap.size) := bK.out.lt
  have HF := hid jE.out.facts
  obtain ⟨OA, hOA⟩ : ∃ x, x = authority s T2 := ⟨_, rfl⟩
  have HAU2 : Hid (∀ w : World, oI w → Tab.Pow w → Max w → Calls Tryz.prog 116 #[.string (strOf s), .string (strOf T2)] w (mO w OA)) := fun w a b c => by rw [hOA]; exact HAU.out T2 w (by omega) a b c
  rw [← hOA] at iV
  clear hT2 hl2 hx2 hOA
  clear p0 p1 p2 p3 p4 p5
  go_upto_region 8 with (fail)
  refine bC (by kernel_rfl) 8 [is (.pointer (some ⟨w.heap.size, 0, none⟩)), is (.string (strOf s)), is (.pointer (some ⟨w.heap.size, 1, none⟩)), is (.string (strOf r)), is (.string (strOf T2)), aeL OA w2.heap.size, ab3 OA w2.heap.size, is (.bool OA.isSome)] [[], [0], [], [2], [2, 3], [0, 1, 2, 3, 4], [0, 1, 2, 3, 4, 5], [0, 1, 2, 3, 4, 5], [0, 1, 2, 3, 4, 5, 6, 7]] (by kernel_rfl) ?_ ?_
  ·refine ⟨?_, ?_, ?_, ?_, ?_, ?_, ?_, ?_, trivial⟩
   all_goals (intro t wq hbq hh K hK; simp only [filled, aj, upd, Have, is, any, row, pick, Act.put, List.setIfInBounds_toArray, List.set_cons_zero, List.set_cons_succ, Nat.reduceAdd, Nat.reduceEqDiff, reduceIte, List.tail_cons, List.headD_cons] at hh hK ⊢)
   ·(try clear hh); go_simp; exact hK _ _ (Below.refl _ _) rfl
   ·simp only [hh] at hK ⊢; clear hh; have hc := HF.out.1; have hc2 := (hbq.cell (p := ⟨w.heap.size, 0, none⟩) (by have := iy.out; show w.heap.size < _; omega)).trans hc; go_simp; exact hK _ _ (Below.refl _ _) rfl
   ·(try clear hh); go_simp; exact hK _ _ (Below.refl _ _) rfl
   ·simp only [hh] at hK ⊢; clear hh; have hc := HF.out.2.1; have hc2 := (hbq.cell (p := ⟨w.heap.size, 1, none⟩) (by have := iy.out; show w.heap.size < _; omega)).trans hc; go_simp; exact hK _ _ (Below.refl _ _) rfl
   ·simp only [hh] at hK ⊢; clear hh; have hx := gY.out; go_simp; exact hK _ _ (Below.refl _ _) rfl
   ·simp only [hh] at hK ⊢; clear hh; go_simp; refine (HAU2.out _ (HL.out.below (bel eX.out hbq)) (bY HT.out (bel eX.out hbq)) (HM.out.below (bel eX.out hbq))).mono ?_; intro e w9 ha; obtain ⟨mG, A9, n9, c9, rfl, Tq⟩ := Regs.ql ha; exact hK _ _ mG ⟨A9, n9, c9, rfl, ay Tq hbq.size⟩
   ·have e5 := hh.2.2.2.2.2.1; (try clear hh); obtain ⟨A5, n5, c5, e5, XU⟩ := e5; simp only [e5] at hK ⊢; go_simp; exact hK _ _ (Below.refl _ _) ⟨_, _, _, rfl, XU⟩
   ·have e5 := hh.2.2.2.2.2.1; (try clear hh); obtain ⟨A5, n5, c5, e5, XU⟩ := e5; simp only [e5] at hK ⊢; go_simp; exact hK _ _ (Below.refl _ _) rfl
  ·intro t wq hbq hh
   have f6 := aB hh 6 (by decide)
   simp only [pick] at f6
   have f7 := aB hh 7 (by decide)
   simp only [pick] at f7
   replace f7 : t 7 = (.bool OA.isSome) := f7
   clear hh
   simp only [filled, aj, upd, Have, is, any, row, pick, Act.put, List.setIfInBounds_toArray, List.set_cons_zero, List.set_cons_succ, Nat.reduceAdd, Nat.reduceEqDiff, reduceIte]
   obtain ⟨A6, n6, c6, f6, YS⟩ := f6
   simp only [f6, f7]
   have yj := hid (bK.out.below hbq)
   have Et := hid (bel eX.out hbq)
   have Ak := hid YS
   clear YS hbq
   refine aC yj.out ((OA).getD U0) A6 n6 c6 (.tmp 2) (.tmp 44) rfl rfl rfl rfl ?_
   go_wp2
   try simp only [Exit.inBlock, Exit.then]
   have ho := ay (gU.aN (w' := World.setRow wq (w.heap.size + 1) (cells ((OA).getD U0) (.slice A6 n6 c6))) (gb := (w.heap.size + 1)) (Ak.out) (fun k hk => setRow_other _ _ _ _ hk) iy.out) (by have h1 := bP.out; have h2 := iy.out; omega : w.heap.size ≤ _)
   refine bodyPost_ret (w := World.setRow wq (w.heap.size + 1) (cells ((OA).getD U0) (.slice A6 n6 c6))) (res2 (u := (OA).getD U0) (p := .slice A6 n6 c6) rfl (yj.out.row _ _) (OA).isSome _ rfl rfl) rfl ?_
   rw [iV.out]
   exact Regs.qM (below_setRow Et.out bP.out _) ho
 | false =>
  have jy : Hid (O = if a1 = true then some { U0 with au := s, port := -1, aO := rooted s r } else some { U0 with au := s, port := -1, opq := true, txt := if sb = true ∧ (hq || hf) = true then TS ++ [37, 50, 48] else E }) := by show _ = _; rw [HO.out, if_neg (by simp)]
  clear HO H2L HAU
  go_wp2_with fail
  refine (yc.out _).mono ?_
  rintro e wx ⟨rfl, hwx⟩
  obtain rfl : w2 = wx := by first | exact hwx | exact hwx.symm
  clear hwx
  cases a1 with
  | true =>
   have iV : Hid (O = some { U0 with au := s, port := -1, aO := rooted s r }) := by show _ = _; rw [jy.out, if_pos (by simp)]
   go_wp2_with fail
   clear p0 p1 p2 p3 p4 p5
   refine (UC.out _).mono ?_
   rintro e w3 ⟨q1, rfl, hown, hbx⟩
   obtain ⟨Aq, cq, rfl, hq1⟩ := bW (u := { U0 with aO := rooted s r }) hown
   clear hq1
   replace hown := ay hown (Nat.le_refl _)
   have zF : Hid (w1.heap.size < w2.heap.size) := fZ.out.lt
   have iy : Hid ((w.heap.size + 1) < w2.heap.size) := bK.out.lt
   have mY := hid (jE.out.below hbx)
   have bD := hid (bK.out.below hbx)
   have eY := hid (fZ.out.below hbx)
   have cZ := hid (bel eX.out hbx)
   have HOqw3 := hid hown
   clear hown
   clear jE bK fZ eX
   clear hbx
   have hoq := gU.aN (w' := w3.setCell ⟨w1.heap.size, 8, none⟩ (.slice Aq (rooted s r).length cq)) (gb := w1.heap.size) HOqw3.out (fun k hk => heap_setCell_other _ _ _ _ hk) zF.out
   have hoq2 := hid hoq
   clear hoq HOqw3
   have cx := eY.out.facts.2.2.2.2.2.2.2.2.1
   have fx := eY.out.thaw.2.2.2.2.2.2.2.2.1
   go_upto_region 11 with (fail)
   have hxp := mY.out.set (k := w1.heap.size) (i := 8) (.slice Aq (rooted s r).length cq) jf.out
   have hxr := bD.out.set (k := w1.heap.size) (i := 8) (.slice Aq (rooted s r).length cq) aX.out
   have hxu := eY.out.path (.slice Aq (rooted s r).length cq)
   have hb := cZ.out.setCell (p := ⟨w1.heap.size, 8, none⟩) fK.out (.slice Aq (rooted s r).length cq)
   have hoq := hoq2.out
   clear mY bD eY cZ
   clear cx fx hoq2
   generalize World.setCell w3 _ _ = w4 at hxp hxr hxu hb hoq ⊢
   have kT : Hid (PB w4 (w.heap.size) (⟨s, r, q, f, hq, hf⟩)) := hxp
   clear hxp
   have bF : Hid (UB w4 ((w.heap.size + 1)) (U0) (.slice none 0 0)) := hxr
   clear hxr
   have bV : Hid (UB w4 (w1.heap.size) ({ U0 with au := s, port := -1 }) (.slice Aq (rooted s r).length cq)) := hxu
   clear hxu
   have dD := hid hb
   have OQ := hid hoq
   clear hb hoq
   obtain ⟨c0, c1, c2', c3, c4, c5, c6, c7, c8, c9, c10, c11, c12⟩ := bV.out.facts
   go_wp2_with (refine aC bF.out ({ U0 with au := s, port := -1 }) Aq (rooted s r).length cq (.tmp 2) (.tmp 56) rfl rfl rfl rfl ?_)
   try simp only [Exit.inBlock, Exit.then]
   have hpo : ∀ k, k ≠ (w.heap.size + 1) → (World.setRow w4 ((w.heap.size + 1)) (cells ({ U0 with au := s, port := -1 }) (.slice Aq (rooted s r).length cq))).heap[k]? = w4.heap[k]? := fun k hk => setRow_other _ _ _ _ hk
   have ho := ay (gU.aN OQ.out hpo iy.out) (by have h1 := bP.out; have h2 := iy.out; omega : w.heap.size ≤ _)
   exact bodyPost_ret (w := World.setRow w4 (w.heap.size + 1) (cells ({ U0 with au := s, port := -1 }) (.slice Aq (rooted s r).length cq))) (res2 (u := { U0 with au := s, port := -1 }) (p := .slice Aq (rooted s r).length cq) rfl (bF.out.row ({ U0 with au := s, port := -1 }) _) true _ rfl rfl) rfl (eH (u := { U0 with au := s, port := -1, aO := rooted s r }) iV.out (below_setRow dD.out bP.out _) ho)
  | false =>
   have iV : Hid (O = some { U0 with au := s, port := -1, opq := true, txt := if sb = true ∧ (hq || hf) = true then TS ++ [37, 50, 48] else E }) := by show _ = _; rw [jy.out, if_neg (by simp)]
   clear jy
   clear p0 p1 p2 p3 p4 p5
   have cx6 := fZ.out.facts.2.2.2.2.2.2.1
   have fx6 := fZ.out.thaw.2.2.2.2.2.2.1
   go_upto_region 3 with (fail)
   have hxp := (jE.out.set (k := w1.heap.size) (i := 6) (.bool true) jf.out)
   have hxr := (bK.out.set (k := w1.heap.size) (i := 6) (.bool true) aX.out)
   have hxu := (fZ.out.opq true)
   have hb := (eX.out.setCell (p := ⟨w1.heap.size, 6, none⟩) fK.out (.bool true))
   clear jE bK fZ eX
   clear cx6 fx6
   generalize (World.setCell w2 ⟨w1.heap.size, 6, none⟩ (.bool true)) = w3 at hxp hxr hxu hb ⊢
   have mY : Hid (PB w3 (w.heap.size) (⟨s, r, q, f, hq, hf⟩)) := hxp
   clear hxp
   have bD : Hid (UB w3 ((w.heap.size + 1)) (U0) (.slice none 0 0)) := hxr
   clear hxr
   have eY : Hid (UB w3 (w1.heap.size) ({ U0 with au := s, port := -1, opq := true }) (.slice none 0 0)) := hxu
   clear hxu
   have cZ := hid hb
   clear hb
   obtain ⟨p0, p1, p2, p3, p4, p5⟩ := mY.out.facts
   have hcv := fun (w : World) s => run_bytes_of_string (P := Tryz.prog) w 9 45 5 s Tryz.underlying9 Tryz.underlying45 Tryz.underlying5
   go_wp2_with fail
   clear hcv
   refine (F6.out _ _ _ _ (fV (strOf r) _ _ _) (dW (by omega))).mono ?_
   rintro e w4 ⟨rfl, hb0⟩
   have hbx : Below w3.heap.size w3 w4 := bel (((Below.refl w3.heap.size w3).alloc (Nat.le_refl _) _).drew) hb0
   clear hb0
   have kT := hid (mY.out.below hbx)
   have bF := hid (bD.out.below hbx)
   have bV := hid (eY.out.below hbx)
   have dD := hid (bel cZ.out hbx)
   clear mY bD eY cZ
   clear hbx
   clear p0 p1 p2 p3 p4 p5
   have SH := bV.out.facts.2.2.2.2.2.2.2.1
   have fx7 := bV.out.thaw.2.2.2.2.2.2.2.1
   go_upto_region 4 with (fail)
   have hxp := (kT.out.set (k := w1.heap.size) (i := 7) (.string (strOf E)) jf.out)
   have hxr := (bF.out.set (k := w1.heap.size) (i := 7) (.string (strOf E)) aX.out)
   have hxu := (bV.out.txt E)
   have hb := (dD.out.setCell (p := ⟨w1.heap.size, 7, none⟩) fK.out (.string (strOf E)))
   clear kT bF bV dD
   clear SH fx7
   generalize (World.setCell w4 ⟨w1.heap.size, 7, none⟩ (.string (strOf E))) = w5 at hxp hxr hxu hb ⊢
   have mF : Hid (PB w5 (w.heap.size) (⟨s, r, q, f, hq, hf⟩)) := hxp
   clear hxp
   have bH : Hid (UB w5 ((w.heap.size + 1)) (U0) (.slice none 0 0)) := hxr
   clear hxr
   have bJ : Hid (UB w5 (w1.heap.size) ({ U0 with au := s, port := -1, opq := true, txt := E }) (.slice none 0 0)) := hxu
   clear hxu
   have fC := hid hb
   clear hb
   have SH := bJ.out.facts.2.2.2.2.2.2.2.1
   go_wp2_with fail
   refine (Y5.out _).mono ?_
   rintro e wx ⟨rfl, hwx⟩
   obtain rfl : w5 = wx := by first | exact hwx | exact hwx.symm
   clear hwx
   cases sb with
   | false =>
    go_upto_region 11 with (fail)
    clear SH
    have mX : Hid (O = some { U0 with au := s, port := -1, opq := true, txt := E }) := by show _ = _; rw [iV.out]; first | done | rfl | simp
    obtain ⟨c0, c1, c2', c3, c4, c5, c6, c7, c8, c9, c10, c11, c12⟩ := bJ.out.facts
    go_wp2_with (refine aC bH.out { U0 with au := s, port := -1, opq := true, txt := E } none 0 0 (.tmp 2) (.tmp 56) rfl rfl rfl rfl ?_)
    try simp only [Exit.inBlock, Exit.then]
    exact bodyPost_ret (w := World.setRow w5 (w.heap.size + 1) (cells { U0 with au := s, port := -1, opq := true, txt := E } (.slice none 0 0))) (res2 (u := { U0 with au := s, port := -1, opq := true, txt := E }) (p := .slice none 0 0) rfl (bH.out.row { U0 with au := s, port := -1, opq := true, txt := E } _) true _ rfl rfl) rfl (eH (u := { U0 with au := s, port := -1, opq := true, txt := E }) mX.out (below_setRow fC.out bP.out _) (wY _ _ rfl))
   | true =>
    cases hq with
    | true =>
     obtain ⟨p0, p1, p2, p3, p4, p5⟩ := mF.out.facts
     have had := HAD.out
     clear SH
     have SH := bJ.out.facts.2.2.2.2.2.2.2.1
     have fx7 := bJ.out.thaw.2.2.2.2.2.2.2.1
     go_upto_region 11 with (fail)
     have hxp := (mF.out.set (k := w1.heap.size) (i := 7) (.string (strOf (TS ++ [37, 50, 48]))) jf.out)
     have hxr := (bH.out.set (k := w1.heap.size) (i := 7) (.string (strOf (TS ++ [37, 50, 48]))) aX.out)
     have hxu := (bJ.out.txt (TS ++ [37, 50, 48]))
     have hb := (fC.out.setCell (p := ⟨w1.heap.size, 7, none⟩) fK.out (.string (strOf (TS ++ [37, 50, 48]))))
     clear mF bH bJ fC
     clear SH fx7
     generalize (World.setCell w5 ⟨w1.heap.size, 7, none⟩ (.string (strOf (TS ++ [37, 50, 48])))) = w6 at hxp hxr hxu hb ⊢
     have yg : Hid (PB w6 (w.heap.size) (⟨s, r, q, f, true, hf⟩)) := hxp
     clear hxp
     have bT : Hid (UB w6 ((w.heap.size + 1)) (U0) (.slice none 0 0)) := hxr
     clear hxr
     have bG : Hid (UB w6 (w1.heap.size) ({ U0 with au := s, port := -1, opq := true, txt := TS ++ [37, 50, 48] }) (.slice none 0 0)) := hxu
     clear hxu
     have gq := hid hb
     clear hb
     clear p0 p1 p2 p3 p4 p5
     clear had
     have mX : Hid (O = some { U0 with au := s, port := -1, opq := true, txt := TS ++ [37, 50, 48] }) := by show _ = _; rw [iV.out]; first | done | rfl | simp
     obtain ⟨c0, c1, c2', c3, c4, c5, c6, c7, c8, c9, c10, c11, c12⟩ := bG.out.facts
     go_wp2_with (refine aC bT.out { U0 with au := s, port := -1, opq := true, txt := TS ++ [37, 50, 48] } none 0 0 (.tmp 2) (.tmp 56) rfl rfl rfl rfl ?_)
     try simp only [Exit.inBlock, Exit.then]
     exact bodyPost_ret (w := World.setRow w6 (w.heap.size + 1) (cells { U0 with au := s, port := -1, opq := true, txt := TS ++ [37, 50, 48] } (.slice none 0 0))) (res2 (u := { U0 with au := s, port := -1, opq := true, txt := TS ++ [37, 50, 48] }) (p := .slice none 0 0) rfl (bT.out.row { U0 with au := s, port := -1, opq := true, txt := TS ++ [37, 50, 48] } _) true _ rfl rfl) rfl (eH (u := { U0 with au := s, port := -1, opq := true, txt := TS ++ [37, 50, 48] }) mX.out (below_setRow gq.out bP.out _) (wY _ _ rfl))
    | false =>
     cases hf with
     | true =>
      obtain ⟨p0, p1, p2, p3, p4, p5⟩ := mF.out.facts
      have had := HAD.out
      clear SH
      have SH := bJ.out.facts.2.2.2.2.2.2.2.1
      have fx7 := bJ.out.thaw.2.2.2.2.2.2.2.1
      go_upto_region 11 with (fail)
      have hxp := (mF.out.set (k := w1.heap.size) (i := 7) (.string (strOf (TS ++ [37, 50, 48]))) jf.out)
      have hxr := (bH.out.set (k := w1.heap.size) (i := 7) (.string (strOf (TS ++ [37, 50, 48]))) aX.out)
      have hxu := (bJ.out.txt (TS ++ [37, 50, 48]))
      have hb := (fC.out.setCell (p := ⟨w1.heap.size, 7, none⟩) fK.out (.string (strOf (TS ++ [37, 50, 48]))))
      clear mF bH bJ fC
      clear SH fx7
      generalize (World.setCell w5 ⟨w1.heap.size, 7, none⟩ (.string (strOf (TS ++ [37, 50, 48])))) = w6 at hxp hxr hxu hb ⊢
      have yg : Hid (PB w6 (w.heap.size) (⟨s, r, q, f, false, true⟩)) := hxp
      clear hxp
      have bT : Hid (UB w6 ((w.heap.size + 1)) (U0) (.slice none 0 0)) := hxr
      clear hxr
      have bG : Hid (UB w6 (w1.heap.size) ({ U0 with au := s, port := -1, opq := true, txt := TS ++ [37, 50, 48] }) (.slice none 0 0)) := hxu
      clear hxu
      have gq := hid hb
      clear hb
      clear p0 p1 p2 p3 p4 p5
      clear had
      have mX : Hid (O = some { U0 with au := s, port := -1, opq := true, txt := TS ++ [37, 50, 48] }) := by show _ = _; rw [iV.out]; first | done | rfl | simp
      obtain ⟨c0, c1, c2', c3, c4, c5, c6, c7, c8, c9, c10, c11, c12⟩ := bG.out.facts
      go_wp2_with (refine aC bT.out { U0 with au := s, port := -1, opq := true, txt := TS ++ [37, 50, 48] } none 0 0 (.tmp 2) (.tmp 56) rfl rfl rfl rfl ?_)
      try simp only [Exit.inBlock, Exit.then]
      exact bodyPost_ret (w := World.setRow w6 (w.heap.size + 1) (cells { U0 with au := s, port := -1, opq := true, txt := TS ++ [37, 50, 48] } (.slice none 0 0))) (res2 (u := { U0 with au := s, port := -1, opq := true, txt := TS ++ [37, 50, 48] }) (p := .slice none 0 0) rfl (bT.out.row { U0 with au := s, port := -1, opq := true, txt := TS ++ [37, 50, 48] } _) true _ rfl rfl) rfl (eH (u := { U0 with au := s, port := -1, opq := true, txt := TS ++ [37, 50, 48] }) mX.out (below_setRow gq.out bP.out _) (wY _ _ rfl))
     | false =>
      obtain ⟨p0, p1, p2, p3, p4, p5⟩ := mF.out.facts
      go_upto_region 11 with (fail)
      clear SH
      clear p0 p1 p2 p3 p4 p5
      have mX : Hid (O = some { U0 with au := s, port := -1, opq := true, txt := E }) := by show _ = _; rw [iV.out]; first | done | rfl | simp
      obtain ⟨c0, c1, c2', c3, c4, c5, c6, c7, c8, c9, c10, c11, c12⟩ := bJ.out.facts
      go_wp2_with (refine aC bH.out { U0 with au := s, port := -1, opq := true, txt := E } none 0 0 (.tmp 2) (.tmp 56) rfl rfl rfl rfl ?_)
      try simp only [Exit.inBlock, Exit.then]
      exact bodyPost_ret (w := World.setRow w5 (w.heap.size + 1) (cells { U0 with au := s, port := -1, opq := true, txt := E } (.slice none 0 0))) (res2 (u := { U0 with au := s, port := -1, opq := true, txt := E }) (p := .slice none 0 0) rfl (bH.out.row { U0 with au := s, port := -1, opq := true, txt := E } _) true _ rfl rfl) rfl (eH (u := { U0 with au := s, port := -1, opq := true, txt := E }) mX.out (below_setRow fC.out bP.out _) (wY _ _ rfl))
end Go.Proofs.YtmpeaoacaecgpaaGreatDoor.aj9
namespace Go.Proofs.YtmpeaoacaecgpaaGreatDoor.OpqA
open Go.RowKit Base Regs Base2 dI cO PthG PthH PthJ UrlA PrsP yw tN Fp mW Pbx tK yx jQ sU pO TI aj9
theorem aif (p : Parts) (w : World) (hs : p.rest.length ≤ 900000) (h47 : Lib.hasPrefix p.rest [47] = false) (h32 : Lib.hasSuffix (EscE.enc 0 p.rest) [32] = false) : Calls Tryz.prog 119 #[.agg (bQ p)] w (mO w (some { U0 with au := p.au, port := -1, opq := true, txt := EscE.enc 0 p.rest })) := by
 obtain ⟨s, r, q, f, hq, hf⟩ := p
 simp only at hs h47 h32 ⊢
 obtain ⟨E, hE⟩ : ∃ E, E = EscE.enc 0 r := ⟨_, rfl⟩
 rw [← hE] at h32 ⊢
 obtain ⟨O, hO⟩ : ∃ O, O = some ({ U0 with au := s, port := -1, opq := true, txt := E } : U) := ⟨_, rfl⟩
 rw [← hO]
 have h472 : Lib.hasPrefix r [47, 47] = false := by
  unfold Lib.hasPrefix at h47 ⊢
  cases r with
  | nil => rfl
  | cons c t => simp only [List.isPrefixOf, Bool.and_true] at h47 ⊢; rw [h47]; rfl
 have HP2 : Hid (∀ w : World, Calls Tryz.prog 103 #[.string (strOf r), .string ⟨#[47, 47]⟩] w fun e w' => e = .returned (.bool false) ∧ w' = w) := fun w => by rw [← h472]; exact Tryz.strings_HasPrefix (strOf r) ⟨#[47, 47]⟩ w
 have yc : Hid (∀ w : World, Calls Tryz.prog 103 #[.string (strOf r), .string ⟨#[47]⟩] w fun e w' => e = .returned (.bool false) ∧ w' = w) := fun w => by rw [← h47]; exact Tryz.strings_HasPrefix (strOf r) ⟨#[47]⟩ w
 have hEl : E.length ≤ 3000000 := by rw [hE]; have := EscE.iW 0 r; omega
 have F6 : Hid (∀ (A : Option Addr) (n c : Nat) (w : World), aY w A n (ah r) → n ≤ 1073741824 → Calls Tryz.prog 121 #[.int .i64 0, .slice A n c] w fun e w' => e = .returned (.string (strOf E)) ∧ Below w.heap.size w w') := fun A n c w h1 h2 => by rw [hE]; exact EscE.eF 0 A n c r w h1 h2
 obtain ⟨TS, hTS⟩ : ∃ x, x = Lib.trimSuffix E [32] := ⟨_, rfl⟩
 have Y5 : Hid (∀ w : World, Calls Tryz.prog 171 #[.string (strOf E), .string ⟨#[32]⟩] w fun e w' => e = .returned (.tuple #[.string (strOf TS), .bool false]) ∧ w' = w) := fun w => by rw [hTS, ← h32]; exact Tryz.strings_CutSuffix (strOf E) ⟨#[32]⟩ w (by rw [size_strOf]; omega)
 have HO := hid hO
 clear hO h47 h472 h32 hTS hE
 go_enter Tryz.func119, Tryz.ntmps119
 go_upto_region 1 with (fail)
 generalize hw : World.alloc (World.alloc w _) _ = w1
 have h1 : PB w1 (w.heap.size) (⟨s, r, q, f, hq, hf⟩) ∧ UB w1 ((w.heap.size + 1)) (U0) (.slice none 0 0) ∧ Below w.heap.size w w1 := by
  subst hw
  exact laid2 w _ _ _ _
 clear hw
 have J8 : Hid (w.heap.size ≠ (w.heap.size + 1)) := by show _ ≠ _; omega
 have J9 : Hid ((w.heap.size + 1) ≠ w.heap.size) := by show _ ≠ _; omega
 have WL : Hid (w.heap.size ≤ w.heap.size) := Nat.le_refl _
 have bP : Hid (w.heap.size ≤ (w.heap.size + 1)) := Nat.le_succ _
 have dF := hid h1.1
 have aW := hid h1.2.1
 have bM := hid h1.2.2
 clear h1
 obtain ⟨p0, p1, p2, p3, p4, p5⟩ := dF.out.facts
 go_upto_region 7 with (fail)
 generalize hw : World.alloc w1 _ = w2
 have h1 : UB w2 (w1.heap.size) ({ U0 with au := s, port := -1 }) (.slice none 0 0) ∧ Below w1.heap.size w1 w2 := by
  subst hw
  exact laid1 w1 _ _
 clear hw
 have hlp := dF.out.lt
 have jf : Hid (w.heap.size ≠ w1.heap.size) := by show _ ≠ _; omega
 have Ko : Hid (w1.heap.size ≠ w.heap.size) := by show _ ≠ _; omega
 clear hlp
 have hlr := aW.out.lt
 have aX : Hid ((w.heap.size + 1) ≠ w1.heap.size) := by show _ ≠ _; omega
 have nO : Hid (w1.heap.size ≠ (w.heap.size + 1)) := by show _ ≠ _; omega
 clear hlr
 have fK : Hid (w.heap.size ≤ w1.heap.size) := bM.out.size
 have jE := hid (dF.out.below h1.2)
 have bK := hid (aW.out.below h1.2)
 have eX := hid (bel bM.out h1.2)
 have fZ := hid h1.1
 clear dF aW bM
 clear h1
 clear p0 p1 p2 p3 p4 p5
 obtain ⟨p0, p1, p2, p3, p4, p5⟩ := jE.out.facts
 go_wp2_with fail
 refine (HP2.out _).mono ?_
 rintro e wx ⟨rfl, hwx⟩
 obtain rfl : w2 = wx := by first | exact hwx | exact hwx.symm
 clear hwx
 go_wp2_with fail
 refine (yc.out _).mono ?_
 rintro e wx ⟨rfl, hwx⟩
 obtain rfl : w2 = wx := by first | exact hwx | exact hwx.symm
 clear hwx
 clear p0 p1 p2 p3 p4 p5
 have cx6 := fZ.out.facts.2.2.2.2.2.2.1
 have fx6 := fZ.out.thaw.2.2.2.2.2.2.1
 go_upto_region 3 with (fail)
 have hxp := (jE.out.set (k := w1.heap.size) (i := 6) (.bool true) jf.out)
 have hxr := (bK.out.set (k := w1.heap.size) (i := 6) (.bool true) aX.out)
 have hxu := (fZ.out.opq true)
 have hb := (eX.out.setCell (p := ⟨w1.heap.size, 6, none⟩) fK.out (.bool true))
 clear jE bK fZ eX
 clear cx6 fx6
 generalize (World.setCell w2 ⟨w1.heap.size, 6, none⟩ (.bool true)) = w3 at hxp hxr hxu hb ⊢
 have mY : Hid (PB w3 (w.heap.size) (⟨s, r, q, f, hq, hf⟩)) := hxp
 clear hxp
 have bD : Hid (UB w3 ((w.heap.size + 1)) (U0) (.slice none 0 0)) := hxr
 clear hxr
 have eY : Hid (UB w3 (w1.heap.size) ({ U0 with au := s, port := -1, opq := true }) (.slice none 0 0)) := hxu
 clear hxu
 have cZ := hid hb
 clear hb
 obtain ⟨p0, p1, p2, p3, p4, p5⟩ := mY.out.facts
 have hcv := fun (w : World) s => run_bytes_of_string (P := Tryz.prog) w 9 45 5 s Tryz.underlying9 Tryz.underlying45 Tryz.underlying5
 go_wp2_with fail
 clear hcv
 refine (F6.out _ _ _ _ (fV (strOf r) _ _ _) (dW (by omega))).mono ?_
 rintro e w4 ⟨rfl, hb0⟩
 have hbx : Below w3.heap.size w3 w4 := bel (((Below.refl w3.heap.size w3).alloc (Nat.le_refl _) _).drew) hb0
 clear hb0
 have kT := hid (mY.out.below hbx)
 have bF := hid (bD.out.below hbx)
 have bV := hid (eY.out.below hbx)
 have dD := hid (bel cZ.out hbx)
 clear mY bD eY cZ
 clear hbx
 clear p0 p1 p2 p3 p4 p5
 have SH := bV.out.facts.2.2.2.2.2.2.2.1
 have fx7 := bV.out.thaw.2.2.2.2.2.2.2.1
 go_upto_region 4 with (fail)
 have hxp := (kT.out.set (k := w1.heap.size) (i := 7) (.string (strOf E)) jf.out)
 have hxr := (bF.out.set (k := w1.heap.size) (i := 7) (.string (strOf E)) aX.out)
 have hxu := (bV.out.txt E)
 have hb := (dD.out.setCell (p := ⟨w1.heap.size, 7, none⟩) fK.out (.string (strOf E)))
 clear kT bF bV dD
 clear SH fx7
 generalize (World.setCell w4 ⟨w1.heap.size, 7, none⟩ (.string (strOf E))) = w5 at hxp hxr hxu hb ⊢
 have mF : Hid (PB w5 (w.heap.size) (⟨s, r, q, f, hq, hf⟩)) := hxp
 clear hxp
 have bH : Hid (UB w5 ((w.heap.size + 1)) (U0) (.slice none 0 0)) := hxr
 clear hxr
 have bJ : Hid (UB w5 (w1.heap.size) ({ U0 with au := s, port := -1, opq := true, txt := E }) (.slice none 0 0)) := hxu
 clear hxu
 have fC := hid hb
 clear hb
 have SH := bJ.out.facts.2.2.2.2.2.2.2.1
 go_wp2_with fail
 refine (Y5.out _).mono ?_
 rintro e wx ⟨rfl, hwx⟩
 obtain rfl : w5 = wx := by first | exact hwx | exact hwx.symm
 clear hwx
 go_upto_region 11 with (fail)
 clear SH
 have mX : Hid (O = some { U0 with au := s, port := -1, opq := true, txt := E }) := HO
 obtain ⟨c0, c1, c2', c3, c4, c5, c6, c7, c8, c9, c10, c11, c12⟩ := bJ.out.facts
 go_wp2_with (refine aC bH.out { U0 with au := s, port := -1, opq := true, txt := E } none 0 0 (.tmp 2) (.tmp 56) rfl rfl rfl rfl ?_)
 try simp only [Exit.inBlock, Exit.then]
 exact bodyPost_ret (w := World.setRow w5 (w.heap.size + 1) (cells { U0 with au := s, port := -1, opq := true, txt := E } (.slice none 0 0))) (res2 (u := { U0 with au := s, port := -1, opq := true, txt := E }) (p := .slice none 0 0) rfl (bH.out.row { U0 with au := s, port := -1, opq := true, txt := E } _) true _ rfl rfl) rfl (eH (u := { U0 with au := s, port := -1, opq := true, txt := E }) mX.out (below_setRow fC.out bP.out _) (wY _ _ rfl))
end Go.Proofs.YtmpeaoacaecgpaaGreatDoor.OpqA
namespace Go.Proofs.YtmpeaoacaecgpaaGreatDoor.OpqB
open Go.RowKit Base Regs Base2 dI cO PthG PthH PthJ UrlA PrsP yw tN Fp mW Pbx tK yx WS jQ sU pO TI aj9 OpqA
theorem abr (p : Parts) (w : World) (hs : p.rest.length ≤ 700000) (hs1 : p.au ≠ FILE) (hsp : special p.au = false) (h0 : p.au ≠ []) (h47 : Lib.hasPrefix p.rest [47] = false) (h32 : Lib.hasSuffix (EscE.enc 0 p.rest) [32] = false) : Calls Tryz.prog 50 #[.agg (bQ p), .pointer none] w (mO w (some { U0 with au := p.au, port := -1, opq := true, txt := EscE.enc 0 p.rest })) := by
 obtain ⟨s, rt, q, f, hq, hf⟩ := p
 simp only at hs hs1 hsp h0 h47 h32 ⊢
 obtain ⟨O, hO⟩ : ∃ O, O = some ({ U0 with au := s, port := -1, opq := true, txt := EscE.enc 0 rt } : U) := ⟨_, rfl⟩
 rw [← hO]
 have wC : Hid (∀ w : World, Calls Tryz.prog 114 #[.string (strOf s)] w fun e w' => e = .returned (.bool false) ∧ w' = w) := fun w => by rw [← hsp]; exact jv (strOf s) w
 have vW : Hid (∀ w : World, Calls Tryz.prog 119 #[.agg (bQ ⟨s, rt, q, f, hq, hf⟩)] w (mO w O)) := fun w => by rw [hO]; exact aif ⟨s, rt, q, f, hq, hf⟩ w (by show rt.length ≤ _; omega) h47 h32
 clear hO hsp h47 h32
 go_enter Tryz.func50, Tryz.ntmps50
 go_upto_region 1 with (fail)
 generalize hw : World.alloc (World.alloc w _) _ = w1
 have h1 : PB w1 (w.heap.size) (⟨s, rt, q, f, hq, hf⟩) ∧ UB w1 ((w.heap.size + 1)) (U0) (.slice none 0 0) ∧ Below w.heap.size w w1 := by
  subst hw
  exact laid2 w _ _ _ _
 clear hw
 have WL : Hid (w.heap.size ≤ w.heap.size) := Nat.le_refl _
 have bP : Hid (w.heap.size ≤ (w.heap.size + 1)) := Nat.le_succ _
 have dF := hid h1.1
 have aW := hid h1.2.1
 have bM := hid h1.2.2
 clear h1
 obtain ⟨p0, p1, p2, p3, p4, p5⟩ := dF.out.facts
 have afn : ((strOf s).toList == [102, 105, 108, 101]) = false := by rw [aK, beq_eq_false_iff_ne]; exact hs1
 have afo : ¬ (strOf s).toList = [102, 105, 108, 101] := by rw [aK]; exact hs1
 go_wp2_with fail
 refine (wC.out _).mono ?_
 rintro e wx ⟨rfl, hwx⟩
 obtain rfl : w1 = wx := by first | exact hwx | exact hwx.symm
 clear hwx
 have Z9 : ((strOf s).toList == []) = false := by rw [aK, beq_eq_false_iff_ne]; exact h0
 have aac : ¬ (strOf s).toList = [] := by rw [aK]; exact h0
 have e2 : (strOf s).toList.isEmpty = false := by rw [aK]; simpa using h0
 clear h0 hs1
 go_wp2_with fail
 refine (vW.out _).mono ?_
 rintro e w2 ⟨hbx, u', A', n', c', ok, rfl, hown, yK⟩
 have iy : Hid ((w.heap.size + 1) < w1.heap.size) := aW.out.lt
 have HOW := hid hown
 have F8 := hid yK
 clear hown yK
 have jE := hid (dF.out.below hbx)
 have bK := hid (aW.out.below hbx)
 have eX := hid (bel bM.out hbx)
 have Ib : Hid (w.heap.size ≤ w1.heap.size) := bM.out.size
 clear dF aW bM
 clear hbx
 go_wp2_with (refine aC bK.out u' A' n' c' (.tmp 4) (.tmp 71) rfl rfl rfl rfl ?_)
 try simp only [Exit.inBlock, Exit.then]
 exact bodyPost_ret (w := World.setRow w2 (w.heap.size + 1) (cells u' (.slice A' n' c'))) (res2 (u := u') (p := .slice A' n' c') rfl (bK.out.row u' _) ok _ rfl rfl) rfl ⟨below_setRow eX.out bP.out _, u', A', n', c', ok, rfl, (HOW.out.row iy.out _).base Ib.out, F8.out⟩
end Go.Proofs.YtmpeaoacaecgpaaGreatDoor.OpqB
namespace Go.Proofs.YtmpeaoacaecgpaaGreatDoor.aj8
open Go.RowKit Base Regs Base2 dI cO PthP Kr PthE WS PthG PthH PthJ UrlA jQ HstP Zo WJ sU pO PrsP yw tN Fp mW tK yx
theorem AX (L : List UInt8) (w : World) : Calls Tryz.prog 117 #[.string (strOf L), .string (cs true)] w fun e w' => e = .returned (.string (strOf (L.dropWhile (gB true)))) ∧ Below w.heap.size w w' := by
 refine (Tryz.strings_TrimLeft_set (strOf L) (cs true) w (by decide) (fun j b h => ?_)).mono ?_
 ·have : b ∈ [47, 92] := List.mem_of_getElem? h
  simp only [List.mem_cons, List.not_mem_nil, or_false] at this
  rcases this with rfl | rfl <;> decide
 ·rintro e w2 ⟨rfl, hb⟩
  refine ⟨?_, hb⟩
  rw [show (strOf L).data.toList = L from rfl, show (cs true).data.toList = [47, 92] from rfl]
  unfold Lib.trimLeftS
  congr 3
  have : (fun c => [47, 92].contains c) = gB true := by
   funext c
   simp [gB]
  rw [this]
theorem Oa (T : List UInt8) (w : World) (hs : T.length ≤ 900000) (hL : oI w) (hT : Tab.Pow w) (hM : Max w) : Calls Tryz.prog 219 #[.string (strOf T)] w (mO w (far T)) := by
 obtain ⟨O, hO⟩ : ∃ O, O = far T := ⟨_, rfl⟩
 rw [← hO]
 obtain ⟨X, hX⟩ : ∃ X, X = T.take (upto true T) := ⟨_, rfl⟩
 obtain ⟨D, hD⟩ : ∃ D, D = T.drop (upto true T) := ⟨_, rfl⟩
 have hXl : X.length ≤ 900000 := by rw [hX, List.length_take]; omega
 have hDl : D.length ≤ 900000 := by rw [hD, List.length_drop]; omega
 have hU : ∀ w : World, Calls Tryz.prog 227 #[.string ⟨#[102, 105, 108, 101]⟩, .string (strOf T)] w fun e w' => e = .returned (.tuple #[.string (strOf X), .string (strOf D)]) ∧ Below w.heap.size w w' := fun w => by rw [hX, hD]; exact Ws (strOf FILE) (strOf T) w (dW (by omega))
 unfold far at hO
 rw [← hX, ← hD] at hO
 have HO := hid hO
 have HU := hid hU
 have HDR : Hid (∀ w : World, Calls Tryz.prog 282 #[.string (strOf X)] w fun e w' => e = .returned (.bool (drv X)) ∧ w = w') := fun w => kL (strOf X) w
 have UC : Hid (∀ (L : List UInt8) (w : World), L.length ≤ 900000 → Calls Tryz.prog 226 #[.string ⟨#[102, 105, 108, 101]⟩, .string (strOf L)] w (lu w.heap.size w (rooted FILE L))) := fun L w h => AA (strOf FILE) (strOf L) w (dW h)
 have HH : Hid (∀ w : World, oI w → Tab.Pow w → Max w → Calls Tryz.prog 230 #[.string (strOf X), .bool true] w fun e w' => e = .returned (HV (hst X true)) ∧ Below w.heap.size w w') := fun w a b d => sU.parse_any (strOf X) true w (dW hXl) a b d
 have HL := hid hL
 have HT := hid hT
 have HM := hid hM
 clear hO hU hX hD hL hT hM hXl
 go_enter Tryz.func219, Tryz.ntmps219
 go_upto_region 1 with (fail)
 generalize hw : World.alloc w _ = w1
 have h1 : UB w1 (w.heap.size) (U0) (.slice none 0 0) ∧ Below w.heap.size w w1 := by
  subst hw
  exact laid1 w _ _
 clear hw
 have bP : Hid (w.heap.size ≤ w.heap.size) := (Below.refl w.heap.size w).size
 have bM := hid (bel (Below.refl w.heap.size w) h1.2)
 have aW := hid h1.1
 clear h1
 go_upto_region 2 with (fail)
 generalize hw : World.alloc w1 _ = w2
 have h1 : UB w2 (w1.heap.size) (uF) (.slice none 0 0) ∧ Below w1.heap.size w1 w2 := by
  subst hw
  exact laid1 w1 _ _
 clear hw
 have hlr := aW.out.lt
 have aX : Hid (w.heap.size ≠ w1.heap.size) := by show _ ≠ _; omega
 have nO : Hid (w1.heap.size ≠ w.heap.size) := by show _ ≠ _; omega
 clear hlr
 have fK : Hid (w.heap.size ≤ w1.heap.size) := bM.out.size
 have bK := hid (aW.out.below h1.2)
 have eX := hid (bel bM.out h1.2)
 have fZ := hid h1.1
 clear aW bM
 clear h1
 go_wp2_with fail
 refine (HU.out _).mono ?_
 rintro e w3 ⟨rfl, hbx⟩
 have bD := hid (bK.out.below hbx)
 have eY := hid (fZ.out.below hbx)
 have cZ := hid (bel eX.out hbx)
 clear bK fZ eX
 clear hbx
 cases hd : drv X with
 | true =>
  have mX : Hid (O = some { uF with aO := rooted FILE T }) := by show _ = _; rw [HO.out, if_pos hd]
  rw [hd] at HDR
  clear hd
  go_wp2_with fail
  refine (HDR.out _).mono ?_
  rintro e wx ⟨rfl, hwx⟩
  obtain rfl : w3 = wx := by first | exact hwx | exact hwx.symm
  clear hwx
  go_wp2_with fail
  refine (UC.out T _ hs).mono ?_
  rintro e w4 ⟨q, rfl, hown, hbx⟩
  obtain ⟨Aq, cq, rfl, hq⟩ := bW (u := { U0 with aO := rooted FILE T }) hown
  clear hq
  replace hown := ay hown (Nat.le_refl _)
  have zF : Hid (w1.heap.size < w3.heap.size) := eY.out.lt
  have iy : Hid (w.heap.size < w3.heap.size) := bD.out.lt
  have bF := hid (bD.out.below hbx)
  have bV := hid (eY.out.below hbx)
  have dD := hid (bel cZ.out hbx)
  have OQ := hid hown
  clear hown
  clear bD eY cZ
  clear hbx
  have BX := zF.out
  have cx := bV.out.facts.2.2.2.2.2.2.2.2.1
  have fx := bV.out.thaw.2.2.2.2.2.2.2.2.1
  go_upto_region 12 with (fail)
  have hxr := bF.out.set (k := w1.heap.size) (i := 8) (.slice Aq (rooted FILE T).length cq) (aX.out)
  have hxu := bV.out.path (.slice Aq (rooted FILE T).length cq)
  have hoq := gU.aN (w' := w4.setCell ⟨w1.heap.size, 8, none⟩ (.slice Aq (rooted FILE T).length cq)) (gb := w1.heap.size) OQ.out (fun k hk => heap_setCell_other _ _ _ _ hk) (by omega)
  have hb := dD.out.setCell (p := ⟨w1.heap.size, 8, none⟩) (fK.out) (.slice Aq (rooted FILE T).length cq)
  clear bF bV OQ dD
  clear cx fx
  generalize World.setCell w4 _ _ = w5 at hxr hxu hoq hb ⊢
  have bH : Hid (UB w5 (w.heap.size) (U0) (.slice none 0 0)) := hxr
  clear hxr
  have bJ : Hid (UB w5 (w1.heap.size) (uF) (.slice Aq (rooted FILE T).length cq)) := hxu
  clear hxu
  have Ic := hid hoq
  clear hoq
  have fC := hid hb
  clear hb
  clear BX
  obtain ⟨c0, c1, c2', c3, c4, c5, c6, c7, c8, c9, c10, c11, c12⟩ := bJ.out.facts
  go_wp2_with (refine aC bH.out (uF) Aq (rooted FILE T).length cq (.tmp 2) (.tmp 35) rfl rfl rfl rfl ?_)
  try simp only [Exit.inBlock, Exit.then]
  have hpo : ∀ k, k ≠ w.heap.size → (World.setRow w5 (w.heap.size) (cells (uF) (.slice Aq (rooted FILE T).length cq))).heap[k]? = w5.heap[k]? := fun k hk => setRow_other _ _ _ _ hk
  have ho := ay (gU.aN Ic.out hpo iy.out) (by have h1 := bP.out; have h2 := iy.out; omega : w.heap.size ≤ _)
  exact bodyPost_ret (w := World.setRow w5 w.heap.size (cells (uF) (.slice Aq (rooted FILE T).length cq))) (res2 (u := uF) (p := .slice Aq (rooted FILE T).length cq) rfl (bH.out.row (uF) _) true _ rfl rfl) rfl (eH (u := { uF with aO := rooted FILE T }) mX.out (below_setRow fC.out bP.out _) ho)
 | false =>
  have jy : Hid (O = if X = [] then some { uF with aO := rooted FILE D } else match hst X true with | none => none | some H => some { uF with hst := if H = LOCAL then [] else H, aO := rooted FILE D }) := by show _ = _; rw [HO.out, if_neg (by rw [hd]; simp)]; first | done | rfl
  rw [hd] at HDR
  clear hd HO
  go_wp2_with fail
  refine (HDR.out _).mono ?_
  rintro e wx ⟨rfl, hwx⟩
  obtain rfl : w3 = wx := by first | exact hwx | exact hwx.symm
  clear hwx
  by_cases h0 : X = []
  ·
   have mX : Hid (O = some { uF with aO := rooted FILE D }) := by show _ = _; rw [jy.out, if_pos h0]
   have q0 : ((strOf X).toList == []) = true := by rw [aK, h0]; rfl
   have q1 : (strOf X).toList = [] := by rw [aK, h0]
   clear h0
   go_wp2_with fail
   refine (UC.out D _ hDl).mono ?_
   rintro e w4 ⟨q, rfl, hown, hbx⟩
   obtain ⟨Aq, cq, rfl, hq⟩ := bW (u := { U0 with aO := rooted FILE D }) hown
   clear hq
   replace hown := ay hown (Nat.le_refl _)
   have zF : Hid (w1.heap.size < w3.heap.size) := eY.out.lt
   have iy : Hid (w.heap.size < w3.heap.size) := bD.out.lt
   have bF := hid (bD.out.below hbx)
   have bV := hid (eY.out.below hbx)
   have dD := hid (bel cZ.out hbx)
   have OQ := hid hown
   clear hown
   clear bD eY cZ
   clear hbx
   have BX := zF.out
   have cx := bV.out.facts.2.2.2.2.2.2.2.2.1
   have fx := bV.out.thaw.2.2.2.2.2.2.2.2.1
   go_upto_region 12 with (fail)
   have hxr := bF.out.set (k := w1.heap.size) (i := 8) (.slice Aq (rooted FILE D).length cq) (aX.out)
   have hxu := bV.out.path (.slice Aq (rooted FILE D).length cq)
   have hoq := gU.aN (w' := w4.setCell ⟨w1.heap.size, 8, none⟩ (.slice Aq (rooted FILE D).length cq)) (gb := w1.heap.size) OQ.out (fun k hk => heap_setCell_other _ _ _ _ hk) (by omega)
   have hb := dD.out.setCell (p := ⟨w1.heap.size, 8, none⟩) (fK.out) (.slice Aq (rooted FILE D).length cq)
   clear bF bV OQ dD
   clear cx fx
   generalize World.setCell w4 _ _ = w5 at hxr hxu hoq hb ⊢
   have bH : Hid (UB w5 (w.heap.size) (U0) (.slice none 0 0)) := hxr
   clear hxr
   have bJ : Hid (UB w5 (w1.heap.size) (uF) (.slice Aq (rooted FILE D).length cq)) := hxu
   clear hxu
   have Ic := hid hoq
   clear hoq
   have fC := hid hb
   clear hb
   clear BX
   obtain ⟨c0, c1, c2', c3, c4, c5, c6, c7, c8, c9, c10, c11, c12⟩ := bJ.out.facts
   go_wp2_with (refine aC bH.out (uF) Aq (rooted FILE D).length cq (.tmp 2) (.tmp 35) rfl rfl rfl rfl ?_)
   try simp only [Exit.inBlock, Exit.then]
   have hpo : ∀ k, k ≠ w.heap.size → (World.setRow w5 (w.heap.size) (cells (uF) (.slice Aq (rooted FILE D).length cq))).heap[k]? = w5.heap[k]? := fun k hk => setRow_other _ _ _ _ hk
   have ho := ay (gU.aN Ic.out hpo iy.out) (by have h1 := bP.out; have h2 := iy.out; omega : w.heap.size ≤ _)
   exact bodyPost_ret (w := World.setRow w5 w.heap.size (cells (uF) (.slice Aq (rooted FILE D).length cq))) (res2 (u := uF) (p := .slice Aq (rooted FILE D).length cq) rfl (bH.out.row (uF) _) true _ rfl rfl) rfl (eH (u := { uF with aO := rooted FILE D }) mX.out (below_setRow fC.out bP.out _) ho)
  ·
   have iV : Hid (O = match hst X true with | none => none | some H => some { uF with hst := if H = LOCAL then [] else H, aO := rooted FILE D }) := by show _ = _; rw [jy.out, if_neg h0]
   have q0 : ((strOf X).toList == []) = false := by rw [aK, beq_eq_false_iff_ne]; exact h0
   have q1 : ¬ (strOf X).toList = [] := by rw [aK]; exact h0
   have q2 : (strOf X).toList.isEmpty = false := by rw [aK]; simpa using h0
   clear h0 jy
   cases hx : hst X true with
   | none =>
    have qc : Hid (O = none) := by show _ = _; rw [iV.out, hx]
    rw [hx] at HH
    clear hx
    go_wp2_with fail
    refine (HH.out _ (HL.out.below cZ.out) (bY HT.out cZ.out) (HM.out.below cZ.out)).mono ?_
    rintro e w4 ⟨rfl, hbx⟩
    have bF := hid (bD.out.below hbx)
    have bV := hid (eY.out.below hbx)
    have dD := hid (bel cZ.out hbx)
    clear bD eY cZ
    clear hbx
    rw [show HV none = .tuple #[.string (strOf []), .bool false] from rfl]
    go_wp2_with (refine aC bF.out U0 none 0 0 (.tmp 2) (.tmp 27) rfl rfl rfl rfl ?_)
    try simp only [Exit.inBlock, Exit.then]
    exact bodyPost_ret (w := World.setRow w4 w.heap.size (cells U0 (.slice none 0 0))) (res2 (u := U0) (p := .slice none 0 0) rfl (bF.out.row U0 _) false _ rfl rfl) rfl (kH qc.out (below_setRow dD.out bP.out _))
   | some H =>
    have Ti : Hid (O = some { uF with hst := if H = LOCAL then [] else H, aO := rooted FILE D }) := by show _ = _; rw [iV.out, hx]
    rw [hx] at HH
    clear hx iV
    go_wp2_with fail
    refine (HH.out _ (HL.out.below cZ.out) (bY HT.out cZ.out) (HM.out.below cZ.out)).mono ?_
    rintro e w4 ⟨rfl, hbx⟩
    have bF := hid (bD.out.below hbx)
    have bV := hid (eY.out.below hbx)
    have dD := hid (bel cZ.out hbx)
    clear bD eY cZ
    clear hbx
    rw [show HV (some H) = .tuple #[.string (strOf H), .bool true] from rfl]
    skip
    by_cases hl : H = LOCAL
    ·
     have mX : Hid (O = some { uF with aO := rooted FILE D }) := by show _ = _; rw [Ti.out, if_pos hl]; rfl
     have l0 : ((strOf H).toList == [108, 111, 99, 97, 108, 104, 111, 115, 116]) = true := by rw [aK, hl]; rfl
     have l1 : (strOf H).toList = [108, 111, 99, 97, 108, 104, 111, 115, 116] := by rw [aK, hl]; rfl
     clear hl
     go_wp2_with fail
     refine (UC.out D _ hDl).mono ?_
     rintro e w5 ⟨q, rfl, hown, hbx⟩
     obtain ⟨Aq, cq, rfl, hq⟩ := bW (u := { U0 with aO := rooted FILE D }) hown
     clear hq
     replace hown := ay hown (Nat.le_refl _)
     have zF : Hid (w1.heap.size < w4.heap.size) := bV.out.lt
     have iy : Hid (w.heap.size < w4.heap.size) := bF.out.lt
     have bH := hid (bF.out.below hbx)
     have bJ := hid (bV.out.below hbx)
     have fC := hid (bel dD.out hbx)
     have Ic := hid hown
     clear hown
     clear bF bV dD
     clear hbx
     have BX := zF.out
     have cx := bJ.out.facts.2.2.2.2.2.2.2.2.1
     have fx := bJ.out.thaw.2.2.2.2.2.2.2.2.1
     go_upto_region 12 with (fail)
     have hxr := bH.out.set (k := w1.heap.size) (i := 8) (.slice Aq (rooted FILE D).length cq) (aX.out)
     have hxu := bJ.out.path (.slice Aq (rooted FILE D).length cq)
     have hoq := gU.aN (w' := w5.setCell ⟨w1.heap.size, 8, none⟩ (.slice Aq (rooted FILE D).length cq)) (gb := w1.heap.size) Ic.out (fun k hk => heap_setCell_other _ _ _ _ hk) (by omega)
     have hb := fC.out.setCell (p := ⟨w1.heap.size, 8, none⟩) (fK.out) (.slice Aq (rooted FILE D).length cq)
     clear bH bJ Ic fC
     clear cx fx
     generalize World.setCell w5 _ _ = w6 at hxr hxu hoq hb ⊢
     have bT : Hid (UB w6 (w.heap.size) (U0) (.slice none 0 0)) := hxr
     clear hxr
     have bG : Hid (UB w6 (w1.heap.size) (uF) (.slice Aq (rooted FILE D).length cq)) := hxu
     clear hxu
     have uP := hid hoq
     clear hoq
     have gq := hid hb
     clear hb
     clear BX
     obtain ⟨c0, c1, c2', c3, c4, c5, c6, c7, c8, c9, c10, c11, c12⟩ := bG.out.facts
     go_wp2_with (refine aC bT.out (uF) Aq (rooted FILE D).length cq (.tmp 2) (.tmp 35) rfl rfl rfl rfl ?_)
     try simp only [Exit.inBlock, Exit.then]
     have hpo : ∀ k, k ≠ w.heap.size → (World.setRow w6 (w.heap.size) (cells (uF) (.slice Aq (rooted FILE D).length cq))).heap[k]? = w6.heap[k]? := fun k hk => setRow_other _ _ _ _ hk
     have ho := ay (gU.aN uP.out hpo iy.out) (by have h1 := bP.out; have h2 := iy.out; omega : w.heap.size ≤ _)
     exact bodyPost_ret (w := World.setRow w6 w.heap.size (cells (uF) (.slice Aq (rooted FILE D).length cq))) (res2 (u := uF) (p := .slice Aq (rooted FILE D).length cq) rfl (bT.out.row (uF) _) true _ rfl rfl) rfl (eH (u := { uF with aO := rooted FILE D }) mX.out (below_setRow gq.out bP.out _) ho)
    ·
     have mX : Hid (O = some { uF with hst := H, aO := rooted FILE D }) := by show _ = _; rw [Ti.out, if_neg hl]
     have l0 : ((strOf H).toList == [108, 111, 99, 97, 108, 104, 111, 115, 116]) = false := by rw [aK, beq_eq_false_iff_ne]; exact hl
     have l1 : ¬ (strOf H).toList = [108, 111, 99, 97, 108, 104, 111, 115, 116] := by rw [aK]; exact hl
     clear hl
     have cx := bV.out.facts.2.2.2.1
     have fx := bV.out.thaw.2.2.2.1
     go_upto_region 11 with (fail)
     have hxr := bF.out.set (k := w1.heap.size) (i := 3) (.string (strOf H)) (aX.out)
     have hxu := bV.out.hst H
     have hb := dD.out.setCell (p := ⟨w1.heap.size, 3, none⟩) (fK.out) (.string (strOf H))
     clear bF bV dD
     clear cx fx
     generalize World.setCell w4 _ _ = w5 at hxr hxu hb ⊢
     have bH : Hid (UB w5 (w.heap.size) (U0) (.slice none 0 0)) := hxr
     clear hxr
     have bJ : Hid (UB w5 (w1.heap.size) ({ uF with hst := H }) (.slice none 0 0)) := hxu
     clear hxu
     have fC := hid hb
     clear hb
     go_wp2_with fail
     refine (UC.out D _ hDl).mono ?_
     rintro e w6 ⟨q, rfl, hown, hbx⟩
     obtain ⟨Aq, cq, rfl, hq⟩ := bW (u := { U0 with aO := rooted FILE D }) hown
     clear hq
     replace hown := ay hown (Nat.le_refl _)
     have zF : Hid (w1.heap.size < w5.heap.size) := bJ.out.lt
     have iy : Hid (w.heap.size < w5.heap.size) := bH.out.lt
     have bT := hid (bH.out.below hbx)
     have bG := hid (bJ.out.below hbx)
     have gq := hid (bel fC.out hbx)
     have uP := hid hown
     clear hown
     clear bH bJ fC
     clear hbx
     have BX := zF.out
     have cx := bG.out.facts.2.2.2.2.2.2.2.2.1
     have fx := bG.out.thaw.2.2.2.2.2.2.2.2.1
     go_upto_region 12 with (fail)
     have hxr := bT.out.set (k := w1.heap.size) (i := 8) (.slice Aq (rooted FILE D).length cq) (aX.out)
     have hxu := bG.out.path (.slice Aq (rooted FILE D).length cq)
     have hoq := gU.aN (w' := w6.setCell ⟨w1.heap.size, 8, none⟩ (.slice Aq (rooted FILE D).length cq)) (gb := w1.heap.size) uP.out (fun k hk => heap_setCell_other _ _ _ _ hk) (by omega)
     have hb := gq.out.setCell (p := ⟨w1.heap.size, 8, none⟩) (fK.out) (.slice Aq (rooted FILE D).length cq)
     clear bT bG uP gq
     clear cx fx
     generalize World.setCell w6 _ _ = w7 at hxr hxu hoq hb ⊢
     have dQ : Hid (UB w7 (w.heap.size) (U0) (.slice none 0 0)) := hxr
     clear hxr
     have dO : Hid (UB w7 (w1.heap.size) ({ uF with hst := H }) (.slice Aq (rooted FILE D).length cq)) := hxu
     clear hxu
     have jD := hid hoq
     clear hoq
     have iU := hid hb
     clear hb
     clear BX
     obtain ⟨c0, c1, c2', c3, c4, c5, c6, c7, c8, c9, c10, c11, c12⟩ := dO.out.facts
     go_wp2_with (refine aC dQ.out ({ uF with hst := H }) Aq (rooted FILE D).length cq (.tmp 2) (.tmp 35) rfl rfl rfl rfl ?_)
     try simp only [Exit.inBlock, Exit.then]
     have hpo : ∀ k, k ≠ w.heap.size → (World.setRow w7 (w.heap.size) (cells ({ uF with hst := H }) (.slice Aq (rooted FILE D).length cq))).heap[k]? = w7.heap[k]? := fun k hk => setRow_other _ _ _ _ hk
     have ho := ay (gU.aN jD.out hpo iy.out) (by have h1 := bP.out; have h2 := iy.out; omega : w.heap.size ≤ _)
     exact bodyPost_ret (w := World.setRow w7 w.heap.size (cells ({ uF with hst := H }) (.slice Aq (rooted FILE D).length cq))) (res2 (u := { uF with hst := H }) (p := .slice Aq (rooted FILE D).length cq) rfl (dQ.out.row ({ uF with hst := H }) _) true _ rfl rfl) rfl (eH (u := { uF with hst := H, aO := rooted FILE D }) mX.out (below_setRow iU.out bP.out _) ho)
theorem Yn (T : List UInt8) (b : U) (A : Option Addr) (n c : Nat) (w : World) (hs : T.length ≤ 700000) (hn : n ≤ 100000) (hP : dR w b A n c) (hL : oI w) (hT : Tab.Pow w) (hM : Max w) : Calls Tryz.prog 115 #[.string (strOf T), .agg (cells b (.slice A n c))] w (mO w (relative T b)) := by
 obtain ⟨O, hO⟩ : ∃ O, O = relative T b := ⟨_, rfl⟩
 rw [← hO]
 obtain ⟨s0, hs0⟩ : ∃ x, x = rU (special b.au) T 0 := ⟨_, rfl⟩
 obtain ⟨s1, hs1⟩ : ∃ x, x = rU (special b.au) T 1 := ⟨_, rfl⟩
 unfold relative at hO
 rw [← hs0, ← hs1] at hO
 have hlen : s1 = true → 2 ≤ T.length := fun h => by
  rw [h] at hs1
  by_cases h2 : 1 < T.length
  ·omega
  ·rw [yM _ _ _ h2] at hs1; cases hs1
 have HLEN := hid hlen
 have FI : Hid (∀ w : World, Calls Tryz.prog 218 #[.string (strOf b.au), .string (strOf T), .int .i64 0] w fun e w' => e = .returned (.bool s0) ∧ Below w.heap.size w w') := fun w => by rw [hs0]; exact lJ (strOf b.au) (strOf T) 0 w (by omega)
 have BD : Hid (∀ w : World, Calls Tryz.prog 218 #[.string (strOf b.au), .string (strOf T), .int .i64 1] w fun e w' => e = .returned (.bool s1) ∧ Below w.heap.size w w') := fun w => by rw [hs1]; exact lJ (strOf b.au) (strOf T) 1 w (by omega)
 have HO := hid hO
 have wC : Hid (∀ w : World, Calls Tryz.prog 114 #[.string (strOf b.au)] w fun e w' => e = .returned (.bool (special b.au)) ∧ w' = w) := fun w => jv (strOf b.au) w
 have F9 : Hid (∀ w : World, Calls Tryz.prog 118 #[.string (strOf b.au)] w fun e w' => e = .returned (.string (cs (special b.au))) ∧ w' = w) := fun w => jr (strOf b.au) w
 have HTR : Hid (∀ (L : List UInt8) (w : World), Calls Tryz.prog 117 #[.string (strOf L), .string (cs true)] w fun e w' => e = .returned (.string (strOf (L.dropWhile (gB true)))) ∧ Below w.heap.size w w') := fun L w => AX L w
 have HAU : Hid (∀ (L : List UInt8) (w : World), L.length ≤ 900000 → oI w → Tab.Pow w → Max w → Calls Tryz.prog 116 #[.string (strOf b.au), .string (strOf L)] w (mO w (authority b.au L))) := fun L w h a c d => qP b.au L w h a c d
 have UC : Hid (∀ w : World, Calls Tryz.prog 226 #[.string (strOf b.au), .string (strOf T)] w (lu w.heap.size w (rooted b.au T))) := fun w => AA (strOf b.au) (strOf T) w (dW (by omega))
 have HL := hid hL
 have HT := hid hT
 have HM := hid hM
 have HP := hid hP
 have HN := hid hn
 clear hO hs0 hs1 hlen hL hT hM hP
 go_enter Tryz.func115, Tryz.ntmps115
 go_upto_region 1 with (fail)
 generalize hw : World.alloc (World.alloc w _) _ = w1
 have h1 : UB w1 (w.heap.size) (b) (.slice A n c) ∧ UB w1 ((w.heap.size + 1)) (U0) (.slice none 0 0) ∧ Below w.heap.size w w1 := by
  subst hw
  exact laid2 w _ _ _ _
 clear hw
 have ajZ : Hid (w.heap.size ≠ (w.heap.size + 1)) := by show _ ≠ _; omega
 have aj0 : Hid ((w.heap.size + 1) ≠ w.heap.size) := by show _ ≠ _; omega
 have LE_b : Hid (w.heap.size ≤ w.heap.size) := Nat.le_refl _
 have bP : Hid (w.heap.size ≤ (w.heap.size + 1)) := Nat.le_succ _
 have iY := hid h1.1
 have aW := hid h1.2.1
 have bM := hid h1.2.2
 clear h1
 obtain ⟨d0, d1, d2, d3, d4, d5, d6, d7, d8, d9, d10, d11, d12⟩ := iY.out.facts
 go_wp2_with fail
 refine (FI.out _).mono ?_
 rintro e w2 ⟨rfl, hbx⟩
 have pV := hid (iY.out.below hbx)
 have bK := hid (aW.out.below hbx)
 have eX := hid (bel bM.out hbx)
 clear iY aW bM
 clear hbx
 cases s0 with
 | true =>
  clear d0 d1 d2 d3 d4 d5 d6 d7 d8 d9 d10 d11 d12
  go_wp2_with fail
  refine (BD.out _).mono ?_
  rintro e w3 ⟨rfl, hbx⟩
  have kS := hid (pV.out.below hbx)
  have bD := hid (bK.out.below hbx)
  have cZ := hid (bel eX.out hbx)
  clear pV bK eX
  clear hbx
  cases s1 with
  | true =>
   have hl2 := HLEN.out rfl
   have iV : Hid (O = authority b.au (if special b.au = true then (T.drop 2).dropWhile (gB true) else T.drop 2)) := by show _ = _; rw [HO.out, if_pos (by simp)]; first | done | rfl
   obtain ⟨T2, hT2⟩ : ∃ x, x = T.drop 2 := ⟨_, rfl⟩
   have hx2 : (strOf T).extract 2 (strOf T).size = strOf T2 := by rw [l7, hT2]; rfl
   have hkI : (2 : Int) ≤ ((strOf T).size : Int) := by rw [size_strOf]; omega
   rw [← hT2] at iV
   have XL : T2.length ≤ 800000 := by rw [hT2, List.length_drop]; omega
   clear hT2 hl2
   obtain ⟨sp, hsp⟩ : ∃ x, x = special b.au := ⟨_, rfl⟩
   rw [← hsp] at wC F9 iV
   clear hsp
   cases sp with
   | true =>
    go_wp2_with fail
    refine (wC.out _).mono ?_
    rintro e wx ⟨rfl, hwx⟩
    obtain rfl : w3 = wx := by first | exact hwx | exact hwx.symm
    clear hwx
    go_wp2_with fail
    refine (F9.out _).mono ?_
    rintro e wx ⟨rfl, hwx⟩
    obtain rfl : w3 = wx := by first | exact hwx | exact hwx.symm
    clear hwx
    clear hx2
    go_wp2_with fail
    refine (HTR.out T2 _).mono ?_
    rintro e w4 ⟨rfl, hbx⟩
    have pW := hid (kS.out.below hbx)
    have bF := hid (bD.out.below hbx)
    have dD := hid (bel cZ.out hbx)
    clear kS bD cZ
    clear hbx
    have hdl : (T2.dropWhile (gB true)).length ≤ 900000 := by have := (List.dropWhile_sublist (gB true) (l := T2)).length_le; omega
    go_wp2_with fail
    refine (HAU.out _ _ hdl (HL.out.below dD.out) (bY HT.out dD.out) (HM.out.below dD.out)).mono ?_
    rintro e w5 ⟨hbx, u', A', n', c', ok, rfl, hown, yK⟩
    have iy : Hid ((w.heap.size + 1) < w4.heap.size) := bF.out.lt
    have HOW := hid hown
    have F8 := hid yK
    clear hown yK
    have oq := hid (pW.out.below hbx)
    have bH := hid (bF.out.below hbx)
    have fC := hid (bel dD.out hbx)
    have Ib : Hid (w.heap.size ≤ w4.heap.size) := dD.out.size
    clear pW bF dD
    clear hbx
    go_wp2_with (refine aC bH.out u' A' n' c' (.tmp 4) (.tmp 29) rfl rfl rfl rfl ?_)
    try simp only [Exit.inBlock, Exit.then]
    exact bodyPost_ret (w := World.setRow w5 (w.heap.size + 1) (cells u' (.slice A' n' c'))) (res2 (u := u') (p := .slice A' n' c') rfl (bH.out.row u' _) ok _ rfl rfl) rfl ⟨below_setRow fC.out bP.out _, u', A', n', c', ok, rfl, (HOW.out.row iy.out _).base Ib.out, by rw [iV.out, if_pos (by simp)]; exact F8.out⟩
   | false =>
    go_wp2_with fail
    refine (wC.out _).mono ?_
    rintro e wx ⟨rfl, hwx⟩
    obtain rfl : w3 = wx := by first | exact hwx | exact hwx.symm
    clear hwx
    clear hx2
    go_wp2_with fail
    refine (HAU.out _ _ (by omega) (HL.out.below cZ.out) (bY HT.out cZ.out) (HM.out.below cZ.out)).mono ?_
    rintro e w4 ⟨hbx, u', A', n', c', ok, rfl, hown, yK⟩
    have iy : Hid ((w.heap.size + 1) < w3.heap.size) := bD.out.lt
    have HOW := hid hown
    have F8 := hid yK
    clear hown yK
    have pW := hid (kS.out.below hbx)
    have bF := hid (bD.out.below hbx)
    have dD := hid (bel cZ.out hbx)
    have Ib : Hid (w.heap.size ≤ w3.heap.size) := cZ.out.size
    clear kS bD cZ
    clear hbx
    go_wp2_with (refine aC bF.out u' A' n' c' (.tmp 4) (.tmp 29) rfl rfl rfl rfl ?_)
    try simp only [Exit.inBlock, Exit.then]
    exact bodyPost_ret (w := World.setRow w4 (w.heap.size + 1) (cells u' (.slice A' n' c'))) (res2 (u := u') (p := .slice A' n' c') rfl (bF.out.row u' _) ok _ rfl rfl) rfl ⟨below_setRow dD.out bP.out _, u', A', n', c', ok, rfl, (HOW.out.row iy.out _).base Ib.out, by rw [iV.out, if_neg (by simp)]; exact F8.out⟩
  | false =>
   have iV : Hid (O = some { aH b with aO := rooted b.au T }) := by show _ = _; rw [HO.out, if_neg (by simp), if_pos (by simp)]
   obtain ⟨d0, d1, d2, d3, d4, d5, d6, d7, d8, d9, d10, d11, d12⟩ := kS.out.facts
   go_wp2_with fail
   refine (Ad b (.slice A n c) _).mono ?_
   rintro e w4 ⟨rfl, hbx⟩
   have pW := hid (kS.out.below hbx)
   have bF := hid (bD.out.below hbx)
   have dD := hid (bel cZ.out hbx)
   clear kS bD cZ
   clear hbx
   rw [show (aH b).agg none 0 0 = .agg #[.string (strOf b.au), .string (strOf b.usr), .string (strOf b.pwd), .string (strOf b.hst), .bool b.hh, .int .i64 b.port, .bool false, .string ⟨#[]⟩, .slice none 0 0, .bool false, .bool false, .string ⟨#[]⟩, .string ⟨#[]⟩] from rfl]
   clear d0 d1 d2 d3 d4 d5 d6 d7 d8 d9 d10 d11 d12
   go_upto_region 9 with (fail)
   generalize hw : World.alloc w4 _ = w5
   have h1 : UB w5 (w4.heap.size) (aH b) (.slice none 0 0) ∧ Below w4.heap.size w4 w5 := by
    subst hw
    exact laid1 w4 _ _
   clear hw
   have hlb := pW.out.lt
   have oM : Hid (w.heap.size ≠ w4.heap.size) := by show _ ≠ _; omega
   have WM : Hid (w4.heap.size ≠ w.heap.size) := by show _ ≠ _; omega
   clear hlb
   have hlr := bF.out.lt
   have aX : Hid ((w.heap.size + 1) ≠ w4.heap.size) := by show _ ≠ _; omega
   have nO : Hid (w4.heap.size ≠ (w.heap.size + 1)) := by show _ ≠ _; omega
   clear hlr
   have fK : Hid (w.heap.size ≤ w4.heap.size) := dD.out.size
   have oq := hid (pW.out.below h1.2)
   have bH := hid (bF.out.below h1.2)
   have fC := hid (bel dD.out h1.2)
   have bJ := hid h1.1
   clear pW bF dD
   clear h1
   skip
   go_wp2_with fail
   refine (FI.out _).mono ?_
   rintro e w6 ⟨rfl, hbx⟩
   have kG := hid (oq.out.below hbx)
   have bT := hid (bH.out.below hbx)
   have bG := hid (bJ.out.below hbx)
   have gq := hid (bel fC.out hbx)
   clear oq bH bJ fC
   clear hbx
   go_wp2_with fail
   refine (UC.out _).mono ?_
   rintro e w7 ⟨q, rfl, hown, hbx⟩
   obtain ⟨Aq, cq, rfl, hq⟩ := bW (u := { U0 with aO := rooted b.au T }) hown
   clear hq
   replace hown := ay hown (Nat.le_refl _)
   have zF : Hid (w4.heap.size < w6.heap.size) := bG.out.lt
   have iy : Hid ((w.heap.size + 1) < w6.heap.size) := bT.out.lt
   have mD := hid (kG.out.below hbx)
   have dQ := hid (bT.out.below hbx)
   have dO := hid (bG.out.below hbx)
   have iU := hid (bel gq.out hbx)
   have jD := hid hown
   clear hown
   clear kG bT bG gq
   clear hbx
   have BX := zF.out
   have cx := dO.out.facts.2.2.2.2.2.2.2.2.1
   have fx := dO.out.thaw.2.2.2.2.2.2.2.2.1
   go_upto_region 13 with (fail)
   have hxb := mD.out.set (k := w4.heap.size) (i := 8) (.slice Aq (rooted b.au T).length cq) (oM.out)
   have hxr := dQ.out.set (k := w4.heap.size) (i := 8) (.slice Aq (rooted b.au T).length cq) (aX.out)
   have hxu := dO.out.path (.slice Aq (rooted b.au T).length cq)
   have hoq := gU.aN (w' := w7.setCell ⟨w4.heap.size, 8, none⟩ (.slice Aq (rooted b.au T).length cq)) (gb := w4.heap.size) jD.out (fun k hk => heap_setCell_other _ _ _ _ hk) (by omega)
   have hb := iU.out.setCell (p := ⟨w4.heap.size, 8, none⟩) (fK.out) (.slice Aq (rooted b.au T).length cq)
   clear mD dQ dO jD iU
   clear cx fx
   generalize World.setCell w7 _ _ = w8 at hxb hxr hxu hoq hb ⊢
   have UF : Hid (UB w8 (w.heap.size) (b) (.slice A n c)) := hxb
   clear hxb
   have iI : Hid (UB w8 ((w.heap.size + 1)) (U0) (.slice none 0 0)) := hxr
   clear hxr
   have jJ : Hid (UB w8 (w4.heap.size) (aH b) (.slice Aq (rooted b.au T).length cq)) := hxu
   clear hxu
   have tC := hid hoq
   clear hoq
   have sS := hid hb
   clear hb
   clear BX
   obtain ⟨c0, c1, c2', c3, c4, c5, c6, c7, c8, c9, c10, c11, c12⟩ := jJ.out.facts
   go_wp2_with (refine aC iI.out (aH b) Aq (rooted b.au T).length cq (.tmp 4) (.tmp 54) rfl rfl rfl rfl ?_)
   try simp only [Exit.inBlock, Exit.then]
   have hpo : ∀ k, k ≠ (w.heap.size + 1) → (World.setRow w8 ((w.heap.size + 1)) (cells (aH b) (.slice Aq (rooted b.au T).length cq))).heap[k]? = w8.heap[k]? := fun k hk => setRow_other _ _ _ _ hk
   have ho := ay (gU.aN tC.out hpo iy.out) (by have h1 := bP.out; have h2 := iy.out; omega : w.heap.size ≤ _)
   exact bodyPost_ret (w := World.setRow w8 (w.heap.size + 1) (cells (aH b) (.slice Aq (rooted b.au T).length cq))) (res2 (u := aH b) (p := .slice Aq (rooted b.au T).length cq) rfl (iI.out.row (aH b) _) true _ rfl rfl) rfl (eH (u := { aH b with aO := rooted b.au T }) iV.out (below_setRow sS.out bP.out _) ho)
 | false =>
  clear HLEN BD
  clear d0 d1 d2 d3 d4 d5 d6 d7 d8 d9 d10 d11 d12
  obtain ⟨d0, d1, d2, d3, d4, d5, d6, d7, d8, d9, d10, d11, d12⟩ := pV.out.facts
  go_wp2_with fail
  refine (Ad b (.slice A n c) _).mono ?_
  rintro e w3 ⟨rfl, hbx⟩
  have kS := hid (pV.out.below hbx)
  have bD := hid (bK.out.below hbx)
  have cZ := hid (bel eX.out hbx)
  clear pV bK eX
  clear hbx
  rw [show (aH b).agg none 0 0 = .agg #[.string (strOf b.au), .string (strOf b.usr), .string (strOf b.pwd), .string (strOf b.hst), .bool b.hh, .int .i64 b.port, .bool false, .string ⟨#[]⟩, .slice none 0 0, .bool false, .bool false, .string ⟨#[]⟩, .string ⟨#[]⟩] from rfl]
  clear d0 d1 d2 d3 d4 d5 d6 d7 d8 d9 d10 d11 d12
  go_upto_region 9 with (fail)
  generalize hw : World.alloc w3 _ = w4
  have h1 : UB w4 (w3.heap.size) (aH b) (.slice none 0 0) ∧ Below w3.heap.size w3 w4 := by
   subst hw
   exact laid1 w3 _ _
  clear hw
  have hlb := kS.out.lt
  have oM : Hid (w.heap.size ≠ w3.heap.size) := by show _ ≠ _; omega
  have WM : Hid (w3.heap.size ≠ w.heap.size) := by show _ ≠ _; omega
  clear hlb
  have hlr := bD.out.lt
  have aX : Hid ((w.heap.size + 1) ≠ w3.heap.size) := by show _ ≠ _; omega
  have nO : Hid (w3.heap.size ≠ (w.heap.size + 1)) := by show _ ≠ _; omega
  clear hlr
  have fK : Hid (w.heap.size ≤ w3.heap.size) := cZ.out.size
  have pW := hid (kS.out.below h1.2)
  have bF := hid (bD.out.below h1.2)
  have dD := hid (bel cZ.out h1.2)
  have bV := hid h1.1
  clear kS bD cZ
  clear h1
  skip
  go_wp2_with fail
  refine (FI.out _).mono ?_
  rintro e w5 ⟨rfl, hbx⟩
  have oq := hid (pW.out.below hbx)
  have bH := hid (bF.out.below hbx)
  have bJ := hid (bV.out.below hbx)
  have fC := hid (bel dD.out hbx)
  clear pW bF bV dD
  clear hbx
  by_cases h0 : T = []
  ·
   have iV : Hid (O = some (along (aH b) b)) := by show _ = _; rw [HO.out, if_neg (by simp), if_neg (by simp), if_pos h0]
   have q0 : ((strOf T).toList == []) = true := by rw [aK, h0]; rfl
   have q1 : (strOf T).toList = [] := by rw [aK, h0]
   clear h0
   obtain ⟨d0, d1, d2, d3, d4, d5, d6, d7, d8, d9, d10, d11, d12⟩ := oq.out.facts
   obtain ⟨c0, c1, c2', c3, c4, c5, c6, c7, c8, c9, c10, c11, c12⟩ := bJ.out.facts
   go_wp2_with fail
   clear c0 c1 c2' c3 c4 c5 c6 c7 c8 c9 c10 c11 c12
   clear d0 d1 d2 d3 d4 d5 d6 d7 d8 d9 d10 d11 d12
   refine (UJ (aH b) b (.slice none 0 0) A n c _ (mW.dR.below HP.out fC.out) (by omega)).mono ?_
   rintro e w6 ⟨hbx, Aq, nq, cq, rfl, hown⟩
   have zF : Hid (w3.heap.size < w5.heap.size) := bJ.out.lt
   have iy : Hid ((w.heap.size + 1) < w5.heap.size) := bH.out.lt
   have kG := hid (oq.out.below hbx)
   have bT := hid (bH.out.below hbx)
   have bG := hid (bJ.out.below hbx)
   have gq := hid (bel fC.out hbx)
   have HOW := hid hown
   clear hown
   clear oq bH bJ fC
   clear hbx
   have Ib : Hid (w.heap.size ≤ w5.heap.size) := by have h1 := bP.out; have h2 := iy.out; show _ ≤ _; omega
   go_upto_region 13 with (refine aC bG.out (along (aH b) b) Aq nq cq (.tmp 7) (.tmp 53) rfl rfl rfl rfl ?_)
   have hxu := bG.out.row (along (aH b) b) (.slice Aq nq cq)
   have hxr := bT.out.aiB (k := w3.heap.size) aX.out (cells (along (aH b) b) (.slice Aq nq cq))
   have hb := below_setRow gq.out fK.out (cells (along (aH b) b) (.slice Aq nq cq))
   have ho := HOW.out.row (g := w3.heap.size) zF.out (cells (along (aH b) b) (.slice Aq nq cq))
   clear kG bT bG gq
   clear HOW
   generalize World.setRow w6 _ _ = w7 at hxu hxr hb ho ⊢
   have dO := hid hxu
   have dQ := hid hxr
   have iU := hid hb
   have HOW := hid ho
   clear hxu hxr hb ho
   obtain ⟨c0, c1, c2', c3, c4, c5, c6, c7, c8, c9, c10, c11, c12⟩ := dO.out.facts
   go_wp2_with (refine aC dQ.out (along (aH b) b) Aq nq cq (.tmp 4) (.tmp 54) rfl rfl rfl rfl ?_)
   try simp only [Exit.inBlock, Exit.then]
   exact bodyPost_ret (w := World.setRow w7 ((w.heap.size + 1)) (cells (along (aH b) b) (.slice Aq nq cq))) (res2 (u := along (aH b) b) (p := .slice Aq nq cq) rfl (dQ.out.row _ _) true _ rfl rfl) rfl (eH iV.out (below_setRow iU.out bP.out _) ((HOW.out.row iy.out _).base Ib.out))
  ·
   have iV : Hid (O = some { aH b with aO := walk b.au (mM false b.aO) T }) := by show _ = _; rw [HO.out, if_neg (by simp), if_neg (by simp), if_neg h0]
   have q0 : ((strOf T).toList == []) = false := by rw [aK, beq_eq_false_iff_ne]; exact h0
   have q1 : ¬ (strOf T).toList = [] := by rw [aK]; exact h0
   have q2 : (strOf T).toList.isEmpty = false := by rw [aK]; simpa using h0
   clear h0
   obtain ⟨d0, d1, d2, d3, d4, d5, d6, d7, d8, d9, d10, d11, d12⟩ := oq.out.facts
   go_wp2_with fail
   clear d0 d1 d2 d3 d4 d5 d6 d7 d8 d9 d10 d11 d12
   refine (Ed false A n c b.aO _ (HP.out.1.below fC.out) HP.out.2.1 HP.out.2.2 (by omega)).mono ?_
   rintro e w6 ⟨v, rfl, hown, hbx⟩
   obtain ⟨A4, c4, rfl, h4, h5, h6⟩ := aJ hown
   have kG := hid (oq.out.below hbx)
   have bT := hid (bH.out.below hbx)
   have bG := hid (bJ.out.below hbx)
   have gq := hid (bel fC.out hbx)
   clear oq bH bJ fC
   clear hbx hown
   have h7 : b.aO.length = n := by have := HP.out.1.1; simpa using this
   have hsl : (mM false b.aO).length ≤ n := by
    have h := GN false b.aO
    split at h <;> omega
   clear h7
   go_wp2_with fail
   refine (walk_any (strOf b.au) A4 (mM false b.aO).length c4 (mM false b.aO) (strOf T) _ h6 h4 h5 (by rw [size_strOf]; omega)).mono ?_
   rintro e w7 ⟨q, rfl, hown, hbx⟩
   obtain ⟨Aq, cq, rfl, hq⟩ := bW (u := { U0 with aO := walk b.au (mM false b.aO) T }) hown
   clear hq
   replace hown := ay hown (Nat.le_refl _)
   have zF : Hid (w3.heap.size < w6.heap.size) := bG.out.lt
   have iy : Hid ((w.heap.size + 1) < w6.heap.size) := bT.out.lt
   have mD := hid (kG.out.below hbx)
   have dQ := hid (bT.out.below hbx)
   have dO := hid (bG.out.below hbx)
   have iU := hid (bel gq.out hbx)
   have jD := hid hown
   clear hown
   clear kG bT bG gq
   clear hbx
   have BX := zF.out
   have cx := dO.out.facts.2.2.2.2.2.2.2.2.1
   have fx := dO.out.thaw.2.2.2.2.2.2.2.2.1
   go_upto_region 13 with (fail)
   have hxb := mD.out.set (k := w3.heap.size) (i := 8) (.slice Aq (walk b.au (mM false b.aO) T).length cq) (oM.out)
   have hxr := dQ.out.set (k := w3.heap.size) (i := 8) (.slice Aq (walk b.au (mM false b.aO) T).length cq) (aX.out)
   have hxu := dO.out.path (.slice Aq (walk b.au (mM false b.aO) T).length cq)
   have hoq := gU.aN (w' := w7.setCell ⟨w3.heap.size, 8, none⟩ (.slice Aq (walk b.au (mM false b.aO) T).length cq)) (gb := w3.heap.size) jD.out (fun k hk => heap_setCell_other _ _ _ _ hk) (by omega)
   have hb := iU.out.setCell (p := ⟨w3.heap.size, 8, none⟩) (fK.out) (.slice Aq (walk b.au (mM false b.aO) T).length cq)
   clear mD dQ dO jD iU
   clear cx fx
   generalize World.setCell w7 _ _ = w8 at hxb hxr hxu hoq hb ⊢
   have UF : Hid (UB w8 (w.heap.size) (b) (.slice A n c)) := hxb
   clear hxb
   have iI : Hid (UB w8 ((w.heap.size + 1)) (U0) (.slice none 0 0)) := hxr
   clear hxr
   have jJ : Hid (UB w8 (w3.heap.size) (aH b) (.slice Aq (walk b.au (mM false b.aO) T).length cq)) := hxu
   clear hxu
   have tC := hid hoq
   clear hoq
   have sS := hid hb
   clear hb
   clear BX
   obtain ⟨c0, c1, c2', c3, c4, c5, c6, c7, c8, c9, c10, c11, c12⟩ := jJ.out.facts
   go_wp2_with (refine aC iI.out (aH b) Aq (walk b.au (mM false b.aO) T).length cq (.tmp 4) (.tmp 54) rfl rfl rfl rfl ?_)
   try simp only [Exit.inBlock, Exit.then]
   have hpo : ∀ k, k ≠ (w.heap.size + 1) → (World.setRow w8 ((w.heap.size + 1)) (cells (aH b) (.slice Aq (walk b.au (mM false b.aO) T).length cq))).heap[k]? = w8.heap[k]? := fun k hk => setRow_other _ _ _ _ hk
   have ho := ay (gU.aN tC.out hpo iy.out) (by have h1 := bP.out; have h2 := iy.out; omega : w.heap.size ≤ _)
   exact bodyPost_ret (w := World.setRow w8 (w.heap.size + 1) (cells (aH b) (.slice Aq (walk b.au (mM false b.aO) T).length cq))) (res2 (u := aH b) (p := .slice Aq (walk b.au (mM false b.aO) T).length cq) rfl (iI.out.row (aH b) _) true _ rfl rfl) rfl (eH (u := { aH b with aO := walk b.au (mM false b.aO) T }) iV.out (below_setRow sS.out bP.out _) ho)
end Go.Proofs.YtmpeaoacaecgpaaGreatDoor.aj8
