/- Texts that belong together: PrsM, PrsO. -/
import Derived.Test.YtmpeaoacaecgpaaGreatDoorWAK
import Derived.Test.YtmpeaoacaecgpaaGreatDoorWAJ
import Derived.Test.YtmpeaoacaecgpaaGreatDoorWAA
import Derived.Test.YtmpeaoacaecgpaaGreatDoorWAH
import Derived.Test.YtmpeaoacaecgpaaGreatDoorWAL
set_option linter.unusedSimpArgs false
set_option linter.unusedVariables false
set_option maxRecDepth 100000
set_option maxHeartbeats 64000000
namespace Go.Proofs.YtmpeaoacaecgpaaGreatDoor.PrsM
open Go.RowKit Base Regs Base2 dI cO PthP Kr PthE WS PthG PthH PthJ UrlA jQ HstP Zo WJ sU pO PrsP yw tN Fp mW tK yx PthD aj8
def Hb (w0 : World) (gu gr gb : Nat) (b : U) (q : Value) (L : Nat → Bool) (w : World) : Prop :=
 UB w gu (if L 8 = true then aH b else uF) (.slice none 0 0) ∧ UB w gr U0 (.slice none 0 0) ∧ UB w gb b q ∧ Below w0.heap.size w0 w ∧ gr ≠ gu ∧ gb ≠ gu ∧ w0.heap.size ≤ gu
theorem hbs {w0 : World} {gu gr gb : Nat} {b : U} {q : Value} {L : Nat → Bool} {w w' : World} (i : Nat) (hi : (i == 8) = false) (hb : Below w.heap.size w w') (hG : Hb w0 gu gr gb b q L w) : Hb w0 gu gr gb b q (did L i) w' := by
 rw [beq_eq_false_iff_ne] at hi
 obtain ⟨h1, h2, h3, h4, h5⟩ := hG
 unfold Hb
 rw [jM L (Ne.symm hi)]
 exact ⟨h1.below hb, h2.below hb, h3.below hb, bel h4 hb, h5⟩
theorem hb8 {w0 : World} {gu gr gb : Nat} {b : U} {q : Value} {L : Nat → Bool} {w : World} (hG : Hb w0 gu gr gb b q L w) : Hb w0 gu gr gb b q (did L 8) (w.setRow gu (cells (aH b) (.slice none 0 0))) := by
 obtain ⟨h1, h2, h3, h4, h5, h6, h7⟩ := hG
 unfold Hb
 rw [oU]
 exact ⟨h1.row _ _, h2.aiB h5 _, h3.aiB h6 _, below_setRow h4 h7 _, h5, h6, h7⟩
theorem ahv (T : List UInt8) (b : U) (gb : Nat) (A : Option Addr) (n c : Nat) (w : World) (hs : T.length ≤ 700000) (hn : n ≤ 100000) (hB : UB w gb b (.slice A n c)) (hP : dR w b A n c) (hL : oI w) (hT : Tab.Pow w) (hM : Max w) : Calls Tryz.prog 113 #[.string (strOf T), .pointer (some ⟨gb, 0, none⟩)] w (mO w (file T (some b))) := by
 obtain ⟨O, hO⟩ : ∃ O, O = file T (some b) := ⟨_, rfl⟩
 rw [← hO]
 obtain ⟨s0, hs0⟩ : ∃ x, x = rU true T 0 := ⟨_, rfl⟩
 obtain ⟨s1, hs1⟩ : ∃ x, x = rU true T 1 := ⟨_, rfl⟩
 unfold file at hO
 rw [← hs0, ← hs1] at hO
 have hlen0 : s0 = true → 1 ≤ T.length := fun h => by
  rw [h] at hs0
  by_cases h2 : 0 < T.length
  ·omega
  ·rw [yM _ _ _ h2] at hs0; cases hs0
 have Y9 := hid hlen0
 have hlen : s1 = true → 2 ≤ T.length := fun h => by
  rw [h] at hs1
  by_cases h2 : 1 < T.length
  ·omega
  ·rw [yM _ _ _ h2] at hs1; cases hs1
 have HLEN := hid hlen
 have FI : Hid (∀ w : World, Calls Tryz.prog 218 #[.string ⟨#[102, 105, 108, 101]⟩, .string (strOf T), .int .i64 0] w fun e w' => e = .returned (.bool s0) ∧ Below w.heap.size w w') := fun w => by rw [hs0]; exact lJ (strOf FILE) (strOf T) 0 w (by omega)
 have BD : Hid (∀ w : World, Calls Tryz.prog 218 #[.string ⟨#[102, 105, 108, 101]⟩, .string (strOf T), .int .i64 1] w fun e w' => e = .returned (.bool s1) ∧ Below w.heap.size w w') := fun w => by rw [hs1]; exact lJ (strOf FILE) (strOf T) 1 w (by omega)
 have HO := hid hO
 have HFA : Hid (∀ (L : List UInt8) (w : World), L.length ≤ 900000 → oI w → Tab.Pow w → Max w → Calls Tryz.prog 219 #[.string (strOf L)] w (mO w (far L))) := fun L w h a c d => Oa L w h a c d
 have HBG : Hid (∀ (L : List UInt8) (w : World), L.length ≤ 900000 → Calls Tryz.prog 221 #[.string (strOf L)] w fun e w' => e = .returned (.bool (JR L)) ∧ w = w') := fun L w h => PK (strOf L) w (dW (by omega))
 have HWK : Hid (∀ (A : Option Addr) (n c : Nat) (l : List ByteArray) (L : List UInt8) (w : World), aY w A n (l.map Value.string) → n ≤ c → c ≤ maxLen → n + L.length ≤ 900000 → Calls Tryz.prog 224 #[.string ⟨#[102, 105, 108, 101]⟩, .slice A n c, .string (strOf L)] w (lu w.heap.size w (walk FILE l L))) := fun A n c l L w h1 h2 h3 h4 => walk_any (strOf FILE) A n c l (strOf L) w h1 h2 h3 (by rw [size_strOf]; exact h4)
 have HL := hid hL
 have HT := hid hT
 have HM := hid hM
 clear hO hs0 hs1 hlen hlen0 hL hT hM
 have TF := hid hB
 have HP := hid hP
 have h7 : b.aO.length = n := by have := hP.1.1; simpa using this
 clear hB hP
 go_enter Tryz.func113, Tryz.ntmps113
 go_upto_region 1 with (fail)
 generalize hw : World.alloc w _ = w1
 have h1 : UB w1 (w.heap.size) (U0) (.slice none 0 0) ∧ Below w.heap.size w w1 := by
  subst hw
  exact laid1 w _ _
 clear hw
 have hlb := TF.out.lt
 have ajZ : Hid (gb ≠ w.heap.size) := by show _ ≠ _; omega
 have aj0 : Hid (w.heap.size ≠ gb) := by show _ ≠ _; omega
 clear hlb
 have bP : Hid (w.heap.size ≤ w.heap.size) := (Below.refl w.heap.size w).size
 have iY := hid (TF.out.below h1.2)
 have bM := hid (bel (Below.refl w.heap.size w) h1.2)
 have aW := hid h1.1
 clear TF
 clear h1
 go_wp2_with fail
 refine (FI.out _).mono ?_
 rintro e w2 ⟨rfl, hbx⟩
 have pV := hid (iY.out.below hbx)
 have bK := hid (aW.out.below hbx)
 have eX := hid (bel bM.out hbx)
 clear iY aW bM
 clear hbx
 cases s0 with
 | true =>
  go_wp2_with fail
  refine (BD.out _).mono ?_
  rintro e w3 ⟨rfl, hbx⟩
  have kS := hid (pV.out.below hbx)
  have bD := hid (bK.out.below hbx)
  have cZ := hid (bel eX.out hbx)
  clear pV bK eX
  clear hbx
  cases s1 with
  | true =>
   have hl2 := HLEN.out (by simp)
   have iV : Hid (O = far (T.drop 2)) := by show _ = _; rw [HO.out, if_pos (by simp)]
   obtain ⟨T2, hT2⟩ : ∃ x, x = T.drop 2 := ⟨_, rfl⟩
   have hx2 : (strOf T).extract 2 (strOf T).size = strOf T2 := by rw [l7, hT2]; rfl
   have hkI : (2 : Int) ≤ ((strOf T).size : Int) := by rw [size_strOf]; omega
   rw [← hT2] at iV
   have XL : T2.length ≤ 800000 := by rw [hT2, List.length_drop]; omega
   clear hT2 hl2
   go_wp2_with fail
   clear hx2
   refine (HFA.out _ _ (by omega) (HL.out.below cZ.out) (bY HT.out cZ.out) (HM.out.below cZ.out)).mono ?_
   rintro e w4 ⟨hbx, u', A', n', c', ok, rfl, hown, yK⟩
   have iy : Hid (w.heap.size < w3.heap.size) := bD.out.lt
   have HOW := hid hown
   have F8 := hid yK
   clear hown yK
   have pW := hid (kS.out.below hbx)
   have bF := hid (bD.out.below hbx)
   have dD := hid (bel cZ.out hbx)
   have Ib : Hid (w.heap.size ≤ w3.heap.size) := cZ.out.size
   clear kS bD cZ
   clear hbx
   go_wp2_with (refine aC bF.out u' A' n' c' (.tmp 4) (.tmp 17) rfl rfl rfl rfl ?_)
   try simp only [Exit.inBlock, Exit.then]
   exact bodyPost_ret (w := World.setRow w4 w.heap.size (cells u' (.slice A' n' c'))) (res2 (u := u') (p := .slice A' n' c') rfl (bF.out.row u' _) ok _ rfl rfl) rfl ⟨below_setRow dD.out bP.out _, u', A', n', c', ok, rfl, (HOW.out.row iy.out _).base Ib.out, by rw [iV.out]; exact F8.out⟩
  | false =>
   have hl1 := Y9.out (by simp)
   have iV : Hid (O = some { aH b with aO := walk FILE (if nrm (b.aO.head?.elim [] fun x => x.data.toList) = true ∧ JR (T.drop 1) = false then b.aO.take 1 else []) (T.drop 1) }) := by show _ = _; rw [HO.out, if_neg (by simp), if_pos (by simp)]; first | done | rfl
   obtain ⟨T2, hT2⟩ : ∃ x, x = T.drop 1 := ⟨_, rfl⟩
   have hx2 : (strOf T).extract 1 (strOf T).size = strOf T2 := by rw [l7, hT2]; rfl
   have hkI : (1 : Int) ≤ ((strOf T).size : Int) := by rw [size_strOf]; omega
   rw [← hT2] at iV
   have XL : T2.length ≤ 700000 := by rw [hT2, List.length_drop]; omega
   have gY := hid hx2
   clear hT2 hl1 hx2
   go_upto_region 4 with (fail)
   generalize hw : World.alloc w3 _ = w4
   have h1 : UB w4 (w3.heap.size) (uF) (.slice none 0 0) ∧ Below w3.heap.size w3 w4 := by
    subst hw
    exact laid1 w3 _ _
   clear hw
   have hlb := kS.out.lt
   have oM : Hid (gb ≠ w3.heap.size) := by show _ ≠ _; omega
   have WM : Hid (w3.heap.size ≠ gb) := by show _ ≠ _; omega
   clear hlb
   have hlr := bD.out.lt
   have aX : Hid (w.heap.size ≠ w3.heap.size) := by show _ ≠ _; omega
   have nO : Hid (w3.heap.size ≠ w.heap.size) := by show _ ≠ _; omega
   clear hlr
   have fK : Hid (w.heap.size ≤ w3.heap.size) := cZ.out.size
   have pW := hid (kS.out.below h1.2)
   have bF := hid (bD.out.below h1.2)
   have dD := hid (bel cZ.out h1.2)
   have bV := hid h1.1
   clear kS bD cZ
   clear h1
   go_upto_region 6 with (fail)
   refine jc (by kernel_rfl) (fun L _ wq => Hb w w3.heap.size w.heap.size gb b (.slice A n c) L wq) [is (.pointer (some ⟨gb, 0, none⟩)), is (.pointer (some ⟨gb, 0, none⟩)), is (.agg (cells b (.slice A n c))), is (.agg (cells (aH b) (.slice none 0 0))), is (.pointer (some ⟨gb, 0, none⟩)), is (.pointer (some ⟨gb, 0, none⟩)), is (.pointer (some ⟨gb, 8, none⟩)), is (.slice A n c), any, is (.slice A n c)] [[], [0], [1], [2], [], [4], [5], [6], [3], [7]] (by kernel_rfl) (by repeat (first | exact rP | refine wO _ ?_ | refine nD ?_)) ?_ ?_ ?_
   ·exact fun t => ⟨bV.out, bF.out, pW.out, dD.out.drew, aX.out, oM.out, fK.out⟩
   ·refine ⟨?_, ?_, ?_, ?_, ?_, ?_, ?_, ?_, ?_, ?_, trivial⟩
    all_goals (intro L t wq hG hL hC hN hh K hK; simp only [filled, upd, Have, is, any, row, pick, Act.put, List.setIfInBounds_toArray, List.set_cons_zero, List.set_cons_succ, Nat.reduceAdd, Nat.reduceEqDiff, reduceIte, List.tail_cons, List.headD_cons] at hh hK ⊢; (try simp only [hh] at hK ⊢); try clear hh)
    ·go_simp; exact hK _ _ rfl (hbs 0 (by decide) (Below.refl _ _) hG)
    ·go_simp; exact hK _ _ rfl (hbs 1 (by decide) (Below.refl _ _) hG)
    ·obtain ⟨d0, d1, d2, d3, d4, d5, d6, d7, d8, d9, d10, d11, d12⟩ := hG.2.2.1.facts; go_simp; exact hK _ _ rfl (hbs 2 (by decide) (Below.refl _ _) hG)
    ·go_simp; refine (Ad b (.slice A n c) _).mono ?_; rintro e w9 ⟨rfl, mG⟩; exact hK _ _ rfl (hbs 3 (by decide) mG hG)
    ·go_simp; exact hK _ _ rfl (hbs 4 (by decide) (Below.refl _ _) hG)
    ·go_simp; exact hK _ _ rfl (hbs 5 (by decide) (Below.refl _ _) hG)
    ·go_simp; exact hK _ _ rfl (hbs 6 (by decide) (Below.refl _ _) hG)
    ·obtain ⟨d0, d1, d2, d3, d4, d5, d6, d7, d8, d9, d10, d11, d12⟩ := hG.2.2.1.facts; go_simp; exact hK _ _ rfl (hbs 7 (by decide) (Below.refl _ _) hG)
    ·have hu8 := hG.1; simp only [hL, Bool.false_eq_true, reduceIte] at hu8; refine wp_store_row 25 (.tmp 6) (.tmp 25) rfl w3.heap.size (cells (aH b) (.slice none 0 0)) rfl rfl 25 _ hu8 (by kernel_rfl) rfl (by simp [cells, Value.oneCell']) ?_; exact hK undef _ trivial (hb8 hG)
    ·go_simp; exact hK _ _ rfl (hbs 9 (by decide) (Below.refl _ _) hG)
   ·intro Lz t wq hG hall hh
    have f9 := aB hh 9 (by decide)
    simp only [pick] at f9
    replace f9 : t 9 = (.slice A n c) := f9
    clear hh
    simp only [filled, upd, Have, is, any, row, pick, Act.put, List.setIfInBounds_toArray, List.set_cons_zero, List.set_cons_succ, Nat.reduceAdd, Nat.reduceEqDiff, reduceIte]
    simp only [f9]
    obtain ⟨hxu, hxr, hxb, hb, _, _, _⟩ := hG
    simp only [hall 8 (by decide), reduceIte] at hxu
    have Zm := hid hxu
    have MF := hid hxr
    have Zl := hid hxb
    have acz := hid hb
    clear hxu hxr hxb hb hall
    clear pW bF bV dD
    go_upto_region 8 with (fail)
    go_wp2_with fail
    refine (FI.out _).mono ?_
    rintro e w6 ⟨rfl, hbx⟩
    have kG := hid (Zl.out.below hbx)
    have bT := hid (MF.out.below hbx)
    have bG := hid (Zm.out.below hbx)
    have gq := hid (bel acz.out hbx)
    clear Zl MF Zm acz
    clear hbx
    have hx2 := gY.out
    cases hbp : b.aO with
    | nil =>
     have h0 : n = 0 := by rw [hbp] at h7; exact h7.symm
     have hnI : ¬ (0 : Int) < (n : Int) := by omega
     have mX : Hid (O = some { aH b with aO := walk FILE [] T2 }) := by show _ = _; rw [iV.out, hbp]; simp [ite_self]
     clear hbp h0
     go_wp2_with fail
     refine (HWK.out none 0 0 ([]) T2 _ (aY.nil _) (Nat.le_refl _) (Nat.zero_le _) (by omega)).mono ?_
     rintro e w7 ⟨q, rfl, hown, hbx⟩
     obtain ⟨Aq, cq, rfl, hq⟩ := bW (u := { U0 with aO := walk FILE [] T2 }) hown
     clear hq
     replace hown := ay hown (Nat.le_refl _)
     have zF : Hid (w3.heap.size < w6.heap.size) := bG.out.lt
     have iy : Hid (w.heap.size < w6.heap.size) := bT.out.lt
     have mD := hid (kG.out.below hbx)
     have dQ := hid (bT.out.below hbx)
     have dO := hid (bG.out.below hbx)
     have iU := hid (bel gq.out hbx)
     have jD := hid hown
     clear hown
     clear kG bT bG gq
     clear hbx
     have BX := zF.out
     have cx := dO.out.facts.2.2.2.2.2.2.2.2.1
     have fx := dO.out.thaw.2.2.2.2.2.2.2.2.1
     go_upto_region 18 with (fail)
     have hxb := mD.out.set (k := w3.heap.size) (i := 8) (.slice Aq (walk FILE [] T2).length cq) (oM.out)
     have hxr := dQ.out.set (k := w3.heap.size) (i := 8) (.slice Aq (walk FILE [] T2).length cq) (aX.out)
     have hxu := dO.out.path (.slice Aq (walk FILE [] T2).length cq)
     have hoq := gU.aN (w' := w7.setCell ⟨w3.heap.size, 8, none⟩ (.slice Aq (walk FILE [] T2).length cq)) (gb := w3.heap.size) jD.out (fun k hk => heap_setCell_other _ _ _ _ hk) (by omega)
     have hb := iU.out.setCell (p := ⟨w3.heap.size, 8, none⟩) (fK.out) (.slice Aq (walk FILE [] T2).length cq)
     clear mD dQ dO jD iU
     clear cx fx
     generalize World.setCell w7 _ _ = w8 at hxb hxr hxu hoq hb ⊢
     have UF : Hid (UB w8 (gb) (b) (.slice A n c)) := hxb
     clear hxb
     have iI : Hid (UB w8 (w.heap.size) (U0) (.slice none 0 0)) := hxr
     clear hxr
     have jJ : Hid (UB w8 (w3.heap.size) (aH b) (.slice Aq (walk FILE [] T2).length cq)) := hxu
     clear hxu
     have tC := hid hoq
     clear hoq
     have sS := hid hb
     clear hb
     clear BX
     obtain ⟨c0, c1, c2', c3, c4, c5, c6, c7, c8, c9, c10, c11, c12⟩ := jJ.out.facts
     go_wp2_with (refine aC iI.out (aH b) Aq (walk FILE [] T2).length cq (.tmp 4) (.tmp 72) rfl rfl rfl rfl ?_)
     try simp only [Exit.inBlock, Exit.then]
     have hpo : ∀ k, k ≠ w.heap.size → (World.setRow w8 (w.heap.size) (cells (aH b) (.slice Aq (walk FILE [] T2).length cq))).heap[k]? = w8.heap[k]? := fun k hk => setRow_other _ _ _ _ hk
     have ho := ay (gU.aN tC.out hpo iy.out) (by have h1 := bP.out; have h2 := iy.out; omega : w.heap.size ≤ _)
     exact bodyPost_ret (w := World.setRow w8 w.heap.size (cells (aH b) (.slice Aq (walk FILE [] T2).length cq))) (res2 (u := aH b) (p := .slice Aq (walk FILE [] T2).length cq) rfl (iI.out.row (aH b) _) true _ rfl rfl) rfl (eH (u := { aH b with aO := walk FILE [] T2 }) mX.out (below_setRow sS.out bP.out _) ho)
    | cons x xs =>
     have hn1 : 1 ≤ n := by rw [hbp] at h7; simp at h7; omega
     obtain ⟨bb, off, rfl, hsp, hce⟩ := HP.out.1.spot (by omega)
     have hc0 : w.cell? ⟨bb, off, none⟩ = some (.string x) := by
      have := hce 0 (by rw [hbp]; simp)
      simp only [hbp, List.map_cons, List.getElem_cons_zero, Nat.add_zero] at this
      exact this
     have hc1 := gq.out.cell (p := ⟨bb, off, none⟩) hsp
     have hc2 := hc1.trans hc0
     have HC2 := hid hc2
     have YO : Hid (∀ w : World, Calls Tryz.prog 211 #[.string x] w fun e w' => e = .returned (.bool (nrm x.data.toList)) ∧ w = w') := fun w => Ah x w
     have hnI : (0 : Int) < (n : Int) := by omega
     have hn0 : 0 < n := by omega
     have HH1 : Hid (b.aO.head?.elim [] (fun x => x.data.toList) = x.data.toList) := by show _ = _; rw [hbp]; rfl
     have HH2 := hid hbp
     clear hbp hc0 hc1 hce hsp
     cases hnr : nrm x.data.toList with
     | false =>
      have mX : Hid (O = some { aH b with aO := walk FILE [] T2 }) := by show _ = _; rw [iV.out, HH1.out, hnr, if_neg (by simp)]
      rw [hnr] at YO
      clear hnr
      go_wp2_with fail
      refine (YO.out _).mono ?_
      rintro e wx ⟨rfl, hwx⟩
      obtain rfl : w6 = wx := by first | exact hwx | exact hwx.symm
      clear hwx
      go_wp2_with fail
      refine (HWK.out none 0 0 ([]) T2 _ (aY.nil _) (Nat.le_refl _) (Nat.zero_le _) (by omega)).mono ?_
      rintro e w7 ⟨q, rfl, hown, hbx⟩
      obtain ⟨Aq, cq, rfl, hq⟩ := bW (u := { U0 with aO := walk FILE [] T2 }) hown
      clear hq
      replace hown := ay hown (Nat.le_refl _)
      have zF : Hid (w3.heap.size < w6.heap.size) := bG.out.lt
      have iy : Hid (w.heap.size < w6.heap.size) := bT.out.lt
      have mD := hid (kG.out.below hbx)
      have dQ := hid (bT.out.below hbx)
      have dO := hid (bG.out.below hbx)
      have iU := hid (bel gq.out hbx)
      have jD := hid hown
      clear hown
      clear kG bT bG gq
      clear hbx
      have BX := zF.out
      have cx := dO.out.facts.2.2.2.2.2.2.2.2.1
      have fx := dO.out.thaw.2.2.2.2.2.2.2.2.1
      go_upto_region 18 with (fail)
      have hxb := mD.out.set (k := w3.heap.size) (i := 8) (.slice Aq (walk FILE [] T2).length cq) (oM.out)
      have hxr := dQ.out.set (k := w3.heap.size) (i := 8) (.slice Aq (walk FILE [] T2).length cq) (aX.out)
      have hxu := dO.out.path (.slice Aq (walk FILE [] T2).length cq)
      have hoq := gU.aN (w' := w7.setCell ⟨w3.heap.size, 8, none⟩ (.slice Aq (walk FILE [] T2).length cq)) (gb := w3.heap.size) jD.out (fun k hk => heap_setCell_other _ _ _ _ hk) (by omega)
      have hb := iU.out.setCell (p := ⟨w3.heap.size, 8, none⟩) (fK.out) (.slice Aq (walk FILE [] T2).length cq)
      clear mD dQ dO jD iU
      clear cx fx
      generalize World.setCell w7 _ _ = w8 at hxb hxr hxu hoq hb ⊢
      have UF : Hid (UB w8 (gb) (b) (.slice (some ⟨bb, off, none⟩) n c)) := hxb
      clear hxb
      have iI : Hid (UB w8 (w.heap.size) (U0) (.slice none 0 0)) := hxr
      clear hxr
      have jJ : Hid (UB w8 (w3.heap.size) (aH b) (.slice Aq (walk FILE [] T2).length cq)) := hxu
      clear hxu
      have tC := hid hoq
      clear hoq
      have sS := hid hb
      clear hb
      clear BX
      obtain ⟨c0, c1, c2', c3, c4, c5, c6, c7, c8, c9, c10, c11, c12⟩ := jJ.out.facts
      go_wp2_with (refine aC iI.out (aH b) Aq (walk FILE [] T2).length cq (.tmp 4) (.tmp 72) rfl rfl rfl rfl ?_)
      try simp only [Exit.inBlock, Exit.then]
      have hpo : ∀ k, k ≠ w.heap.size → (World.setRow w8 (w.heap.size) (cells (aH b) (.slice Aq (walk FILE [] T2).length cq))).heap[k]? = w8.heap[k]? := fun k hk => setRow_other _ _ _ _ hk
      have ho := ay (gU.aN tC.out hpo iy.out) (by have h1 := bP.out; have h2 := iy.out; omega : w.heap.size ≤ _)
      exact bodyPost_ret (w := World.setRow w8 w.heap.size (cells (aH b) (.slice Aq (walk FILE [] T2).length cq))) (res2 (u := aH b) (p := .slice Aq (walk FILE [] T2).length cq) rfl (iI.out.row (aH b) _) true _ rfl rfl) rfl (eH (u := { aH b with aO := walk FILE [] T2 }) mX.out (below_setRow sS.out bP.out _) ho)
     | true =>
      cases hbg : JR T2 with
      | true =>
       have mX : Hid (O = some { aH b with aO := walk FILE [] T2 }) := by show _ = _; rw [iV.out, hbg, if_neg (by simp)]
       have HB1 := HBG.out T2
       rw [hbg] at HB1
       have HB2 := hid HB1
       rw [hnr] at YO
       clear hnr hbg HB1
       go_wp2_with fail
       refine (YO.out _).mono ?_
       rintro e wx ⟨rfl, hwx⟩
       obtain rfl : w6 = wx := by first | exact hwx | exact hwx.symm
       clear hwx
       go_wp2_with fail
       refine (HB2.out _ (by omega)).mono ?_
       rintro e wx ⟨rfl, hwx⟩
       obtain rfl : w6 = wx := by first | exact hwx | exact hwx.symm
       clear hwx
       go_wp2_with fail
       refine (HWK.out none 0 0 ([]) T2 _ (aY.nil _) (Nat.le_refl _) (Nat.zero_le _) (by omega)).mono ?_
       rintro e w7 ⟨q, rfl, hown, hbx⟩
       obtain ⟨Aq, cq, rfl, hq⟩ := bW (u := { U0 with aO := walk FILE [] T2 }) hown
       clear hq
       replace hown := ay hown (Nat.le_refl _)
       have zF : Hid (w3.heap.size < w6.heap.size) := bG.out.lt
       have iy : Hid (w.heap.size < w6.heap.size) := bT.out.lt
       have mD := hid (kG.out.below hbx)
       have dQ := hid (bT.out.below hbx)
       have dO := hid (bG.out.below hbx)
       have iU := hid (bel gq.out hbx)
       have jD := hid hown
       clear hown
       clear kG bT bG gq
       clear hbx
       have BX := zF.out
       have cx := dO.out.facts.2.2.2.2.2.2.2.2.1
       have fx := dO.out.thaw.2.2.2.2.2.2.2.2.1
       go_upto_region 18 with (fail)
       have hxb := mD.out.set (k := w3.heap.size) (i := 8) (.slice Aq (walk FILE [] T2).length cq) (oM.out)
       have hxr := dQ.out.set (k := w3.heap.size) (i := 8) (.slice Aq (walk FILE [] T2).length cq) (aX.out)
       have hxu := dO.out.path (.slice Aq (walk FILE [] T2).length cq)
       have hoq := gU.aN (w' := w7.setCell ⟨w3.heap.size, 8, none⟩ (.slice Aq (walk FILE [] T2).length cq)) (gb := w3.heap.size) jD.out (fun k hk => heap_setCell_other _ _ _ _ hk) (by omega)
       have hb := iU.out.setCell (p := ⟨w3.heap.size, 8, none⟩) (fK.out) (.slice Aq (walk FILE [] T2).length cq)
       clear mD dQ dO jD iU
       clear cx fx
       generalize World.setCell w7 _ _ = w8 at hxb hxr hxu hoq hb ⊢
       have UF : Hid (UB w8 (gb) (b) (.slice (some ⟨bb, off, none⟩) n c)) := hxb
       clear hxb
       have iI : Hid (UB w8 (w.heap.size) (U0) (.slice none 0 0)) := hxr
       clear hxr
       have jJ : Hid (UB w8 (w3.heap.size) (aH b) (.slice Aq (walk FILE [] T2).length cq)) := hxu
       clear hxu
       have tC := hid hoq
       clear hoq
       have sS := hid hb
       clear hb
       clear BX
       obtain ⟨c0, c1, c2', c3, c4, c5, c6, c7, c8, c9, c10, c11, c12⟩ := jJ.out.facts
       go_wp2_with (refine aC iI.out (aH b) Aq (walk FILE [] T2).length cq (.tmp 4) (.tmp 72) rfl rfl rfl rfl ?_)
       try simp only [Exit.inBlock, Exit.then]
       have hpo : ∀ k, k ≠ w.heap.size → (World.setRow w8 (w.heap.size) (cells (aH b) (.slice Aq (walk FILE [] T2).length cq))).heap[k]? = w8.heap[k]? := fun k hk => setRow_other _ _ _ _ hk
       have ho := ay (gU.aN tC.out hpo iy.out) (by have h1 := bP.out; have h2 := iy.out; omega : w.heap.size ≤ _)
       exact bodyPost_ret (w := World.setRow w8 w.heap.size (cells (aH b) (.slice Aq (walk FILE [] T2).length cq))) (res2 (u := aH b) (p := .slice Aq (walk FILE [] T2).length cq) rfl (iI.out.row (aH b) _) true _ rfl rfl) rfl (eH (u := { aH b with aO := walk FILE [] T2 }) mX.out (below_setRow sS.out bP.out _) ho)
      | false =>
       have mX : Hid (O = some { aH b with aO := walk FILE (b.aO.take 1) T2 }) := by show _ = _; rw [iV.out, HH1.out, hnr, hbg, if_pos (by simp)]
       have HB1 := HBG.out T2
       rw [hbg] at HB1
       have HB2 := hid HB1
       rw [hnr] at YO
       clear hnr hbg HB1
       go_wp2_with fail
       refine (YO.out _).mono ?_
       rintro e wx ⟨rfl, hwx⟩
       obtain rfl : w6 = wx := by first | exact hwx | exact hwx.symm
       clear hwx
       go_wp2_with fail
       refine (HB2.out _ (by omega)).mono ?_
       rintro e wx ⟨rfl, hwx⟩
       obtain rfl : w6 = wx := by first | exact hwx | exact hwx.symm
       clear hwx
       have hr1 : aY w6 (some ⟨bb, off, none⟩) 1 ((b.aO.take 1).map Value.string) := by have h := ((HP.out.1.below gq.out).upto 1 (by omega)); rw [List.map_take]; exact h
       have HR1 := hid hr1
       clear hr1
       have hc1c : 1 ≤ c := by have := HP.out.2.1; omega
       go_wp2_with fail
       refine (HWK.out (some ⟨bb, off, none⟩) 1 c (b.aO.take 1) T2 _ HR1.out hc1c HP.out.2.2 (by omega)).mono ?_
       rintro e w7 ⟨q, rfl, hown, hbx⟩
       obtain ⟨Aq, cq, rfl, hq⟩ := bW (u := { U0 with aO := walk FILE (b.aO.take 1) T2 }) hown
       clear hq
       replace hown := ay hown (Nat.le_refl _)
       have zF : Hid (w3.heap.size < w6.heap.size) := bG.out.lt
       have iy : Hid (w.heap.size < w6.heap.size) := bT.out.lt
       have mD := hid (kG.out.below hbx)
       have dQ := hid (bT.out.below hbx)
       have dO := hid (bG.out.below hbx)
       have iU := hid (bel gq.out hbx)
       have jD := hid hown
       clear hown
       clear kG bT bG gq
       clear hbx
       have BX := zF.out
       have cx := dO.out.facts.2.2.2.2.2.2.2.2.1
       have fx := dO.out.thaw.2.2.2.2.2.2.2.2.1
       go_upto_region 18 with (fail)
       have hxb := mD.out.set (k := w3.heap.size) (i := 8) (.slice Aq (walk FILE (b.aO.take 1) T2).length cq) (oM.out)
       have hxr := dQ.out.set (k := w3.heap.size) (i := 8) (.slice Aq (walk FILE (b.aO.take 1) T2).length cq) (aX.out)
       have hxu := dO.out.path (.slice Aq (walk FILE (b.aO.take 1) T2).length cq)
       have hoq := gU.aN (w' := w7.setCell ⟨w3.heap.size, 8, none⟩ (.slice Aq (walk FILE (b.aO.take 1) T2).length cq)) (gb := w3.heap.size) jD.out (fun k hk => heap_setCell_other _ _ _ _ hk) (by omega)
       have hb := iU.out.setCell (p := ⟨w3.heap.size, 8, none⟩) (fK.out) (.slice Aq (walk FILE (b.aO.take 1) T2).length cq)
       clear mD dQ dO jD iU
       clear cx fx
       generalize World.setCell w7 _ _ = w8 at hxb hxr hxu hoq hb ⊢
       have UF : Hid (UB w8 (gb) (b) (.slice (some ⟨bb, off, none⟩) n c)) := hxb
       clear hxb
       have iI : Hid (UB w8 (w.heap.size) (U0) (.slice none 0 0)) := hxr
       clear hxr
       have jJ : Hid (UB w8 (w3.heap.size) (aH b) (.slice Aq (walk FILE (b.aO.take 1) T2).length cq)) := hxu
       clear hxu
       have tC := hid hoq
       clear hoq
       have sS := hid hb
       clear hb
       clear BX
       obtain ⟨c0, c1, c2', c3, c4, c5, c6, c7, c8, c9, c10, c11, c12⟩ := jJ.out.facts
       go_wp2_with (refine aC iI.out (aH b) Aq (walk FILE (b.aO.take 1) T2).length cq (.tmp 4) (.tmp 72) rfl rfl rfl rfl ?_)
       try simp only [Exit.inBlock, Exit.then]
       have hpo : ∀ k, k ≠ w.heap.size → (World.setRow w8 (w.heap.size) (cells (aH b) (.slice Aq (walk FILE (b.aO.take 1) T2).length cq))).heap[k]? = w8.heap[k]? := fun k hk => setRow_other _ _ _ _ hk
       have ho := ay (gU.aN tC.out hpo iy.out) (by have h1 := bP.out; have h2 := iy.out; omega : w.heap.size ≤ _)
       exact bodyPost_ret (w := World.setRow w8 w.heap.size (cells (aH b) (.slice Aq (walk FILE (b.aO.take 1) T2).length cq))) (res2 (u := aH b) (p := .slice Aq (walk FILE (b.aO.take 1) T2).length cq) rfl (iI.out.row (aH b) _) true _ rfl rfl) rfl (eH (u := { aH b with aO := walk FILE (b.aO.take 1) T2 }) mX.out (below_setRow sS.out bP.out _) ho)
 | false =>
  clear HLEN Y9 BD HFA
  have jy : Hid (O = if T = [] then some (along (aH b) b) else some { aH b with aO := walk FILE (if JR T = true then [] else mM true b.aO) T }) := by show _ = _; rw [HO.out, if_neg (by simp), if_neg (by simp)]
  clear HO
  go_upto_region 4 with (fail)
  generalize hw : World.alloc w2 _ = w3
  have h1 : UB w3 (w2.heap.size) (uF) (.slice none 0 0) ∧ Below w2.heap.size w2 w3 := by
   subst hw
   exact laid1 w2 _ _
  clear hw
  have hlb := pV.out.lt
  have oM : Hid (gb ≠ w2.heap.size) := by show _ ≠ _; omega
  have WM : Hid (w2.heap.size ≠ gb) := by show _ ≠ _; omega
  clear hlb
  have hlr := bK.out.lt
  have aX : Hid (w.heap.size ≠ w2.heap.size) := by show _ ≠ _; omega
  have nO : Hid (w2.heap.size ≠ w.heap.size) := by show _ ≠ _; omega
  clear hlr
  have fK : Hid (w.heap.size ≤ w2.heap.size) := eX.out.size
  have kS := hid (pV.out.below h1.2)
  have bD := hid (bK.out.below h1.2)
  have cZ := hid (bel eX.out h1.2)
  have eY := hid h1.1
  clear pV bK eX
  clear h1
  go_upto_region 6 with (fail)
  refine jc (by kernel_rfl) (fun L _ wq => Hb w w2.heap.size w.heap.size gb b (.slice A n c) L wq) [is (.pointer (some ⟨gb, 0, none⟩)), is (.pointer (some ⟨gb, 0, none⟩)), is (.agg (cells b (.slice A n c))), is (.agg (cells (aH b) (.slice none 0 0))), is (.pointer (some ⟨gb, 0, none⟩)), is (.pointer (some ⟨gb, 0, none⟩)), is (.pointer (some ⟨gb, 8, none⟩)), is (.slice A n c), any, is (.slice A n c)] [[], [0], [1], [2], [], [4], [5], [6], [3], [7]] (by kernel_rfl) (by repeat (first | exact rP | refine wO _ ?_ | refine nD ?_)) ?_ ?_ ?_
  ·exact fun t => ⟨eY.out, bD.out, kS.out, cZ.out.drew, aX.out, oM.out, fK.out⟩
  ·refine ⟨?_, ?_, ?_, ?_, ?_, ?_, ?_, ?_, ?_, ?_, trivial⟩
   all_goals (intro L t wq hG hL hC hN hh K hK; simp only [filled, upd, Have, is, any, row, pick, Act.put, List.setIfInBounds_toArray, List.set_cons_zero, List.set_cons_succ, Nat.reduceAdd, Nat.reduceEqDiff, reduceIte, List.tail_cons, List.headD_cons] at hh hK ⊢; (try simp only [hh] at hK ⊢); try clear hh)
   ·go_simp; exact hK _ _ rfl (hbs 0 (by decide) (Below.refl _ _) hG)
   ·go_simp; exact hK _ _ rfl (hbs 1 (by decide) (Below.refl _ _) hG)
   ·obtain ⟨d0, d1, d2, d3, d4, d5, d6, d7, d8, d9, d10, d11, d12⟩ := hG.2.2.1.facts; go_simp; exact hK _ _ rfl (hbs 2 (by decide) (Below.refl _ _) hG)
   ·go_simp; refine (Ad b (.slice A n c) _).mono ?_; rintro e w9 ⟨rfl, mG⟩; exact hK _ _ rfl (hbs 3 (by decide) mG hG)
   ·go_simp; exact hK _ _ rfl (hbs 4 (by decide) (Below.refl _ _) hG)
   ·go_simp; exact hK _ _ rfl (hbs 5 (by decide) (Below.refl _ _) hG)
   ·go_simp; exact hK _ _ rfl (hbs 6 (by decide) (Below.refl _ _) hG)
   ·obtain ⟨d0, d1, d2, d3, d4, d5, d6, d7, d8, d9, d10, d11, d12⟩ := hG.2.2.1.facts; go_simp; exact hK _ _ rfl (hbs 7 (by decide) (Below.refl _ _) hG)
   ·have hu8 := hG.1; simp only [hL, Bool.false_eq_true, reduceIte] at hu8; refine wp_store_row 25 (.tmp 6) (.tmp 25) rfl w2.heap.size (cells (aH b) (.slice none 0 0)) rfl rfl 25 _ hu8 (by kernel_rfl) rfl (by simp [cells, Value.oneCell']) ?_; exact hK undef _ trivial (hb8 hG)
   ·go_simp; exact hK _ _ rfl (hbs 9 (by decide) (Below.refl _ _) hG)
  ·intro Lz t wq hG hall hh
   have f9 := aB hh 9 (by decide)
   simp only [pick] at f9
   replace f9 : t 9 = (.slice A n c) := f9
   clear hh
   simp only [filled, upd, Have, is, any, row, pick, Act.put, List.setIfInBounds_toArray, List.set_cons_zero, List.set_cons_succ, Nat.reduceAdd, Nat.reduceEqDiff, reduceIte]
   simp only [f9]
   obtain ⟨hxu, hxr, hxb, hb, _, _, _⟩ := hG
   simp only [hall 8 (by decide), reduceIte] at hxu
   have Zm := hid hxu
   have MF := hid hxr
   have Zl := hid hxb
   have acz := hid hb
   clear hxu hxr hxb hb hall
   clear kS bD eY cZ
   go_upto_region 8 with (fail)
   go_wp2_with fail
   refine (FI.out _).mono ?_
   rintro e w5 ⟨rfl, hbx⟩
   have oq := hid (Zl.out.below hbx)
   have bH := hid (MF.out.below hbx)
   have bJ := hid (Zm.out.below hbx)
   have fC := hid (bel acz.out hbx)
   clear Zl MF Zm acz
   clear hbx
   by_cases h0 : T = []
   ·
    have mX : Hid (O = some (along (aH b) b)) := by show _ = _; rw [jy.out, if_pos h0]
    have q0 : ((strOf T).toList == []) = true := by rw [aK, h0]; rfl
    have q1 : (strOf T).toList = [] := by rw [aK, h0]
    clear h0
    go_upto_region 14 with (fail)
    have iy : Hid (w.heap.size < w5.heap.size) := bH.out.lt
    refine bC (by kernel_rfl) 5 [is (.agg (cells (aH b) (.slice none 0 0))), is (.pointer (some ⟨gb, 0, none⟩)), is (.pointer (some ⟨gb, 0, none⟩)), is (.agg (cells b (.slice A n c))), ab3 (some (along (aH b) b)) w5.heap.size] [[], [], [1], [1, 2], [0, 1, 2, 3], [0, 1, 2, 3, 4]] (by kernel_rfl) ?_ ?_
    ·refine ⟨?_, ?_, ?_, ?_, ?_, trivial⟩
     all_goals (intro t wq hbq hh K hK; simp only [filled, aj, upd, Have, is, any, row, pick, Act.put, List.setIfInBounds_toArray, List.set_cons_zero, List.set_cons_succ, Nat.reduceAdd, Nat.reduceEqDiff, reduceIte, List.tail_cons, List.headD_cons] at hh hK ⊢; (try simp only [hh] at hK ⊢); try clear hh)
     ·obtain ⟨d0, d1, d2, d3, d4, d5, d6, d7, d8, d9, d10, d11, d12⟩ := (bJ.out.below hbq).facts; go_simp; exact hK _ _ (Below.refl _ _) rfl
     iterate 2 · go_simp; exact hK _ _ (Below.refl _ _) rfl
     ·obtain ⟨d0, d1, d2, d3, d4, d5, d6, d7, d8, d9, d10, d11, d12⟩ := (oq.out.below hbq).facts; go_simp; exact hK _ _ (Below.refl _ _) rfl
     ·go_simp; refine (UJ (aH b) b (.slice none 0 0) A n c _ (mW.dR.below HP.out (bel fC.out hbq)) (by omega)).mono ?_; rintro e w9 ⟨mG, Aq, nq, cq, rfl, hown⟩; exact hK _ _ mG ⟨Aq, nq, cq, rfl, ay hown hbq.size⟩
    ·intro t wq hbq hh
     have f4 := aB hh 4 (by decide)
     simp only [pick] at f4
     clear hh
     simp only [filled, aj, upd, Have, is, any, row, pick, Act.put, List.setIfInBounds_toArray, List.set_cons_zero, List.set_cons_succ, Nat.reduceAdd, Nat.reduceEqDiff, reduceIte]
     obtain ⟨A4, n4, c4, f4, ho4⟩ := f4
     simp only [f4]
     have MF := hid (bH.out.below hbq)
     have acz := hid (bel fC.out hbq)
     have Ak := hid ho4
     clear ho4 hbq
     refine aC MF.out (along (aH b) b) A4 n4 c4 (.tmp 4) (.tmp 64) rfl rfl rfl rfl ?_
     go_wp2
     try simp only [Exit.inBlock, Exit.then]
     have ho := ay (gU.aN (w' := World.setRow wq w.heap.size (cells (along (aH b) b) (.slice A4 n4 c4))) (gb := w.heap.size) Ak.out (fun k hk => setRow_other _ _ _ _ hk) iy.out) (by have h1 := bP.out; have h2 := iy.out; omega : w.heap.size ≤ _)
     exact bodyPost_ret (w := World.setRow wq w.heap.size (cells (along (aH b) b) (.slice A4 n4 c4))) (res2 (u := along (aH b) b) (p := .slice A4 n4 c4) rfl (MF.out.row _ _) true _ rfl rfl) rfl (eH mX.out (below_setRow acz.out bP.out _) ho)
   ·
    have iV : Hid (O = some { aH b with aO := walk FILE (if JR T = true then [] else mM true b.aO) T }) := by show _ = _; rw [jy.out, if_neg h0]
    have q0 : ((strOf T).toList == []) = false := by rw [aK, beq_eq_false_iff_ne]; exact h0
    have q1 : ¬ (strOf T).toList = [] := by rw [aK]; exact h0
    have q2 : (strOf T).toList.isEmpty = false := by rw [aK]; simpa using h0
    clear h0 jy
    cases hbg : JR T with
    | true =>
     have HB1 := HBG.out T
     rw [hbg] at HB1
     have HB2 := hid HB1
     have mX : Hid (O = some { aH b with aO := walk FILE [] T }) := by show _ = _; rw [iV.out, hbg]; rfl
     clear HB1 hbg iV
     go_wp2_with fail
     refine (HB2.out _ (by omega)).mono ?_
     rintro e wx ⟨rfl, hwx⟩
     obtain rfl : w5 = wx := by first | exact hwx | exact hwx.symm
     clear hwx
     go_wp2_with fail
     refine (HWK.out none 0 0 ([]) T _ (aY.nil _) (Nat.le_refl _) (Nat.zero_le _) (by omega)).mono ?_
     rintro e w6 ⟨q, rfl, hown, hbx⟩
     obtain ⟨Aq, cq, rfl, hq⟩ := bW (u := { U0 with aO := walk FILE [] T }) hown
     clear hq
     replace hown := ay hown (Nat.le_refl _)
     have zF : Hid (w2.heap.size < w5.heap.size) := bJ.out.lt
     have iy : Hid (w.heap.size < w5.heap.size) := bH.out.lt
     have kG := hid (oq.out.below hbx)
     have bT := hid (bH.out.below hbx)
     have bG := hid (bJ.out.below hbx)
     have gq := hid (bel fC.out hbx)
     have uP := hid hown
     clear hown
     clear oq bH bJ fC
     clear hbx
     have BX := zF.out
     have cx := bG.out.facts.2.2.2.2.2.2.2.2.1
     have fx := bG.out.thaw.2.2.2.2.2.2.2.2.1
     go_upto_region 18 with (fail)
     have hxb := kG.out.set (k := w2.heap.size) (i := 8) (.slice Aq (walk FILE [] T).length cq) (oM.out)
     have hxr := bT.out.set (k := w2.heap.size) (i := 8) (.slice Aq (walk FILE [] T).length cq) (aX.out)
     have hxu := bG.out.path (.slice Aq (walk FILE [] T).length cq)
     have hoq := gU.aN (w' := w6.setCell ⟨w2.heap.size, 8, none⟩ (.slice Aq (walk FILE [] T).length cq)) (gb := w2.heap.size) uP.out (fun k hk => heap_setCell_other _ _ _ _ hk) (by omega)
     have hb := gq.out.setCell (p := ⟨w2.heap.size, 8, none⟩) (fK.out) (.slice Aq (walk FILE [] T).length cq)
     clear kG bT bG uP gq
     clear cx fx
     generalize World.setCell w6 _ _ = w7 at hxb hxr hxu hoq hb ⊢
     have mD : Hid (UB w7 (gb) (b) (.slice A n c)) := hxb
     clear hxb
     have dQ : Hid (UB w7 (w.heap.size) (U0) (.slice none 0 0)) := hxr
     clear hxr
     have dO : Hid (UB w7 (w2.heap.size) (aH b) (.slice Aq (walk FILE [] T).length cq)) := hxu
     clear hxu
     have jD := hid hoq
     clear hoq
     have iU := hid hb
     clear hb
     clear BX
     obtain ⟨c0, c1, c2', c3, c4, c5, c6, c7, c8, c9, c10, c11, c12⟩ := dO.out.facts
     go_wp2_with (refine aC dQ.out (aH b) Aq (walk FILE [] T).length cq (.tmp 4) (.tmp 72) rfl rfl rfl rfl ?_)
     try simp only [Exit.inBlock, Exit.then]
     have hpo : ∀ k, k ≠ w.heap.size → (World.setRow w7 (w.heap.size) (cells (aH b) (.slice Aq (walk FILE [] T).length cq))).heap[k]? = w7.heap[k]? := fun k hk => setRow_other _ _ _ _ hk
     have ho := ay (gU.aN jD.out hpo iy.out) (by have h1 := bP.out; have h2 := iy.out; omega : w.heap.size ≤ _)
     exact bodyPost_ret (w := World.setRow w7 w.heap.size (cells (aH b) (.slice Aq (walk FILE [] T).length cq))) (res2 (u := aH b) (p := .slice Aq (walk FILE [] T).length cq) rfl (dQ.out.row (aH b) _) true _ rfl rfl) rfl (eH (u := { aH b with aO := walk FILE [] T }) mX.out (below_setRow iU.out bP.out _) ho)
    | false =>
     have HB1 := HBG.out T
     rw [hbg] at HB1
     have HB2 := hid HB1
     have mX : Hid (O = some { aH b with aO := walk FILE (mM true b.aO) T }) := by show _ = _; rw [iV.out, hbg]; rfl
     clear HB1 hbg iV
     go_wp2_with fail
     refine (HB2.out _ (by omega)).mono ?_
     rintro e wx ⟨rfl, hwx⟩
     obtain rfl : w5 = wx := by first | exact hwx | exact hwx.symm
     clear hwx
     go_wp2_with fail
     refine (Ed true A n c b.aO _ (HP.out.1.below fC.out) HP.out.2.1 HP.out.2.2 (by omega)).mono ?_
     rintro e w6 ⟨v, rfl, hown, hbx⟩
     obtain ⟨A4, c4, rfl, h4, h5, h6⟩ := aJ hown
     have kG := hid (oq.out.below hbx)
     have bT := hid (bH.out.below hbx)
     have bG := hid (bJ.out.below hbx)
     have gq := hid (bel fC.out hbx)
     clear oq bH bJ fC
     clear hbx hown
     have hsl : (mM true b.aO).length ≤ n := by
      have h := GN true b.aO
      split at h <;> omega
     go_wp2_with fail
     refine (HWK.out A4 (mM true b.aO).length c4 (mM true b.aO) T _ h6 h4 h5 (by omega)).mono ?_
     rintro e w7 ⟨q, rfl, hown, hbx⟩
     obtain ⟨Aq, cq, rfl, hq⟩ := bW (u := { U0 with aO := walk FILE (mM true b.aO) T }) hown
     clear hq
     replace hown := ay hown (Nat.le_refl _)
     have zF : Hid (w2.heap.size < w6.heap.size) := bG.out.lt
     have iy : Hid (w.heap.size < w6.heap.size) := bT.out.lt
     have mD := hid (kG.out.below hbx)
     have dQ := hid (bT.out.below hbx)
     have dO := hid (bG.out.below hbx)
     have iU := hid (bel gq.out hbx)
     have jD := hid hown
     clear hown
     clear kG bT bG gq
     clear hbx
     have BX := zF.out
     have cx := dO.out.facts.2.2.2.2.2.2.2.2.1
     have fx := dO.out.thaw.2.2.2.2.2.2.2.2.1
     go_upto_region 18 with (fail)
     have hxb := mD.out.set (k := w2.heap.size) (i := 8) (.slice Aq (walk FILE (mM true b.aO) T).length cq) (oM.out)
     have hxr := dQ.out.set (k := w2.heap.size) (i := 8) (.slice Aq (walk FILE (mM true b.aO) T).length cq) (aX.out)
     have hxu := dO.out.path (.slice Aq (walk FILE (mM true b.aO) T).length cq)
     have hoq := gU.aN (w' := w7.setCell ⟨w2.heap.size, 8, none⟩ (.slice Aq (walk FILE (mM true b.aO) T).length cq)) (gb := w2.heap.size) jD.out (fun k hk => heap_setCell_other _ _ _ _ hk) (by omega)
     have hb := iU.out.setCell (p := ⟨w2.heap.size, 8, none⟩) (fK.out) (.slice Aq (walk FILE (mM true b.aO) T).length cq)
     clear mD dQ dO jD iU
     clear cx fx
     generalize World.setCell w7 _ _ = w8 at hxb hxr hxu hoq hb ⊢
     have UF : Hid (UB w8 (gb) (b) (.slice A n c)) := hxb
     clear hxb
     have iI : Hid (UB w8 (w.heap.size) (U0) (.slice none 0 0)) := hxr
     clear hxr
     have jJ : Hid (UB w8 (w2.heap.size) (aH b) (.slice Aq (walk FILE (mM true b.aO) T).length cq)) := hxu
     clear hxu
     have tC := hid hoq
     clear hoq
     have sS := hid hb
     clear hb
     clear BX
     obtain ⟨c0, c1, c2', c3, c4, c5, c6, c7, c8, c9, c10, c11, c12⟩ := jJ.out.facts
     go_wp2_with (refine aC iI.out (aH b) Aq (walk FILE (mM true b.aO) T).length cq (.tmp 4) (.tmp 72) rfl rfl rfl rfl ?_)
     try simp only [Exit.inBlock, Exit.then]
     have hpo : ∀ k, k ≠ w.heap.size → (World.setRow w8 (w.heap.size) (cells (aH b) (.slice Aq (walk FILE (mM true b.aO) T).length cq))).heap[k]? = w8.heap[k]? := fun k hk => setRow_other _ _ _ _ hk
     have ho := ay (gU.aN tC.out hpo iy.out) (by have h1 := bP.out; have h2 := iy.out; omega : w.heap.size ≤ _)
     exact bodyPost_ret (w := World.setRow w8 w.heap.size (cells (aH b) (.slice Aq (walk FILE (mM true b.aO) T).length cq))) (res2 (u := aH b) (p := .slice Aq (walk FILE (mM true b.aO) T).length cq) rfl (iI.out.row (aH b) _) true _ rfl rfl) rfl (eH (u := { aH b with aO := walk FILE (mM true b.aO) T }) mX.out (below_setRow sS.out bP.out _) ho)
end Go.Proofs.YtmpeaoacaecgpaaGreatDoor.PrsM
namespace Go.Proofs.YtmpeaoacaecgpaaGreatDoor.PrsO
open Go.RowKit Base Regs Base2 dI cO PthG PthH PthJ UrlA PrsP yw tN Fp mW Pbx tK yx WS jQ sU pO aj8 PrsF TI aj9 PrsJ PrsM akb
theorem Yp (p : Parts) (b : U) (gb : Nat) (A : Option Addr) (n c : Nat) (w : World) (hs : p.rest.length ≤ 700000) (hn : n ≤ 100000) (hB : UB w gb b (.slice A n c)) (hP : dR w b A n c) (hL : oI w) (hT : Tab.Pow w) (hM : Max w) : Calls Tryz.prog 50 #[.agg (bQ p), .pointer (some ⟨gb, 0, none⟩)] w (mO w (PrsP.resolve p (some b))) := by
 obtain ⟨s, rt, q, f, hq, hf⟩ := p
 simp only at hs
 obtain ⟨O, hO⟩ : ∃ O, O = PrsP.resolve ⟨s, rt, q, f, hq, hf⟩ (some b) := ⟨_, rfl⟩
 rw [← hO]
 unfold PrsP.resolve at hO
 simp only at hO
 have HO := hid hO
 have wC : Hid (∀ w : World, Calls Tryz.prog 114 #[.string (strOf s)] w fun e w' => e = .returned (.bool (special s)) ∧ w' = w) := fun w => jv (strOf s) w
 have vW : Hid (∀ w : World, oI w → Tab.Pow w → Max w → Calls Tryz.prog 119 #[.agg (bQ ⟨s, rt, q, f, hq, hf⟩)] w (mO w (PrsP.plain ⟨s, rt, q, f, hq, hf⟩))) := fun w a c d => VL ⟨s, rt, q, f, hq, hf⟩ w (by show rt.length ≤ _; omega) a c d
 have HFN : Hid (∀ w : World, oI w → Tab.Pow w → Max w → Calls Tryz.prog 113 #[.string (strOf rt), .pointer none] w (mO w (file rt none))) := fun w a c d => Ve rt w hs a c d
 have F9 : Hid (∀ w : World, Calls Tryz.prog 118 #[.string (strOf s)] w fun e w' => e = .returned (.string (cs (special s))) ∧ w' = w) := fun w => jr (strOf s) w
 have HTR : Hid (∀ w : World, Calls Tryz.prog 117 #[.string (strOf rt), .string (cs true)] w fun e w' => e = .returned (.string (strOf (rt.dropWhile (gB true)))) ∧ Below w.heap.size w w') := fun w => AX rt w
 obtain ⟨T2, hT2⟩ : ∃ x, x = rt.dropWhile (gB true) := ⟨_, rfl⟩
 have XL : T2.length ≤ 900000 := by rw [hT2]; have := (List.dropWhile_sublist (gB true) (l := rt)).length_le; omega
 rw [← hT2] at HTR HO
 obtain ⟨OA, hOA⟩ : ∃ x, x = authority s T2 := ⟨_, rfl⟩
 have HAU : Hid (∀ w : World, oI w → Tab.Pow w → Max w → Calls Tryz.prog 116 #[.string (strOf s), .string (strOf T2)] w (mO w OA)) := fun w a b c => by rw [hOA]; exact qP s T2 w XL a b c
 rw [← hOA] at HO
 have HL := hid hL
 have HT := hid hT
 have HM := hid hM
 clear hO hT2 hOA hL hT hM
 have HFB : Hid (∀ w : World, UB w gb b (.slice A n c) → dR w b A n c → oI w → Tab.Pow w → Max w → Calls Tryz.prog 113 #[.string (strOf rt), .pointer (some ⟨gb, 0, none⟩)] w (mO w (file rt (some b)))) := fun w h1 h2 a d e => ahv rt b gb A n c w hs hn h1 h2 a d e
 obtain ⟨OR, hOR⟩ : ∃ x, x = relative rt b := ⟨_, rfl⟩
 have HRE : Hid (∀ w : World, dR w b A n c → oI w → Tab.Pow w → Max w → Calls Tryz.prog 115 #[.string (strOf rt), .agg (cells b (.slice A n c))] w (mO w OR)) := fun w h a d e => by rw [hOR]; exact Yn rt b A n c w hs hn h a d e
 obtain ⟨OO, hOO⟩ : ∃ x, x = PrsP.rY ⟨s, rt, q, f, hq, hf⟩ b := ⟨_, rfl⟩
 have F8 : Hid (∀ w : World, dR w b A n c → Calls Tryz.prog 120 #[.agg (bQ ⟨s, rt, q, f, hq, hf⟩), .agg (cells b (.slice A n c))] w (mO w OO)) := fun w h => by rw [hOO]; exact X5 ⟨s, rt, q, f, hq, hf⟩ b A n c w hn h
 rw [← hOR, ← hOO] at HO
 obtain ⟨a2, ha2⟩ : ∃ x, x = Lib.hasPrefix rt [47, 47] := ⟨_, rfl⟩
 have UA : Hid (∀ w : World, Calls Tryz.prog 103 #[.string (strOf rt), .string ⟨#[47, 47]⟩] w fun e w' => e = .returned (.bool a2) ∧ w' = w) := fun w => by rw [ha2]; exact Tryz.strings_HasPrefix (strOf rt) ⟨#[47, 47]⟩ w
 rw [← ha2] at HO
 have HP := hid hP
 have TF := hid hB
 clear hOR hOO ha2 hP hB
 go_enter Tryz.func50, Tryz.ntmps50
 go_upto_region 1 with (fail)
 generalize hw : World.alloc (World.alloc w _) _ = w1
 have h1 : PB w1 (w.heap.size) (⟨s, rt, q, f, hq, hf⟩) ∧ UB w1 ((w.heap.size + 1)) (U0) (.slice none 0 0) ∧ Below w.heap.size w w1 := by
  subst hw
  exact laid2 w _ _ _ _
 clear hw
 have WL : Hid (w.heap.size ≤ w.heap.size) := Nat.le_refl _
 have bP : Hid (w.heap.size ≤ (w.heap.size + 1)) := Nat.le_succ _
 have dF := hid h1.1
 have aW := hid h1.2.1
 have bM := hid h1.2.2
 have iY := hid (TF.out.below h1.2.2)
 clear TF
 clear h1
 obtain ⟨p0, p1, p2, p3, p4, p5⟩ := dF.out.facts
 obtain ⟨d0, d1, d2, d3, d4, d5, d6, d7, d8, d9, d10, d11, d12⟩ := iY.out.facts
 by_cases hs1 : s = FILE
 ·
  have afn : ((strOf s).toList == [102, 105, 108, 101]) = true := by rw [aK, hs1]; first | done | rfl
  have afo : (strOf s).toList = [102, 105, 108, 101] := by rw [aK, hs1]; first | done | rfl
  by_cases hb1 : b.au = FILE
  ·
   have mX : Hid (O = file rt (some b)) := by
    show _ = _
    rw [HO.out, if_pos hs1]
    first | (rw [if_pos hb1]; done) | (show file rt (if decide (b.au = FILE) = true then some b else none) = _; rw [if_pos (decide_eq_true hb1)]) | (congr 1; simp [Option.filter, hb1]) | (trace_state; simp_all)
   have alh : ((strOf b.au).toList == [102, 105, 108, 101]) = true := by rw [aK, hb1]; first | done | rfl
   have alj : (strOf b.au).toList = [102, 105, 108, 101] := by rw [aK, hb1]; first | done | rfl
   clear hs1 hb1
   go_wp2_with fail
   refine (HFB.out _ iY.out (mW.dR.below HP.out bM.out) (HL.out.below bM.out) (bY HT.out bM.out) (HM.out.below bM.out)).mono ?_
   rintro e w2 ⟨hbx, u', A', n', c', ok, rfl, hown, yK⟩
   have iy : Hid ((w.heap.size + 1) < w1.heap.size) := aW.out.lt
   have HOW := hid hown
   have F8 := hid yK
   clear hown yK
   have pV := hid (iY.out.below hbx)
   have jE := hid (dF.out.below hbx)
   have bK := hid (aW.out.below hbx)
   have eX := hid (bel bM.out hbx)
   have Ib : Hid (w.heap.size ≤ w1.heap.size) := bM.out.size
   clear iY dF aW bM
   clear hbx
   go_wp2_with (refine aC bK.out u' A' n' c' (.tmp 4) (.tmp 23) rfl rfl rfl rfl ?_)
   try simp only [Exit.inBlock, Exit.then]
   exact bodyPost_ret (w := World.setRow w2 (w.heap.size + 1) (cells u' (.slice A' n' c'))) (res2 (u := u') (p := .slice A' n' c') rfl (bK.out.row u' _) ok _ rfl rfl) rfl ⟨below_setRow eX.out bP.out _, u', A', n', c', ok, rfl, (HOW.out.row iy.out _).base Ib.out, by rw [mX.out]; exact F8.out⟩
  ·
   have mX : Hid (O = file rt none) := by
    show _ = _
    rw [HO.out, if_pos hs1]
    first | (rw [if_neg hb1]; done) | (show file rt (if decide (b.au = FILE) = true then some b else none) = _; rw [if_neg (by simpa using hb1)]) | (congr 1; simp [Option.filter, hb1]) | (trace_state; simp_all)
   have alh : ((strOf b.au).toList == [102, 105, 108, 101]) = false := by rw [aK, beq_eq_false_iff_ne]; exact hb1
   have alj : ¬ (strOf b.au).toList = [102, 105, 108, 101] := by rw [aK]; exact hb1
   clear hs1 hb1
   go_wp2_with fail
   refine (HFN.out _ (HL.out.below bM.out) (bY HT.out bM.out) (HM.out.below bM.out)).mono ?_
   rintro e w2 ⟨hbx, u', A', n', c', ok, rfl, hown, yK⟩
   have iy : Hid ((w.heap.size + 1) < w1.heap.size) := aW.out.lt
   have HOW := hid hown
   have F8 := hid yK
   clear hown yK
   have pV := hid (iY.out.below hbx)
   have jE := hid (dF.out.below hbx)
   have bK := hid (aW.out.below hbx)
   have eX := hid (bel bM.out hbx)
   have Ib : Hid (w.heap.size ≤ w1.heap.size) := bM.out.size
   clear iY dF aW bM
   clear hbx
   go_wp2_with (refine aC bK.out u' A' n' c' (.tmp 4) (.tmp 23) rfl rfl rfl rfl ?_)
   try simp only [Exit.inBlock, Exit.then]
   exact bodyPost_ret (w := World.setRow w2 (w.heap.size + 1) (cells u' (.slice A' n' c'))) (res2 (u := u') (p := .slice A' n' c') rfl (bK.out.row u' _) ok _ rfl rfl) rfl ⟨below_setRow eX.out bP.out _, u', A', n', c', ok, rfl, (HOW.out.row iy.out _).base Ib.out, by rw [mX.out]; exact F8.out⟩
 ·
  have afn : ((strOf s).toList == [102, 105, 108, 101]) = false := by rw [aK, beq_eq_false_iff_ne]; exact hs1
  have afo : ¬ (strOf s).toList = [102, 105, 108, 101] := by rw [aK]; exact hs1
  cases hsp : special s with
  | true =>
   have jy : Hid (O = if b.au = s ∧ a2 = false then OR else OA) := by show _ = _; rw [HO.out, if_neg hs1, if_pos hsp]
   rw [hsp] at wC F9
   clear hsp hs1
   go_wp2_with fail
   refine (wC.out _).mono ?_
   rintro e wx ⟨rfl, hwx⟩
   obtain rfl : w1 = wx := by first | exact hwx | exact hwx.symm
   clear hwx
   clear p0 p1 p2 p3 p4 p5
   clear d0 d1 d2 d3 d4 d5 d6 d7 d8 d9 d10 d11 d12
   by_cases hb1 : b.au = s
   ·
    have Tz : Hid (((strOf b.au).toList == (strOf s).toList) = true) := by show _ = _; rw [hb1]; simp
    cases a2 with
    | true =>
     have mX : Hid (O = OA) := by show _ = _; rw [jy.out, if_neg (by simp)]
     clear jy hb1
     go_upto_region 6 with (fail)
     refine aV (by kernel_rfl) [is (.pointer (some ⟨gb, 0, none⟩)), is (.bool true), is (.bool true), is (.pointer (some ⟨gb, 0, none⟩)), is (.pointer (some ⟨gb, 0, none⟩)), is (.pointer (some ⟨gb, 0, none⟩)), is (.string (strOf b.au)), is (.pointer (some ⟨w.heap.size, 0, none⟩)), is (.string (strOf s)), is (.bool true), is (.bool true), is (.bool true), is (.pointer (some ⟨w.heap.size, 1, none⟩)), is (.string (strOf rt)), is (.bool true), is (.bool false), is (.bool false)] [[], [0], [1], [2], [2, 3], [2, 4], [2, 5], [2], [2, 7], [2, 6, 8], [2, 9], [10], [11], [11, 12], [11, 13], [11, 14], [11, 15]] (by kernel_rfl) ?_ ?_
     ·refine ⟨?_, ?_, ?_, ?_, ?_, ?_, ?_, ?_, ?_, ?_, ?_, ?_, ?_, ?_, ?_, ?_, ?_, trivial⟩
      all_goals (intro t wq hbq hh K hK; simp only [filled, upd, Have, is, any, row, pick, Act.put, List.setIfInBounds_toArray, List.set_cons_zero, List.set_cons_succ, Nat.reduceAdd, Nat.reduceEqDiff, reduceIte, List.tail_cons, List.headD_cons] at hh hK ⊢; (try simp only [hh] at hK ⊢); try clear hh)
      ·go_simp; exact hK _ _ (Below.refl _ _) rfl
      ·go_simp; first | exact hK _ _ (Below.refl _ _) rfl | exact hK _ _ (Below.refl _ _) (iC (by omega) (by omega))
      iterate 4 · go_simp; exact hK _ _ (Below.refl _ _) rfl
      ·obtain ⟨d0, d1, d2, d3, d4, d5, d6, d7, d8, d9, d10, d11, d12⟩ := (iY.out.below hbq).facts; go_simp; exact hK _ _ (Below.refl _ _) rfl
      ·go_simp; exact hK _ _ (Below.refl _ _) rfl
      ·have hc := (dF.out.below hbq).facts.1; go_simp; exact hK _ _ (Below.refl _ _) rfl
      ·have hqq := Tz.out; go_simp; exact hK _ _ (Below.refl _ _) rfl
      iterate 3 · go_simp; exact hK _ _ (Below.refl _ _) rfl
      ·have hc := (dF.out.below hbq).facts.2.1; go_simp; exact hK _ _ (Below.refl _ _) rfl
      ·go_simp; refine (UA.out _).mono ?_; rintro e w9 ⟨rfl, hw9⟩; subst hw9; exact hK _ _ (Below.refl _ _) rfl
      iterate 2 · go_simp; exact hK _ _ (Below.refl _ _) rfl
     ·intro t wz hbq hh
      have f16 := aB hh 16 (by decide)
      simp only [pick] at f16
      replace f16 : t 16 = (.bool false) := f16
      clear hh
      simp only [filled, upd, Have, is, any, row, pick, Act.put, List.setIfInBounds_toArray, List.set_cons_zero, List.set_cons_succ, Nat.reduceAdd, Nat.reduceEqDiff, reduceIte]
      simp only [f16]
      have ajU := hid (iY.out.below hbq)
      have yh := hid (dF.out.below hbq)
      have CP := hid (aW.out.below hbq)
      have x9 := hid (bel bM.out hbq)
      clear iY dF aW bM
      clear hbq
      have iy : Hid ((w.heap.size + 1) < wz.heap.size) := CP.out.lt
      go_upto_region 8 with (fail)
      refine bC (by kernel_rfl) 11 [is (.pointer (some ⟨w.heap.size, 0, none⟩)), is (.string (strOf s)), is (.pointer (some ⟨w.heap.size, 1, none⟩)), is (.string (strOf rt)), is (.pointer (some ⟨w.heap.size, 0, none⟩)), is (.string (strOf s)), is (.string (cs true)), is (.string (strOf T2)), aeL OA wz.heap.size, ab3 OA wz.heap.size, is (.bool OA.isSome)] [[], [0], [], [2], [], [4], [4, 5], [2, 3, 4, 5, 6], [0, 1, 2, 3, 4, 5, 6, 7], [0, 1, 2, 3, 4, 5, 6, 7, 8], [0, 1, 2, 3, 4, 5, 6, 7, 8], [0, 1, 2, 3, 4, 5, 6, 7, 8, 9, 10]] (by kernel_rfl) ?_ ?_
      ·refine ⟨?_, ?_, ?_, ?_, ?_, ?_, ?_, ?_, ?_, ?_, ?_, trivial⟩
       all_goals (intro t wq hbq hh K hK; simp only [filled, aj, upd, Have, is, any, row, pick, Act.put, List.setIfInBounds_toArray, List.set_cons_zero, List.set_cons_succ, Nat.reduceAdd, Nat.reduceEqDiff, reduceIte, List.tail_cons, List.headD_cons] at hh hK ⊢)
       ·(try clear hh); go_simp; exact hK _ _ (Below.refl _ _) rfl
       ·simp only [hh] at hK ⊢; clear hh; have hc := (yh.out.below hbq).facts.1; go_simp; exact hK _ _ (Below.refl _ _) rfl
       ·(try clear hh); go_simp; exact hK _ _ (Below.refl _ _) rfl
       ·simp only [hh] at hK ⊢; clear hh; have hc := (yh.out.below hbq).facts.2.1; go_simp; exact hK _ _ (Below.refl _ _) rfl
       ·(try clear hh); go_simp; exact hK _ _ (Below.refl _ _) rfl
       ·simp only [hh] at hK ⊢; clear hh; have hc := (yh.out.below hbq).facts.1; go_simp; exact hK _ _ (Below.refl _ _) rfl
       ·simp only [hh] at hK ⊢; clear hh; go_simp; refine (F9.out _).mono ?_; rintro e w9 ⟨rfl, hw9⟩; subst hw9; exact hK _ _ (Below.refl _ _) rfl
       ·simp only [hh] at hK ⊢; clear hh; go_simp; refine (HTR.out _).mono ?_; rintro e w9 ⟨rfl, mG⟩; exact hK _ _ mG rfl
       ·simp only [hh] at hK ⊢; clear hh; go_simp; refine (HAU.out _ (HL.out.below (bel x9.out hbq)) (bY HT.out (bel x9.out hbq)) (HM.out.below (bel x9.out hbq))).mono ?_; intro e w9 ha; obtain ⟨mG, A9, n9, c9, rfl, Tq⟩ := Regs.ql ha; exact hK _ _ mG ⟨A9, n9, c9, rfl, ay Tq hbq.size⟩
       ·have e8 := hh.2.2.2.2.2.2.2.2.1; (try clear hh); obtain ⟨A8, n8, c8, e8, ho8⟩ := e8; simp only [e8] at hK ⊢; go_simp; exact hK _ _ (Below.refl _ _) ⟨_, _, _, rfl, ho8⟩
       ·have e8 := hh.2.2.2.2.2.2.2.2.1; (try clear hh); obtain ⟨A8, n8, c8, e8, ho8⟩ := e8; simp only [e8] at hK ⊢; go_simp; exact hK _ _ (Below.refl _ _) rfl
      ·intro t wq hbq hh
       have f9 := aB hh 9 (by decide)
       simp only [pick] at f9
       have f10 := aB hh 10 (by decide)
       simp only [pick] at f10
       replace f10 : t 10 = (.bool OA.isSome) := f10
       clear hh
       simp only [filled, aj, upd, Have, is, any, row, pick, Act.put, List.setIfInBounds_toArray, List.set_cons_zero, List.set_cons_succ, Nat.reduceAdd, Nat.reduceEqDiff, reduceIte]
       obtain ⟨A9, n9, c9, f9, Tq⟩ := f9
       simp only [f9, f10]
       have yj := hid (CP.out.below hbq)
       have Et := hid (bel x9.out hbq)
       have Ak := hid Tq
       clear Tq hbq
       refine aC yj.out ((OA).getD U0) A9 n9 c9 (.tmp 4) (.tmp 63) rfl rfl rfl rfl ?_
       go_wp2
       try simp only [Exit.inBlock, Exit.then]
       have ho := ay (gU.aN (w' := World.setRow wq (w.heap.size + 1) (cells ((OA).getD U0) (.slice A9 n9 c9))) (gb := (w.heap.size + 1)) (Ak.out) (fun k hk => setRow_other _ _ _ _ hk) iy.out) (by have h1 := bP.out; have h2 := iy.out; omega : w.heap.size ≤ _)
       refine bodyPost_ret (w := World.setRow wq (w.heap.size + 1) (cells ((OA).getD U0) (.slice A9 n9 c9))) (res2 (u := (OA).getD U0) (p := .slice A9 n9 c9) rfl (yj.out.row _ _) (OA).isSome _ rfl rfl) rfl ?_
       rw [mX.out]
       exact Regs.qM (below_setRow Et.out bP.out _) ho
    | false =>
     have mX : Hid (O = OR) := by show _ = _; rw [jy.out, if_pos ⟨hb1, rfl⟩]
     clear jy hb1
     go_upto_region 6 with (fail)
     refine aV (by kernel_rfl) [is (.pointer (some ⟨gb, 0, none⟩)), is (.bool true), is (.bool true), is (.pointer (some ⟨gb, 0, none⟩)), is (.pointer (some ⟨gb, 0, none⟩)), is (.pointer (some ⟨gb, 0, none⟩)), is (.string (strOf b.au)), is (.pointer (some ⟨w.heap.size, 0, none⟩)), is (.string (strOf s)), is (.bool true), is (.bool true), is (.bool true), is (.pointer (some ⟨w.heap.size, 1, none⟩)), is (.string (strOf rt)), is (.bool false), is (.bool true), is (.bool true)] [[], [0], [1], [2], [2, 3], [2, 4], [2, 5], [2], [2, 7], [2, 6, 8], [2, 9], [10], [11], [11, 12], [11, 13], [11, 14], [11, 15]] (by kernel_rfl) ?_ ?_
     ·refine ⟨?_, ?_, ?_, ?_, ?_, ?_, ?_, ?_, ?_, ?_, ?_, ?_, ?_, ?_, ?_, ?_, ?_, trivial⟩
      all_goals (intro t wq hbq hh K hK; simp only [filled, upd, Have, is, any, row, pick, Act.put, List.setIfInBounds_toArray, List.set_cons_zero, List.set_cons_succ, Nat.reduceAdd, Nat.reduceEqDiff, reduceIte, List.tail_cons, List.headD_cons] at hh hK ⊢; (try simp only [hh] at hK ⊢); try clear hh)
      ·go_simp; exact hK _ _ (Below.refl _ _) rfl
      ·go_simp; first | exact hK _ _ (Below.refl _ _) rfl | exact hK _ _ (Below.refl _ _) (iC (by omega) (by omega))
      iterate 4 · go_simp; exact hK _ _ (Below.refl _ _) rfl
      ·obtain ⟨d0, d1, d2, d3, d4, d5, d6, d7, d8, d9, d10, d11, d12⟩ := (iY.out.below hbq).facts; go_simp; exact hK _ _ (Below.refl _ _) rfl
      ·go_simp; exact hK _ _ (Below.refl _ _) rfl
      ·have hc := (dF.out.below hbq).facts.1; go_simp; exact hK _ _ (Below.refl _ _) rfl
      ·have hqq := Tz.out; go_simp; exact hK _ _ (Below.refl _ _) rfl
      iterate 3 · go_simp; exact hK _ _ (Below.refl _ _) rfl
      ·have hc := (dF.out.below hbq).facts.2.1; go_simp; exact hK _ _ (Below.refl _ _) rfl
      ·go_simp; refine (UA.out _).mono ?_; rintro e w9 ⟨rfl, hw9⟩; subst hw9; exact hK _ _ (Below.refl _ _) rfl
      iterate 2 · go_simp; exact hK _ _ (Below.refl _ _) rfl
     ·intro t wz hbq hh
      have f16 := aB hh 16 (by decide)
      simp only [pick] at f16
      replace f16 : t 16 = (.bool true) := f16
      clear hh
      simp only [filled, upd, Have, is, any, row, pick, Act.put, List.setIfInBounds_toArray, List.set_cons_zero, List.set_cons_succ, Nat.reduceAdd, Nat.reduceEqDiff, reduceIte]
      simp only [f16]
      have ajU := hid (iY.out.below hbq)
      have yh := hid (dF.out.below hbq)
      have CP := hid (aW.out.below hbq)
      have x9 := hid (bel bM.out hbq)
      clear iY dF aW bM
      clear hbq
      have iy : Hid ((w.heap.size + 1) < wz.heap.size) := CP.out.lt
      go_upto_region 7 with (fail)
      refine bC (by kernel_rfl) 8 [is (.pointer (some ⟨w.heap.size, 1, none⟩)), is (.string (strOf rt)), is (.pointer (some ⟨gb, 0, none⟩)), is (.pointer (some ⟨gb, 0, none⟩)), is (.agg (cells b (.slice A n c))), aeL OR wz.heap.size, ab3 OR wz.heap.size, is (.bool OR.isSome)] [[], [0], [], [2], [2, 3], [0, 1, 2, 3, 4], [0, 1, 2, 3, 4, 5], [0, 1, 2, 3, 4, 5], [0, 1, 2, 3, 4, 5, 6, 7]] (by kernel_rfl) ?_ ?_
      ·refine ⟨?_, ?_, ?_, ?_, ?_, ?_, ?_, ?_, trivial⟩
       all_goals (intro t wq hbq hh K hK; simp only [filled, aj, upd, Have, is, any, row, pick, Act.put, List.setIfInBounds_toArray, List.set_cons_zero, List.set_cons_succ, Nat.reduceAdd, Nat.reduceEqDiff, reduceIte, List.tail_cons, List.headD_cons] at hh hK ⊢)
       ·(try clear hh); go_simp; exact hK _ _ (Below.refl _ _) rfl
       ·simp only [hh] at hK ⊢; clear hh; have hc := (yh.out.below hbq).facts.2.1; go_simp; exact hK _ _ (Below.refl _ _) rfl
       ·(try clear hh); go_simp; exact hK _ _ (Below.refl _ _) rfl
       ·simp only [hh] at hK ⊢; clear hh; go_simp; exact hK _ _ (Below.refl _ _) rfl
       ·simp only [hh] at hK ⊢; clear hh; obtain ⟨d0, d1, d2, d3, d4, d5, d6, d7, d8, d9, d10, d11, d12⟩ := (ajU.out.below hbq).facts; go_simp; exact hK _ _ (Below.refl _ _) rfl
       ·simp only [hh] at hK ⊢; clear hh; go_simp; refine (HRE.out _ (mW.dR.below HP.out (bel x9.out hbq)) (HL.out.below (bel x9.out hbq)) (bY HT.out (bel x9.out hbq)) (HM.out.below (bel x9.out hbq))).mono ?_; intro e w9 ha; obtain ⟨mG, A9, n9, c9, rfl, Tq⟩ := Regs.ql ha; exact hK _ _ mG ⟨A9, n9, c9, rfl, ay Tq hbq.size⟩
       ·have e5 := hh.2.2.2.2.2.1; (try clear hh); obtain ⟨A5, n5, c5, e5, XU⟩ := e5; simp only [e5] at hK ⊢; go_simp; exact hK _ _ (Below.refl _ _) ⟨_, _, _, rfl, XU⟩
       ·have e5 := hh.2.2.2.2.2.1; (try clear hh); obtain ⟨A5, n5, c5, e5, XU⟩ := e5; simp only [e5] at hK ⊢; go_simp; exact hK _ _ (Below.refl _ _) rfl
      ·intro t wq hbq hh
       have f6 := aB hh 6 (by decide)
       simp only [pick] at f6
       have f7 := aB hh 7 (by decide)
       simp only [pick] at f7
       replace f7 : t 7 = (.bool OR.isSome) := f7
       clear hh
       simp only [filled, aj, upd, Have, is, any, row, pick, Act.put, List.setIfInBounds_toArray, List.set_cons_zero, List.set_cons_succ, Nat.reduceAdd, Nat.reduceEqDiff, reduceIte]
       obtain ⟨A6, n6, c6, f6, YS⟩ := f6
       simp only [f6, f7]
       have yj := hid (CP.out.below hbq)
       have Et := hid (bel x9.out hbq)
       have Ak := hid YS
       clear YS hbq
       refine aC yj.out ((OR).getD U0) A6 n6 c6 (.tmp 4) (.tmp 52) rfl rfl rfl rfl ?_
       go_wp2
       try simp only [Exit.inBlock, Exit.then]
       have ho := ay (gU.aN (w' := World.setRow wq (w.heap.size + 1) (cells ((OR).getD U0) (.slice A6 n6 c6))) (gb := (w.heap.size + 1)) (Ak.out) (fun k hk => setRow_other _ _ _ _ hk) iy.out) (by have h1 := bP.out; have h2 := iy.out; omega : w.heap.size ≤ _)
       refine bodyPost_ret (w := World.setRow wq (w.heap.size + 1) (cells ((OR).getD U0) (.slice A6 n6 c6))) (res2 (u := (OR).getD U0) (p := .slice A6 n6 c6) rfl (yj.out.row _ _) (OR).isSome _ rfl rfl) rfl ?_
       rw [mX.out]
       exact Regs.qM (below_setRow Et.out bP.out _) ho
   ·
    have Tz : Hid (((strOf b.au).toList == (strOf s).toList) = false) := by show _ = _; rw [aK, aK, beq_eq_false_iff_ne]; exact hb1
    have mX : Hid (O = OA) := by show _ = _; rw [jy.out, if_neg (fun h => hb1 h.1)]
    clear jy hb1
    go_upto_region 6 with (fail)
    refine aV (by kernel_rfl) [is (.pointer (some ⟨gb, 0, none⟩)), is (.bool true), is (.bool true), is (.pointer (some ⟨gb, 0, none⟩)), is (.pointer (some ⟨gb, 0, none⟩)), is (.pointer (some ⟨gb, 0, none⟩)), is (.string (strOf b.au)), is (.pointer (some ⟨w.heap.size, 0, none⟩)), is (.string (strOf s)), is (.bool false), is (.bool false), is (.bool false), is (undef), is (undef), is (undef), is (undef), is (.bool false)] [[], [0], [1], [2], [2, 3], [2, 4], [2, 5], [2], [2, 7], [2, 6, 8], [2, 9], [10], [11], [11, 12], [11, 13], [11, 14], [11, 15]] (by kernel_rfl) ?_ ?_
    ·refine ⟨?_, ?_, ?_, ?_, ?_, ?_, ?_, ?_, ?_, ?_, ?_, ?_, ?_, ?_, ?_, ?_, ?_, trivial⟩
     all_goals (intro t wq hbq hh K hK; simp only [filled, upd, Have, is, any, row, pick, Act.put, List.setIfInBounds_toArray, List.set_cons_zero, List.set_cons_succ, Nat.reduceAdd, Nat.reduceEqDiff, reduceIte, List.tail_cons, List.headD_cons] at hh hK ⊢; (try simp only [hh] at hK ⊢); try clear hh)
     ·go_simp; exact hK _ _ (Below.refl _ _) rfl
     ·go_simp; first | exact hK _ _ (Below.refl _ _) rfl | exact hK _ _ (Below.refl _ _) (iC (by omega) (by omega))
     iterate 4 · go_simp; exact hK _ _ (Below.refl _ _) rfl
     ·obtain ⟨d0, d1, d2, d3, d4, d5, d6, d7, d8, d9, d10, d11, d12⟩ := (iY.out.below hbq).facts; go_simp; exact hK _ _ (Below.refl _ _) rfl
     ·go_simp; exact hK _ _ (Below.refl _ _) rfl
     ·have hc := (dF.out.below hbq).facts.1; go_simp; exact hK _ _ (Below.refl _ _) rfl
     ·have hqq := Tz.out; go_simp; exact hK _ _ (Below.refl _ _) rfl
     iterate 7 · go_simp; exact hK _ _ (Below.refl _ _) rfl
    ·intro t wz hbq hh
     have f16 := aB hh 16 (by decide)
     simp only [pick] at f16
     replace f16 : t 16 = (.bool false) := f16
     clear hh
     simp only [filled, upd, Have, is, any, row, pick, Act.put, List.setIfInBounds_toArray, List.set_cons_zero, List.set_cons_succ, Nat.reduceAdd, Nat.reduceEqDiff, reduceIte]
     simp only [f16]
     have ajU := hid (iY.out.below hbq)
     have yh := hid (dF.out.below hbq)
     have CP := hid (aW.out.below hbq)
     have x9 := hid (bel bM.out hbq)
     clear iY dF aW bM
     clear hbq
     have iy : Hid ((w.heap.size + 1) < wz.heap.size) := CP.out.lt
     go_upto_region 8 with (fail)
     refine bC (by kernel_rfl) 11 [is (.pointer (some ⟨w.heap.size, 0, none⟩)), is (.string (strOf s)), is (.pointer (some ⟨w.heap.size, 1, none⟩)), is (.string (strOf rt)), is (.pointer (some ⟨w.heap.size, 0, none⟩)), is (.string (strOf s)), is (.string (cs true)), is (.string (strOf T2)), aeL OA wz.heap.size, ab3 OA wz.heap.size, is (.bool OA.isSome)] [[], [0], [], [2], [], [4], [4, 5], [2, 3, 4, 5, 6], [0, 1, 2, 3, 4, 5, 6, 7], [0, 1, 2, 3, 4, 5, 6, 7, 8], [0, 1, 2, 3, 4, 5, 6, 7, 8], [0, 1, 2, 3, 4, 5, 6, 7, 8, 9, 10]] (by kernel_rfl) ?_ ?_
     ·refine ⟨?_, ?_, ?_, ?_, ?_, ?_, ?_, ?_, ?_, ?_, ?_, trivial⟩
      all_goals (intro t wq hbq hh K hK; simp only [filled, aj, upd, Have, is, any, row, pick, Act.put, List.setIfInBounds_toArray, List.set_cons_zero, List.set_cons_succ, Nat.reduceAdd, Nat.reduceEqDiff, reduceIte, List.tail_cons, List.headD_cons] at hh hK ⊢)
      ·(try clear hh); go_simp; exact hK _ _ (Below.refl _ _) rfl
      ·simp only [hh] at hK ⊢; clear hh; have hc := (yh.out.below hbq).facts.1; go_simp; exact hK _ _ (Below.refl _ _) rfl
      ·(try clear hh); go_simp; exact hK _ _ (Below.refl _ _) rfl
      ·simp only [hh] at hK ⊢; clear hh; have hc := (yh.out.below hbq).facts.2.1; go_simp; exact hK _ _ (Below.refl _ _) rfl
      ·(try clear hh); go_simp; exact hK _ _ (Below.refl _ _) rfl
      ·simp only [hh] at hK ⊢; clear hh; have hc := (yh.out.below hbq).facts.1; go_simp; exact hK _ _ (Below.refl _ _) rfl
      ·simp only [hh] at hK ⊢; clear hh; go_simp; refine (F9.out _).mono ?_; rintro e w9 ⟨rfl, hw9⟩; subst hw9; exact hK _ _ (Below.refl _ _) rfl
      ·simp only [hh] at hK ⊢; clear hh; go_simp; refine (HTR.out _).mono ?_; rintro e w9 ⟨rfl, mG⟩; exact hK _ _ mG rfl
      ·simp only [hh] at hK ⊢; clear hh; go_simp; refine (HAU.out _ (HL.out.below (bel x9.out hbq)) (bY HT.out (bel x9.out hbq)) (HM.out.below (bel x9.out hbq))).mono ?_; intro e w9 ha; obtain ⟨mG, A9, n9, c9, rfl, Tq⟩ := Regs.ql ha; exact hK _ _ mG ⟨A9, n9, c9, rfl, ay Tq hbq.size⟩
      ·have e8 := hh.2.2.2.2.2.2.2.2.1; (try clear hh); obtain ⟨A8, n8, c8, e8, ho8⟩ := e8; simp only [e8] at hK ⊢; go_simp; exact hK _ _ (Below.refl _ _) ⟨_, _, _, rfl, ho8⟩
      ·have e8 := hh.2.2.2.2.2.2.2.2.1; (try clear hh); obtain ⟨A8, n8, c8, e8, ho8⟩ := e8; simp only [e8] at hK ⊢; go_simp; exact hK _ _ (Below.refl _ _) rfl
     ·intro t wq hbq hh
      have f9 := aB hh 9 (by decide)
      simp only [pick] at f9
      have f10 := aB hh 10 (by decide)
      simp only [pick] at f10
      replace f10 : t 10 = (.bool OA.isSome) := f10
      clear hh
      simp only [filled, aj, upd, Have, is, any, row, pick, Act.put, List.setIfInBounds_toArray, List.set_cons_zero, List.set_cons_succ, Nat.reduceAdd, Nat.reduceEqDiff, reduceIte]
      obtain ⟨A9, n9, c9, f9, Tq⟩ := f9
      simp only [f9, f10]
      have yj := hid (CP.out.below hbq)
      have Et := hid (bel x9.out hbq)
      have Ak := hid Tq
      clear Tq hbq
      refine aC yj.out ((OA).getD U0) A9 n9 c9 (.tmp 4) (.tmp 63) rfl rfl rfl rfl ?_
      go_wp2
      try simp only [Exit.inBlock, Exit.then]
      have ho := ay (gU.aN (w' := World.setRow wq (w.heap.size + 1) (cells ((OA).getD U0) (.slice A9 n9 c9))) (gb := (w.heap.size + 1)) (Ak.out) (fun k hk => setRow_other _ _ _ _ hk) iy.out) (by have h1 := bP.out; have h2 := iy.out; omega : w.heap.size ≤ _)
      refine bodyPost_ret (w := World.setRow wq (w.heap.size + 1) (cells ((OA).getD U0) (.slice A9 n9 c9))) (res2 (u := (OA).getD U0) (p := .slice A9 n9 c9) rfl (yj.out.row _ _) (OA).isSome _ rfl rfl) rfl ?_
      rw [mX.out]
      exact Regs.qM (below_setRow Et.out bP.out _) ho
  | false =>
   have jy : Hid (O = if s ≠ [] then PrsP.plain ⟨s, rt, q, f, hq, hf⟩ else if b.opq = true then OO else if b.au = FILE then file rt (some b) else OR) := by show _ = _; rw [HO.out, if_neg hs1, if_neg (by rw [hsp]; simp)]
   rw [hsp] at wC
   clear hsp hs1
   go_wp2_with fail
   refine (wC.out _).mono ?_
   rintro e wx ⟨rfl, hwx⟩
   obtain rfl : w1 = wx := by first | exact hwx | exact hwx.symm
   clear hwx
   by_cases h0 : s = []
   ·
    have iV : Hid (O = if b.opq = true then OO else if b.au = FILE then file rt (some b) else OR) := by show _ = _; rw [jy.out, if_neg (by simp [h0])]
    have Z9 : ((strOf s).toList == []) = true := by rw [aK, h0]; first | done | rfl
    have aac : (strOf s).toList = [] := by rw [aK, h0]; first | done | rfl
    clear h0 jy
    cases hbo : b.opq with
    | true =>
     have mX : Hid (O = OO) := by show _ = _; rw [iV.out, if_pos hbo]
     rw [hbo] at d6
     clear hbo iV
     go_upto_region 14 with (fail)
     clear p0 p1 p2 p3 p4 p5
     clear d0 d1 d2 d3 d4 d5 d6 d7 d8 d9 d10 d11 d12
     have iy : Hid ((w.heap.size + 1) < w1.heap.size) := aW.out.lt
     go_upto_region 14 with (fail)
     refine bC (by kernel_rfl) 7 [is (.agg (bQ ⟨s, rt, q, f, hq, hf⟩)), is (.pointer (some ⟨gb, 0, none⟩)), is (.pointer (some ⟨gb, 0, none⟩)), is (.agg (cells b (.slice A n c))), aeL OO w1.heap.size, ab3 OO w1.heap.size, is (.bool OO.isSome)] [[], [], [1], [1, 2], [0, 1, 2, 3], [0, 1, 2, 3, 4], [0, 1, 2, 3, 4], [0, 1, 2, 3, 4, 5, 6]] (by kernel_rfl) ?_ ?_
     ·refine ⟨?_, ?_, ?_, ?_, ?_, ?_, ?_, trivial⟩
      all_goals (intro t wq hbq hh K hK; simp only [filled, aj, upd, Have, is, any, row, pick, Act.put, List.setIfInBounds_toArray, List.set_cons_zero, List.set_cons_succ, Nat.reduceAdd, Nat.reduceEqDiff, reduceIte, List.tail_cons, List.headD_cons] at hh hK ⊢)
      ·(try clear hh); obtain ⟨p0, p1, p2, p3, p4, p5⟩ := (dF.out.below hbq).facts; go_simp; exact hK _ _ (Below.refl _ _) rfl
      ·(try clear hh); go_simp; exact hK _ _ (Below.refl _ _) rfl
      ·simp only [hh] at hK ⊢; clear hh; go_simp; exact hK _ _ (Below.refl _ _) rfl
      ·simp only [hh] at hK ⊢; clear hh; obtain ⟨d0, d1, d2, d3, d4, d5, d6, d7, d8, d9, d10, d11, d12⟩ := (iY.out.below hbq).facts; go_simp; exact hK _ _ (Below.refl _ _) rfl
      ·simp only [hh] at hK ⊢; clear hh; go_simp; refine (F8.out _ (mW.dR.below HP.out (bel bM.out hbq))).mono ?_; intro e w9 ha; obtain ⟨mG, A9, n9, c9, rfl, Tq⟩ := Regs.ql ha; exact hK _ _ mG ⟨A9, n9, c9, rfl, ay Tq hbq.size⟩
      ·have e4 := hh.2.2.2.2.1; (try clear hh); obtain ⟨A4, n4, c4, e4, ho4⟩ := e4; simp only [e4] at hK ⊢; go_simp; exact hK _ _ (Below.refl _ _) ⟨_, _, _, rfl, ho4⟩
      ·have e4 := hh.2.2.2.2.1; (try clear hh); obtain ⟨A4, n4, c4, e4, ho4⟩ := e4; simp only [e4] at hK ⊢; go_simp; exact hK _ _ (Below.refl _ _) rfl
     ·intro t wq hbq hh
      have f5 := aB hh 5 (by decide)
      simp only [pick] at f5
      have f6 := aB hh 6 (by decide)
      simp only [pick] at f6
      replace f6 : t 6 = (.bool OO.isSome) := f6
      clear hh
      simp only [filled, aj, upd, Have, is, any, row, pick, Act.put, List.setIfInBounds_toArray, List.set_cons_zero, List.set_cons_succ, Nat.reduceAdd, Nat.reduceEqDiff, reduceIte]
      obtain ⟨A5, n5, c5, f5, XU⟩ := f5
      simp only [f5, f6]
      have yj := hid (aW.out.below hbq)
      have Et := hid (bel bM.out hbq)
      have Ak := hid XU
      clear XU hbq
      refine aC yj.out ((OO).getD U0) A5 n5 c5 (.tmp 4) (.tmp 87) rfl rfl rfl rfl ?_
      go_wp2
      try simp only [Exit.inBlock, Exit.then]
      have ho := ay (gU.aN (w' := World.setRow wq (w.heap.size + 1) (cells ((OO).getD U0) (.slice A5 n5 c5))) (gb := (w.heap.size + 1)) (Ak.out) (fun k hk => setRow_other _ _ _ _ hk) iy.out) (by have h1 := bP.out; have h2 := iy.out; omega : w.heap.size ≤ _)
      refine bodyPost_ret (w := World.setRow wq (w.heap.size + 1) (cells ((OO).getD U0) (.slice A5 n5 c5))) (res2 (u := (OO).getD U0) (p := .slice A5 n5 c5) rfl (yj.out.row _ _) (OO).isSome _ rfl rfl) rfl ?_
      rw [mX.out]
      exact Regs.qM (below_setRow Et.out bP.out _) ho
    | false =>
     rw [hbo] at d6
     by_cases hb1 : b.au = FILE
     ·
      have mX : Hid (O = file rt (some b)) := by show _ = _; rw [iV.out, if_neg (by rw [hbo]; simp), if_pos hb1]
      have alh : ((strOf b.au).toList == [102, 105, 108, 101]) = true := by rw [aK, hb1]; first | done | rfl
      have alj : (strOf b.au).toList = [102, 105, 108, 101] := by rw [aK, hb1]; first | done | rfl
      clear hb1 hbo iV
      go_wp2_with fail
      refine (HFB.out _ iY.out (mW.dR.below HP.out bM.out) (HL.out.below bM.out) (bY HT.out bM.out) (HM.out.below bM.out)).mono ?_
      rintro e w2 ⟨hbx, u', A', n', c', ok, rfl, hown, yK⟩
      have iy : Hid ((w.heap.size + 1) < w1.heap.size) := aW.out.lt
      have HOW := hid hown
      have F8 := hid yK
      clear hown yK
      have pV := hid (iY.out.below hbx)
      have jE := hid (dF.out.below hbx)
      have bK := hid (aW.out.below hbx)
      have eX := hid (bel bM.out hbx)
      have Ib : Hid (w.heap.size ≤ w1.heap.size) := bM.out.size
      clear iY dF aW bM
      clear hbx
      go_wp2_with (refine aC bK.out u' A' n' c' (.tmp 4) (.tmp 99) rfl rfl rfl rfl ?_)
      try simp only [Exit.inBlock, Exit.then]
      exact bodyPost_ret (w := World.setRow w2 (w.heap.size + 1) (cells u' (.slice A' n' c'))) (res2 (u := u') (p := .slice A' n' c') rfl (bK.out.row u' _) ok _ rfl rfl) rfl ⟨below_setRow eX.out bP.out _, u', A', n', c', ok, rfl, (HOW.out.row iy.out _).base Ib.out, by rw [mX.out]; exact F8.out⟩
     ·
      have mX : Hid (O = OR) := by show _ = _; rw [iV.out, if_neg (by rw [hbo]; simp), if_neg hb1]
      have alh : ((strOf b.au).toList == [102, 105, 108, 101]) = false := by rw [aK, beq_eq_false_iff_ne]; exact hb1
      have alj : ¬ (strOf b.au).toList = [102, 105, 108, 101] := by rw [aK]; exact hb1
      clear hb1 hbo iV
      go_upto_region 17 with (fail)
      clear p0 p1 p2 p3 p4 p5
      clear d0 d1 d2 d3 d4 d5 d6 d7 d8 d9 d10 d11 d12
      have iy : Hid ((w.heap.size + 1) < w1.heap.size) := aW.out.lt
      go_upto_region 17 with (fail)
      refine bC (by kernel_rfl) 8 [is (.pointer (some ⟨w.heap.size, 1, none⟩)), is (.string (strOf rt)), is (.pointer (some ⟨gb, 0, none⟩)), is (.pointer (some ⟨gb, 0, none⟩)), is (.agg (cells b (.slice A n c))), aeL OR w1.heap.size, ab3 OR w1.heap.size, is (.bool OR.isSome)] [[], [0], [], [2], [2, 3], [0, 1, 2, 3, 4], [0, 1, 2, 3, 4, 5], [0, 1, 2, 3, 4, 5], [0, 1, 2, 3, 4, 5, 6, 7]] (by kernel_rfl) ?_ ?_
      ·refine ⟨?_, ?_, ?_, ?_, ?_, ?_, ?_, ?_, trivial⟩
       all_goals (intro t wq hbq hh K hK; simp only [filled, aj, upd, Have, is, any, row, pick, Act.put, List.setIfInBounds_toArray, List.set_cons_zero, List.set_cons_succ, Nat.reduceAdd, Nat.reduceEqDiff, reduceIte, List.tail_cons, List.headD_cons] at hh hK ⊢)
       ·(try clear hh); go_simp; exact hK _ _ (Below.refl _ _) rfl
       ·simp only [hh] at hK ⊢; clear hh; have hc := (dF.out.below hbq).facts.2.1; go_simp; exact hK _ _ (Below.refl _ _) rfl
       ·(try clear hh); go_simp; exact hK _ _ (Below.refl _ _) rfl
       ·simp only [hh] at hK ⊢; clear hh; go_simp; exact hK _ _ (Below.refl _ _) rfl
       ·simp only [hh] at hK ⊢; clear hh; obtain ⟨d0, d1, d2, d3, d4, d5, d6, d7, d8, d9, d10, d11, d12⟩ := (iY.out.below hbq).facts; go_simp; exact hK _ _ (Below.refl _ _) rfl
       ·simp only [hh] at hK ⊢; clear hh; go_simp; refine (HRE.out _ (mW.dR.below HP.out (bel bM.out hbq)) (HL.out.below (bel bM.out hbq)) (bY HT.out (bel bM.out hbq)) (HM.out.below (bel bM.out hbq))).mono ?_; intro e w9 ha; obtain ⟨mG, A9, n9, c9, rfl, Tq⟩ := Regs.ql ha; exact hK _ _ mG ⟨A9, n9, c9, rfl, ay Tq hbq.size⟩
       ·have e5 := hh.2.2.2.2.2.1; (try clear hh); obtain ⟨A5, n5, c5, e5, XU⟩ := e5; simp only [e5] at hK ⊢; go_simp; exact hK _ _ (Below.refl _ _) ⟨_, _, _, rfl, XU⟩
       ·have e5 := hh.2.2.2.2.2.1; (try clear hh); obtain ⟨A5, n5, c5, e5, XU⟩ := e5; simp only [e5] at hK ⊢; go_simp; exact hK _ _ (Below.refl _ _) rfl
      ·intro t wq hbq hh
       have f6 := aB hh 6 (by decide)
       simp only [pick] at f6
       have f7 := aB hh 7 (by decide)
       simp only [pick] at f7
       replace f7 : t 7 = (.bool OR.isSome) := f7
       clear hh
       simp only [filled, aj, upd, Have, is, any, row, pick, Act.put, List.setIfInBounds_toArray, List.set_cons_zero, List.set_cons_succ, Nat.reduceAdd, Nat.reduceEqDiff, reduceIte]
       obtain ⟨A6, n6, c6, f6, YS⟩ := f6
       simp only [f6, f7]
       have yj := hid (aW.out.below hbq)
       have Et := hid (bel bM.out hbq)
       have Ak := hid YS
       clear YS hbq
       refine aC yj.out ((OR).getD U0) A6 n6 c6 (.tmp 4) (.tmp 107) rfl rfl rfl rfl ?_
       go_wp2
       try simp only [Exit.inBlock, Exit.then]
       have ho := ay (gU.aN (w' := World.setRow wq (w.heap.size + 1) (cells ((OR).getD U0) (.slice A6 n6 c6))) (gb := (w.heap.size + 1)) (Ak.out) (fun k hk => setRow_other _ _ _ _ hk) iy.out) (by have h1 := bP.out; have h2 := iy.out; omega : w.heap.size ≤ _)
       refine bodyPost_ret (w := World.setRow wq (w.heap.size + 1) (cells ((OR).getD U0) (.slice A6 n6 c6))) (res2 (u := (OR).getD U0) (p := .slice A6 n6 c6) rfl (yj.out.row _ _) (OR).isSome _ rfl rfl) rfl ?_
       rw [mX.out]
       exact Regs.qM (below_setRow Et.out bP.out _) ho
   ·
    have mX : Hid (O = PrsP.plain ⟨s, rt, q, f, hq, hf⟩) := by show _ = _; rw [jy.out, if_pos h0]
    have Z9 : ((strOf s).toList == []) = false := by rw [aK, beq_eq_false_iff_ne]; exact h0
    have aac : ¬ (strOf s).toList = [] := by rw [aK]; exact h0
    have e2 : (strOf s).toList.isEmpty = false := by rw [aK]; simpa using h0
    clear h0 jy
    go_wp2_with fail
    refine (vW.out _ (HL.out.below bM.out) (bY HT.out bM.out) (HM.out.below bM.out)).mono ?_
    rintro e w2 ⟨hbx, u', A', n', c', ok, rfl, hown, yK⟩
    have iy : Hid ((w.heap.size + 1) < w1.heap.size) := aW.out.lt
    have HOW := hid hown
    have F8 := hid yK
    clear hown yK
    have pV := hid (iY.out.below hbx)
    have jE := hid (dF.out.below hbx)
    have bK := hid (aW.out.below hbx)
    have eX := hid (bel bM.out hbx)
    have Ib : Hid (w.heap.size ≤ w1.heap.size) := bM.out.size
    clear iY dF aW bM
    clear hbx
    go_wp2_with (refine aC bK.out u' A' n' c' (.tmp 4) (.tmp 71) rfl rfl rfl rfl ?_)
    try simp only [Exit.inBlock, Exit.then]
    exact bodyPost_ret (w := World.setRow w2 (w.heap.size + 1) (cells u' (.slice A' n' c'))) (res2 (u := u') (p := .slice A' n' c') rfl (bK.out.row u' _) ok _ rfl rfl) rfl ⟨below_setRow eX.out bP.out _, u', A', n', c', ok, rfl, (HOW.out.row iy.out _).base Ib.out, by rw [mX.out]; exact F8.out⟩
end Go.Proofs.YtmpeaoacaecgpaaGreatDoor.PrsO
