/- Texts that belong together: PrsF, PrsJ, akb, acU, acr, vZ. -/
import Derived.Test.YtmpeaoacaecgpaaGreatDoorWAK
import Derived.Test.YtmpeaoacaecgpaaGreatDoorWAJ
import Derived.Test.YtmpeaoacaecgpaaGreatDoorWAF
import Derived.Test.YtmpeaoacaecgpaaGreatDoorWAG
import Derived.Lib.TrimUEq
import Derived.Lib.SpaceUEq
import Derived.Lib.TrimAscii
import Derived.Lib.MapU
import Derived.Shelf.GgClosure.StringsTrimFunc
import Derived.Test.YtmpeaoacaecgpaaGreatDoorWAI
import Derived.Test.YtmpeaoacaecgpaaGreatDoorShelf
import Derived.Test.YtmpeaoacaecgpaaGreatDoorShelf2
set_option linter.unusedSimpArgs false
set_option linter.unusedVariables false
set_option maxRecDepth 100000
set_option maxHeartbeats 64000000
namespace Go.Proofs.YtmpeaoacaecgpaaGreatDoor.PrsF
open Go.RowKit Base Regs Base2 dI cO PthP Kr PthE WS PthG PthH PthJ UrlA jQ HstP Zo WJ sU pO PrsP yw tN Fp mW tK yx PthD aj8
theorem Ve (T : List UInt8) (w : World) (hs : T.length ≤ 700000) (hL : oI w) (hT : Tab.Pow w) (hM : Max w) : Calls Tryz.prog 113 #[.string (strOf T), .pointer none] w (mO w (file T none)) := by
 obtain ⟨O, hO⟩ : ∃ O, O = file T none := ⟨_, rfl⟩
 rw [← hO]
 obtain ⟨s0, hs0⟩ : ∃ x, x = rU true T 0 := ⟨_, rfl⟩
 obtain ⟨s1, hs1⟩ : ∃ x, x = rU true T 1 := ⟨_, rfl⟩
 unfold file at hO
 rw [← hs0, ← hs1] at hO
 have hlen0 : s0 = true → 1 ≤ T.length := fun h => by
  rw [h] at hs0
  by_cases h2 : 0 < T.length
  ·omega
  ·rw [yM _ _ _ h2] at hs0; cases hs0
 have Y9 := hid hlen0
 have hlen : s1 = true → 2 ≤ T.length := fun h => by
  rw [h] at hs1
  by_cases h2 : 1 < T.length
  ·omega
  ·rw [yM _ _ _ h2] at hs1; cases hs1
 have HLEN := hid hlen
 have FI : Hid (∀ w : World, Calls Tryz.prog 218 #[.string ⟨#[102, 105, 108, 101]⟩, .string (strOf T), .int .i64 0] w fun e w' => e = .returned (.bool s0) ∧ Below w.heap.size w w') := fun w => by rw [hs0]; exact lJ (strOf FILE) (strOf T) 0 w (by omega)
 have BD : Hid (∀ w : World, Calls Tryz.prog 218 #[.string ⟨#[102, 105, 108, 101]⟩, .string (strOf T), .int .i64 1] w fun e w' => e = .returned (.bool s1) ∧ Below w.heap.size w w') := fun w => by rw [hs1]; exact lJ (strOf FILE) (strOf T) 1 w (by omega)
 have HO := hid hO
 have HFA : Hid (∀ (L : List UInt8) (w : World), L.length ≤ 900000 → oI w → Tab.Pow w → Max w → Calls Tryz.prog 219 #[.string (strOf L)] w (mO w (far L))) := fun L w h a c d => Oa L w h a c d
 have HBG : Hid (∀ (L : List UInt8) (w : World), L.length ≤ 900000 → Calls Tryz.prog 221 #[.string (strOf L)] w fun e w' => e = .returned (.bool (JR L)) ∧ w = w') := fun L w h => PK (strOf L) w (dW (by omega))
 have HWK : Hid (∀ (A : Option Addr) (n c : Nat) (l : List ByteArray) (L : List UInt8) (w : World), aY w A n (l.map Value.string) → n ≤ c → c ≤ maxLen → n + L.length ≤ 900000 → Calls Tryz.prog 224 #[.string ⟨#[102, 105, 108, 101]⟩, .slice A n c, .string (strOf L)] w (lu w.heap.size w (walk FILE l L))) := fun A n c l L w h1 h2 h3 h4 => walk_any (strOf FILE) A n c l (strOf L) w h1 h2 h3 (by rw [size_strOf]; exact h4)
 have HL := hid hL
 have HT := hid hT
 have HM := hid hM
 clear hO hs0 hs1 hlen hlen0 hL hT hM
 go_enter Tryz.func113, Tryz.ntmps113
 go_upto_region 1 with (fail)
 generalize hw : World.alloc w _ = w1
 have h1 : UB w1 (w.heap.size) (U0) (.slice none 0 0) ∧ Below w.heap.size w w1 := by
  subst hw
  exact laid1 w _ _
 clear hw
 have bP : Hid (w.heap.size ≤ w.heap.size) := (Below.refl w.heap.size w).size
 have bM := hid (bel (Below.refl w.heap.size w) h1.2)
 have aW := hid h1.1
 clear h1
 go_wp2_with fail
 refine (FI.out _).mono ?_
 rintro e w2 ⟨rfl, hbx⟩
 have bK := hid (aW.out.below hbx)
 have eX := hid (bel bM.out hbx)
 clear aW bM
 clear hbx
 cases s0 with
 | true =>
  go_wp2_with fail
  refine (BD.out _).mono ?_
  rintro e w3 ⟨rfl, hbx⟩
  have bD := hid (bK.out.below hbx)
  have cZ := hid (bel eX.out hbx)
  clear bK eX
  clear hbx
  cases s1 with
  | true =>
   have hl2 := HLEN.out (by simp)
   have iV : Hid (O = far (T.drop 2)) := by show _ = _; rw [HO.out, if_pos (by simp)]
   obtain ⟨T2, hT2⟩ : ∃ x, x = T.drop 2 := ⟨_, rfl⟩
   have hx2 : (strOf T).extract 2 (strOf T).size = strOf T2 := by rw [l7, hT2]; rfl
   have hkI : (2 : Int) ≤ ((strOf T).size : Int) := by rw [size_strOf]; omega
   rw [← hT2] at iV
   have XL : T2.length ≤ 800000 := by rw [hT2, List.length_drop]; omega
   clear hT2 hl2
   go_wp2_with fail
   clear hx2
   refine (HFA.out _ _ (by omega) (HL.out.below cZ.out) (bY HT.out cZ.out) (HM.out.below cZ.out)).mono ?_
   rintro e w4 ⟨hbx, u', A', n', c', ok, rfl, hown, yK⟩
   have iy : Hid (w.heap.size < w3.heap.size) := bD.out.lt
   have HOW := hid hown
   have F8 := hid yK
   clear hown yK
   have bF := hid (bD.out.below hbx)
   have dD := hid (bel cZ.out hbx)
   have Ib : Hid (w.heap.size ≤ w3.heap.size) := cZ.out.size
   clear bD cZ
   clear hbx
   go_wp2_with (refine aC bF.out u' A' n' c' (.tmp 4) (.tmp 17) rfl rfl rfl rfl ?_)
   try simp only [Exit.inBlock, Exit.then]
   exact bodyPost_ret (w := World.setRow w4 w.heap.size (cells u' (.slice A' n' c'))) (res2 (u := u') (p := .slice A' n' c') rfl (bF.out.row u' _) ok _ rfl rfl) rfl ⟨below_setRow dD.out bP.out _, u', A', n', c', ok, rfl, (HOW.out.row iy.out _).base Ib.out, by rw [iV.out]; exact F8.out⟩
  | false =>
   have hl1 := Y9.out (by simp)
   have iV : Hid (O = some { uF with aO := walk FILE [] (T.drop 1) }) := by show _ = _; rw [HO.out, if_neg (by simp), if_pos (by simp)]; first | done | rfl | (congr 2; simp)
   obtain ⟨T2, hT2⟩ : ∃ x, x = T.drop 1 := ⟨_, rfl⟩
   have hx2 : (strOf T).extract 1 (strOf T).size = strOf T2 := by rw [l7, hT2]; rfl
   have hkI : (1 : Int) ≤ ((strOf T).size : Int) := by rw [size_strOf]; omega
   rw [← hT2] at iV
   have XL : T2.length ≤ 800000 := by rw [hT2, List.length_drop]; omega
   clear hT2 hl1
   go_upto_region 4 with (fail)
   generalize hw : World.alloc w3 _ = w4
   have h1 : UB w4 (w3.heap.size) (uF) (.slice none 0 0) ∧ Below w3.heap.size w3 w4 := by
    subst hw
    exact laid1 w3 _ _
   clear hw
   have hlr := bD.out.lt
   have aX : Hid (w.heap.size ≠ w3.heap.size) := by show _ ≠ _; omega
   have nO : Hid (w3.heap.size ≠ w.heap.size) := by show _ ≠ _; omega
   clear hlr
   have fK : Hid (w.heap.size ≤ w3.heap.size) := cZ.out.size
   have bF := hid (bD.out.below h1.2)
   have dD := hid (bel cZ.out h1.2)
   have bV := hid h1.1
   clear bD cZ
   clear h1
   go_wp2_with fail
   refine (FI.out _).mono ?_
   rintro e w5 ⟨rfl, hbx⟩
   have bH := hid (bF.out.below hbx)
   have bJ := hid (bV.out.below hbx)
   have fC := hid (bel dD.out hbx)
   clear bF bV dD
   clear hbx
   go_wp2_with fail
   clear hx2
   refine (HWK.out none 0 0 [] T2 _ (aY.nil _) (Nat.le_refl _) (Nat.zero_le _) (by omega)).mono ?_
   rintro e w6 ⟨q, rfl, hown, hbx⟩
   obtain ⟨Aq, cq, rfl, hq⟩ := bW (u := { U0 with aO := walk FILE [] T2 }) hown
   clear hq
   replace hown := ay hown (Nat.le_refl _)
   have zF : Hid (w3.heap.size < w5.heap.size) := bJ.out.lt
   have iy : Hid (w.heap.size < w5.heap.size) := bH.out.lt
   have bT := hid (bH.out.below hbx)
   have bG := hid (bJ.out.below hbx)
   have gq := hid (bel fC.out hbx)
   have uP := hid hown
   clear hown
   clear bH bJ fC
   clear hbx
   have BX := zF.out
   have cx := bG.out.facts.2.2.2.2.2.2.2.2.1
   have fx := bG.out.thaw.2.2.2.2.2.2.2.2.1
   go_upto_region 18 with (fail)
   have hxr := bT.out.set (k := w3.heap.size) (i := 8) (.slice Aq (walk FILE [] T2).length cq) (aX.out)
   have hxu := bG.out.path (.slice Aq (walk FILE [] T2).length cq)
   have hoq := gU.aN (w' := w6.setCell ⟨w3.heap.size, 8, none⟩ (.slice Aq (walk FILE [] T2).length cq)) (gb := w3.heap.size) uP.out (fun k hk => heap_setCell_other _ _ _ _ hk) (by omega)
   have hb := gq.out.setCell (p := ⟨w3.heap.size, 8, none⟩) (fK.out) (.slice Aq (walk FILE [] T2).length cq)
   clear bT bG uP gq
   clear cx fx
   generalize World.setCell w6 _ _ = w7 at hxr hxu hoq hb ⊢
   have dQ : Hid (UB w7 (w.heap.size) (U0) (.slice none 0 0)) := hxr
   clear hxr
   have dO : Hid (UB w7 (w3.heap.size) (uF) (.slice Aq (walk FILE [] T2).length cq)) := hxu
   clear hxu
   have jD := hid hoq
   clear hoq
   have iU := hid hb
   clear hb
   clear BX
   obtain ⟨c0, c1, c2', c3, c4, c5, c6, c7, c8, c9, c10, c11, c12⟩ := dO.out.facts
   go_wp2_with (refine aC dQ.out (uF) Aq (walk FILE [] T2).length cq (.tmp 4) (.tmp 72) rfl rfl rfl rfl ?_)
   try simp only [Exit.inBlock, Exit.then]
   have hpo : ∀ k, k ≠ w.heap.size → (World.setRow w7 (w.heap.size) (cells (uF) (.slice Aq (walk FILE [] T2).length cq))).heap[k]? = w7.heap[k]? := fun k hk => setRow_other _ _ _ _ hk
   have ho := ay (gU.aN jD.out hpo iy.out) (by have h1 := bP.out; have h2 := iy.out; omega : w.heap.size ≤ _)
   exact bodyPost_ret (w := World.setRow w7 w.heap.size (cells (uF) (.slice Aq (walk FILE [] T2).length cq))) (res2 (u := uF) (p := .slice Aq (walk FILE [] T2).length cq) rfl (dQ.out.row (uF) _) true _ rfl rfl) rfl (eH (u := { uF with aO := walk FILE [] T2 }) iV.out (below_setRow iU.out bP.out _) ho)
 | false =>
  clear HLEN Y9 BD
  have jy : Hid (O = some { uF with aO := walk FILE (if JR T = true then [] else mM true []) T }) := by show _ = _; rw [HO.out, if_neg (by simp), if_neg (by simp)]
  clear HO
  go_upto_region 4 with (fail)
  generalize hw : World.alloc w2 _ = w3
  have h1 : UB w3 (w2.heap.size) (uF) (.slice none 0 0) ∧ Below w2.heap.size w2 w3 := by
   subst hw
   exact laid1 w2 _ _
  clear hw
  have hlr := bK.out.lt
  have aX : Hid (w.heap.size ≠ w2.heap.size) := by show _ ≠ _; omega
  have nO : Hid (w2.heap.size ≠ w.heap.size) := by show _ ≠ _; omega
  clear hlr
  have fK : Hid (w.heap.size ≤ w2.heap.size) := eX.out.size
  have bD := hid (bK.out.below h1.2)
  have cZ := hid (bel eX.out h1.2)
  have eY := hid h1.1
  clear bK eX
  clear h1
  go_wp2_with fail
  refine (FI.out _).mono ?_
  rintro e w4 ⟨rfl, hbx⟩
  have bF := hid (bD.out.below hbx)
  have bV := hid (eY.out.below hbx)
  have dD := hid (bel cZ.out hbx)
  clear bD eY cZ
  clear hbx
  cases hb : JR T with
  | true =>
   have HB1 := HBG.out T
   rw [hb] at HB1
   have HB2 := hid HB1
   have iV : Hid (O = some { uF with aO := walk FILE [] T }) := by show _ = _; rw [jy.out, hb]; rfl
   clear HB1 hb jy
   go_wp2_with fail
   refine (HB2.out _ (by omega)).mono ?_
   rintro e wx ⟨rfl, hwx⟩
   obtain rfl : w4 = wx := by first | exact hwx | exact hwx.symm
   clear hwx
   go_wp2_with fail
   refine (HWK.out none 0 0 [] T _ (aY.nil _) (Nat.le_refl _) (Nat.zero_le _) (by omega)).mono ?_
   rintro e w5 ⟨q, rfl, hown, hbx⟩
   obtain ⟨Aq, cq, rfl, hq⟩ := bW (u := { U0 with aO := walk FILE [] T }) hown
   clear hq
   replace hown := ay hown (Nat.le_refl _)
   have zF : Hid (w2.heap.size < w4.heap.size) := bV.out.lt
   have iy : Hid (w.heap.size < w4.heap.size) := bF.out.lt
   have bH := hid (bF.out.below hbx)
   have bJ := hid (bV.out.below hbx)
   have fC := hid (bel dD.out hbx)
   have Ic := hid hown
   clear hown
   clear bF bV dD
   clear hbx
   have BX := zF.out
   have cx := bJ.out.facts.2.2.2.2.2.2.2.2.1
   have fx := bJ.out.thaw.2.2.2.2.2.2.2.2.1
   go_upto_region 18 with (fail)
   have hxr := bH.out.set (k := w2.heap.size) (i := 8) (.slice Aq (walk FILE [] T).length cq) (aX.out)
   have hxu := bJ.out.path (.slice Aq (walk FILE [] T).length cq)
   have hoq := gU.aN (w' := w5.setCell ⟨w2.heap.size, 8, none⟩ (.slice Aq (walk FILE [] T).length cq)) (gb := w2.heap.size) Ic.out (fun k hk => heap_setCell_other _ _ _ _ hk) (by omega)
   have hb := fC.out.setCell (p := ⟨w2.heap.size, 8, none⟩) (fK.out) (.slice Aq (walk FILE [] T).length cq)
   clear bH bJ Ic fC
   clear cx fx
   generalize World.setCell w5 _ _ = w6 at hxr hxu hoq hb ⊢
   have bT : Hid (UB w6 (w.heap.size) (U0) (.slice none 0 0)) := hxr
   clear hxr
   have bG : Hid (UB w6 (w2.heap.size) (uF) (.slice Aq (walk FILE [] T).length cq)) := hxu
   clear hxu
   have uP := hid hoq
   clear hoq
   have gq := hid hb
   clear hb
   clear BX
   obtain ⟨c0, c1, c2', c3, c4, c5, c6, c7, c8, c9, c10, c11, c12⟩ := bG.out.facts
   go_wp2_with (refine aC bT.out (uF) Aq (walk FILE [] T).length cq (.tmp 4) (.tmp 72) rfl rfl rfl rfl ?_)
   try simp only [Exit.inBlock, Exit.then]
   have hpo : ∀ k, k ≠ w.heap.size → (World.setRow w6 (w.heap.size) (cells (uF) (.slice Aq (walk FILE [] T).length cq))).heap[k]? = w6.heap[k]? := fun k hk => setRow_other _ _ _ _ hk
   have ho := ay (gU.aN uP.out hpo iy.out) (by have h1 := bP.out; have h2 := iy.out; omega : w.heap.size ≤ _)
   exact bodyPost_ret (w := World.setRow w6 w.heap.size (cells (uF) (.slice Aq (walk FILE [] T).length cq))) (res2 (u := uF) (p := .slice Aq (walk FILE [] T).length cq) rfl (bT.out.row (uF) _) true _ rfl rfl) rfl (eH (u := { uF with aO := walk FILE [] T }) iV.out (below_setRow gq.out bP.out _) ho)
  | false =>
   have HB1 := HBG.out T
   rw [hb] at HB1
   have HB2 := hid HB1
   have iV : Hid (O = some { uF with aO := walk FILE [] T }) := by show _ = _; rw [jy.out, hb]; rfl
   clear HB1 hb jy
   go_wp2_with fail
   refine (HB2.out _ (by omega)).mono ?_
   rintro e wx ⟨rfl, hwx⟩
   obtain rfl : w4 = wx := by first | exact hwx | exact hwx.symm
   clear hwx
   go_wp2_with fail
   refine (Ed true none 0 0 [] _ (aY.nil _) (Nat.le_refl _) (Nat.zero_le _) (by omega)).mono ?_
   rintro e w5 ⟨v, rfl, hown, hbx⟩
   obtain ⟨A4, c4, rfl, h4, h5, h6⟩ := aJ hown
   have bH := hid (bF.out.below hbx)
   have bJ := hid (bV.out.below hbx)
   have fC := hid (bel dD.out hbx)
   clear bF bV dD
   clear hbx hown
   rw [show mM true [] = [] from rfl] at h4 h6 ⊢
   go_wp2_with fail
   refine (HWK.out A4 _ c4 [] T _ h6 h4 h5 (by simp; omega)).mono ?_
   rintro e w6 ⟨q, rfl, hown, hbx⟩
   obtain ⟨Aq, cq, rfl, hq⟩ := bW (u := { U0 with aO := walk FILE [] T }) hown
   clear hq
   replace hown := ay hown (Nat.le_refl _)
   have zF : Hid (w2.heap.size < w5.heap.size) := bJ.out.lt
   have iy : Hid (w.heap.size < w5.heap.size) := bH.out.lt
   have bT := hid (bH.out.below hbx)
   have bG := hid (bJ.out.below hbx)
   have gq := hid (bel fC.out hbx)
   have uP := hid hown
   clear hown
   clear bH bJ fC
   clear hbx
   have BX := zF.out
   have cx := bG.out.facts.2.2.2.2.2.2.2.2.1
   have fx := bG.out.thaw.2.2.2.2.2.2.2.2.1
   go_upto_region 18 with (fail)
   have hxr := bT.out.set (k := w2.heap.size) (i := 8) (.slice Aq (walk FILE [] T).length cq) (aX.out)
   have hxu := bG.out.path (.slice Aq (walk FILE [] T).length cq)
   have hoq := gU.aN (w' := w6.setCell ⟨w2.heap.size, 8, none⟩ (.slice Aq (walk FILE [] T).length cq)) (gb := w2.heap.size) uP.out (fun k hk => heap_setCell_other _ _ _ _ hk) (by omega)
   have hb := gq.out.setCell (p := ⟨w2.heap.size, 8, none⟩) (fK.out) (.slice Aq (walk FILE [] T).length cq)
   clear bT bG uP gq
   clear cx fx
   generalize World.setCell w6 _ _ = w7 at hxr hxu hoq hb ⊢
   have dQ : Hid (UB w7 (w.heap.size) (U0) (.slice none 0 0)) := hxr
   clear hxr
   have dO : Hid (UB w7 (w2.heap.size) (uF) (.slice Aq (walk FILE [] T).length cq)) := hxu
   clear hxu
   have jD := hid hoq
   clear hoq
   have iU := hid hb
   clear hb
   clear BX
   obtain ⟨c0, c1, c2', c3, c4, c5, c6, c7, c8, c9, c10, c11, c12⟩ := dO.out.facts
   go_wp2_with (refine aC dQ.out (uF) Aq (walk FILE [] T).length cq (.tmp 4) (.tmp 72) rfl rfl rfl rfl ?_)
   try simp only [Exit.inBlock, Exit.then]
   have hpo : ∀ k, k ≠ w.heap.size → (World.setRow w7 (w.heap.size) (cells (uF) (.slice Aq (walk FILE [] T).length cq))).heap[k]? = w7.heap[k]? := fun k hk => setRow_other _ _ _ _ hk
   have ho := ay (gU.aN jD.out hpo iy.out) (by have h1 := bP.out; have h2 := iy.out; omega : w.heap.size ≤ _)
   exact bodyPost_ret (w := World.setRow w7 w.heap.size (cells (uF) (.slice Aq (walk FILE [] T).length cq))) (res2 (u := uF) (p := .slice Aq (walk FILE [] T).length cq) rfl (dQ.out.row (uF) _) true _ rfl rfl) rfl (eH (u := { uF with aO := walk FILE [] T }) iV.out (below_setRow iU.out bP.out _) ho)
end Go.Proofs.YtmpeaoacaecgpaaGreatDoor.PrsF
namespace Go.Proofs.YtmpeaoacaecgpaaGreatDoor.PrsJ
open Go.RowKit Base Regs Base2 dI cO PthG PthH PthJ UrlA PrsP yw tN Fp mW Pbx tK yx TI
theorem X5 (p : Parts) (b : U) (A : Option Addr) (n c : Nat) (w : World) (hn : n ≤ 100000) (hP : dR w b A n c) : Calls Tryz.prog 120 #[.agg (bQ p), .agg (cells b (.slice A n c))] w (mO w (PrsP.rY p b)) := by
 obtain ⟨s, t, q, f, hq, hf⟩ := p
 obtain ⟨O, hO⟩ : ∃ O, O = PrsP.rY ⟨s, t, q, f, hq, hf⟩ b := ⟨_, rfl⟩
 rw [← hO]
 have hO2 : O = if t ≠ [] ∨ hq = true ∨ hf = false then none else some b := hO
 have HO := hid hO2
 have HP := hid hP
 clear hO hO2 hP
 go_enter Tryz.func120, Tryz.ntmps120
 go_upto_region 1 with (fail)
 generalize hw : World.alloc (World.alloc (World.alloc w _) _) _ = w1
 have h1 : PB w1 (w.heap.size) (⟨s, t, q, f, hq, hf⟩) ∧ UB w1 ((w.heap.size + 1)) (b) (.slice A n c) ∧ UB w1 ((w.heap.size + 1 + 1)) (U0) (.slice none 0 0) ∧ Below w.heap.size w w1 := by
  subst hw
  exact aml w _ _ _ _ _ _
 clear hw
 have jf : Hid (w.heap.size ≠ (w.heap.size + 1)) := by show _ ≠ _; omega
 have J8 : Hid (w.heap.size ≠ (w.heap.size + 1 + 1)) := by show _ ≠ _; omega
 have WL : Hid (w.heap.size ≤ w.heap.size) := by show _ ≤ _; omega
 have Ko : Hid ((w.heap.size + 1) ≠ w.heap.size) := by show _ ≠ _; omega
 have nO : Hid ((w.heap.size + 1) ≠ (w.heap.size + 1 + 1)) := by show _ ≠ _; omega
 have fK : Hid (w.heap.size ≤ (w.heap.size + 1)) := by show _ ≤ _; omega
 have J9 : Hid ((w.heap.size + 1 + 1) ≠ w.heap.size) := by show _ ≠ _; omega
 have aX : Hid ((w.heap.size + 1 + 1) ≠ (w.heap.size + 1)) := by show _ ≠ _; omega
 have bP : Hid (w.heap.size ≤ (w.heap.size + 1 + 1)) := by show _ ≤ _; omega
 have dF := hid h1.1
 have wE := hid h1.2.1
 have aW := hid h1.2.2.1
 have bM := hid h1.2.2.2
 clear h1
 by_cases h0 : t = []
 ·
  have q0 : ((strOf t).toList == []) = true := by rw [aK, h0]; rfl
  have q1 : (strOf t).toList = [] := by rw [aK, h0]
  cases hq with
  | true =>
   have qc : Hid (O = none) := by show _ = _; rw [HO.out, if_pos (by simp)]
   clear h0
   obtain ⟨p0, p1, p2, p3, p4, p5⟩ := dF.out.facts
   go_wp2_with (refine aC aW.out U0 none 0 0 (.tmp 4) (.tmp 18) rfl rfl rfl rfl ?_)
   try simp only [Exit.inBlock, Exit.then]
   exact bodyPost_ret (w := World.setRow w1 (w.heap.size + 1 + 1) (cells U0 (.slice none 0 0))) (res2 (u := U0) (p := .slice none 0 0) rfl (aW.out.row U0 _) false _ rfl rfl) rfl (kH qc.out (below_setRow bM.out bP.out _))
  | false =>
   cases hf with
   | false =>
    have qc : Hid (O = none) := by show _ = _; rw [HO.out, if_pos (by simp)]
    clear h0
    obtain ⟨p0, p1, p2, p3, p4, p5⟩ := dF.out.facts
    go_wp2_with (refine aC aW.out U0 none 0 0 (.tmp 4) (.tmp 18) rfl rfl rfl rfl ?_)
    try simp only [Exit.inBlock, Exit.then]
    exact bodyPost_ret (w := World.setRow w1 (w.heap.size + 1 + 1) (cells U0 (.slice none 0 0))) (res2 (u := U0) (p := .slice none 0 0) rfl (aW.out.row U0 _) false _ rfl rfl) rfl (kH qc.out (below_setRow bM.out bP.out _))
   | true =>
    have iV : Hid (O = some b) := by show _ = _; rw [HO.out, if_neg (by simp [h0])]
    clear h0
    obtain ⟨p0, p1, p2, p3, p4, p5⟩ := dF.out.facts
    obtain ⟨d0, d1, d2, d3, d4, d5, d6, d7, d8, d9, d10, d11, d12⟩ := wE.out.facts
    go_wp2_with fail
    clear p0 p1 p2 p3 p4 p5
    clear d0 d1 d2 d3 d4 d5 d6 d7 d8 d9 d10 d11 d12
    refine (zS A n c b.aO _ (mW.dR.below HP.out bM.out).1 (by omega)).mono ?_
    rintro e w2 ⟨v, rfl, hown, hbx⟩
    obtain ⟨Aq, cq, rfl, hq⟩ := bW (u := b) hown
    clear hq
    replace hown := ay hown (Nat.le_refl _)
    have zF : Hid ((w.heap.size + 1) < w1.heap.size) := wE.out.lt
    have iy : Hid ((w.heap.size + 1 + 1) < w1.heap.size) := aW.out.lt
    have jE := hid (dF.out.below hbx)
    have fZ := hid (wE.out.below hbx)
    have bK := hid (aW.out.below hbx)
    have eX := hid (bel bM.out hbx)
    have HOqw2 := hid hown
    clear hown
    clear dF wE aW bM
    clear hbx
    have cx := fZ.out.facts.2.2.2.2.2.2.2.2.1
    have fx := fZ.out.thaw.2.2.2.2.2.2.2.2.1
    go_upto_region 4 with (fail)
    have hxu := fZ.out.path (.slice Aq b.aO.length cq)
    have hxr := bK.out.set (k := (w.heap.size + 1)) (i := 8) (.slice Aq b.aO.length cq) aX.out
    have hb := eX.out.setCell (p := ⟨(w.heap.size + 1), 8, none⟩) fK.out (.slice Aq b.aO.length cq)
    have hoq := gU.aN (w' := w2.setCell ⟨(w.heap.size + 1), 8, none⟩ (.slice Aq b.aO.length cq)) (gb := (w.heap.size + 1)) HOqw2.out (fun k hk => heap_setCell_other _ _ _ _ hk) zF.out
    clear jE fZ bK eX
    clear cx fx HOqw2
    generalize World.setCell w2 _ _ = w3 at hxu hxr hb hoq ⊢
    have eY := hid hxu
    have bD := hid hxr
    have cZ := hid hb
    have HOq := hid hoq
    clear hxu hxr hb hoq
    obtain ⟨c0, c1, c2', c3, c4, c5, c6, c7, c8, c9, c10, c11, c12⟩ := eY.out.facts
    go_wp2_with (refine aC bD.out b Aq b.aO.length cq (.tmp 4) (.tmp 23) rfl rfl rfl rfl ?_)
    try simp only [Exit.inBlock, Exit.then]
    have ho := ay (gU.aN (w' := World.setRow w3 (w.heap.size + 1 + 1) (cells b (.slice Aq b.aO.length cq))) (gb := (w.heap.size + 1 + 1)) HOq.out (fun k hk => setRow_other _ _ _ _ hk) iy.out) (by have h1 := bP.out; have h2 := iy.out; omega : w.heap.size ≤ _)
    exact bodyPost_ret (w := World.setRow w3 (w.heap.size + 1 + 1) (cells b (.slice Aq b.aO.length cq))) (res2 (u := b) (p := .slice Aq b.aO.length cq) rfl (bD.out.row b _) true _ rfl rfl) rfl (eH (u := b) iV.out (below_setRow cZ.out bP.out _) ho)
 ·
  have q0 : ((strOf t).toList == []) = false := by rw [aK, beq_eq_false_iff_ne]; exact h0
  have q1 : ¬ (strOf t).toList = [] := by rw [aK]; exact h0
  have q2 : (strOf t).toList.isEmpty = false := by rw [aK]; simpa using h0
  have qc : Hid (O = none) := by show _ = _; rw [HO.out, if_pos (.inl h0)]
  clear h0
  obtain ⟨p0, p1, p2, p3, p4, p5⟩ := dF.out.facts
  go_wp2_with (refine aC aW.out U0 none 0 0 (.tmp 4) (.tmp 18) rfl rfl rfl rfl ?_)
  try simp only [Exit.inBlock, Exit.then]
  exact bodyPost_ret (w := World.setRow w1 (w.heap.size + 1 + 1) (cells U0 (.slice none 0 0))) (res2 (u := U0) (p := .slice none 0 0) rfl (aW.out.row U0 _) false _ rfl rfl) rfl (kH qc.out (below_setRow bM.out bP.out _))
end Go.Proofs.YtmpeaoacaecgpaaGreatDoor.PrsJ
namespace Go.Proofs.YtmpeaoacaecgpaaGreatDoor.akb
open Go.RowKit Base Regs Base2 dI cO PthG PthH PthJ UrlA PrsP yw tN Fp mW Pbx tK yx WS jQ sU pO aj8 PrsF TI aj9
theorem Yq (p : Parts) (w : World) (hs : p.rest.length ≤ 700000) (hL : oI w) (hT : Tab.Pow w) (hM : Max w) : Calls Tryz.prog 50 #[.agg (bQ p), .pointer none] w (mO w (PrsP.resolve p none)) := by
 obtain ⟨s, rt, q, f, hq, hf⟩ := p
 simp only at hs
 obtain ⟨O, hO⟩ : ∃ O, O = PrsP.resolve ⟨s, rt, q, f, hq, hf⟩ none := ⟨_, rfl⟩
 rw [← hO]
 unfold PrsP.resolve at hO
 simp only at hO
 have HO := hid hO
 have wC : Hid (∀ w : World, Calls Tryz.prog 114 #[.string (strOf s)] w fun e w' => e = .returned (.bool (special s)) ∧ w' = w) := fun w => jv (strOf s) w
 have vW : Hid (∀ w : World, oI w → Tab.Pow w → Max w → Calls Tryz.prog 119 #[.agg (bQ ⟨s, rt, q, f, hq, hf⟩)] w (mO w (PrsP.plain ⟨s, rt, q, f, hq, hf⟩))) := fun w a c d => VL ⟨s, rt, q, f, hq, hf⟩ w (by show rt.length ≤ _; omega) a c d
 have HFN : Hid (∀ w : World, oI w → Tab.Pow w → Max w → Calls Tryz.prog 113 #[.string (strOf rt), .pointer none] w (mO w (file rt none))) := fun w a c d => Ve rt w hs a c d
 have F9 : Hid (∀ w : World, Calls Tryz.prog 118 #[.string (strOf s)] w fun e w' => e = .returned (.string (cs (special s))) ∧ w' = w) := fun w => jr (strOf s) w
 have HTR : Hid (∀ w : World, Calls Tryz.prog 117 #[.string (strOf rt), .string (cs true)] w fun e w' => e = .returned (.string (strOf (rt.dropWhile (gB true)))) ∧ Below w.heap.size w w') := fun w => AX rt w
 obtain ⟨T2, hT2⟩ : ∃ x, x = rt.dropWhile (gB true) := ⟨_, rfl⟩
 have XL : T2.length ≤ 900000 := by rw [hT2]; have := (List.dropWhile_sublist (gB true) (l := rt)).length_le; omega
 rw [← hT2] at HTR HO
 obtain ⟨OA, hOA⟩ : ∃ x, x = authority s T2 := ⟨_, rfl⟩
 have HAU : Hid (∀ w : World, oI w → Tab.Pow w → Max w → Calls Tryz.prog 116 #[.string (strOf s), .string (strOf T2)] w (mO w OA)) := fun w a b c => by rw [hOA]; exact qP s T2 w XL a b c
 rw [← hOA] at HO
 have HL := hid hL
 have HT := hid hT
 have HM := hid hM
 clear hO hT2 hOA hL hT hM
 go_enter Tryz.func50, Tryz.ntmps50
 go_upto_region 1 with (fail)
 generalize hw : World.alloc (World.alloc w _) _ = w1
 have h1 : PB w1 (w.heap.size) (⟨s, rt, q, f, hq, hf⟩) ∧ UB w1 ((w.heap.size + 1)) (U0) (.slice none 0 0) ∧ Below w.heap.size w w1 := by
  subst hw
  exact laid2 w _ _ _ _
 clear hw
 have WL : Hid (w.heap.size ≤ w.heap.size) := Nat.le_refl _
 have bP : Hid (w.heap.size ≤ (w.heap.size + 1)) := Nat.le_succ _
 have dF := hid h1.1
 have aW := hid h1.2.1
 have bM := hid h1.2.2
 clear h1
 obtain ⟨p0, p1, p2, p3, p4, p5⟩ := dF.out.facts
 by_cases hs1 : s = FILE
 ·
  have mX : Hid (O = file rt none) := by show _ = _; rw [HO.out, if_pos hs1]; first | done | rfl
  have afn : ((strOf s).toList == [102, 105, 108, 101]) = true := by rw [aK, hs1]; first | done | rfl
  have afo : (strOf s).toList = [102, 105, 108, 101] := by rw [aK, hs1]; first | done | rfl
  clear hs1
  go_wp2_with fail
  refine (HFN.out _ (HL.out.below bM.out) (bY HT.out bM.out) (HM.out.below bM.out)).mono ?_
  rintro e w2 ⟨hbx, u', A', n', c', ok, rfl, hown, yK⟩
  have iy : Hid ((w.heap.size + 1) < w1.heap.size) := aW.out.lt
  have HOW := hid hown
  have F8 := hid yK
  clear hown yK
  have jE := hid (dF.out.below hbx)
  have bK := hid (aW.out.below hbx)
  have eX := hid (bel bM.out hbx)
  have Ib : Hid (w.heap.size ≤ w1.heap.size) := bM.out.size
  clear dF aW bM
  clear hbx
  go_wp2_with (refine aC bK.out u' A' n' c' (.tmp 4) (.tmp 23) rfl rfl rfl rfl ?_)
  try simp only [Exit.inBlock, Exit.then]
  exact bodyPost_ret (w := World.setRow w2 (w.heap.size + 1) (cells u' (.slice A' n' c'))) (res2 (u := u') (p := .slice A' n' c') rfl (bK.out.row u' _) ok _ rfl rfl) rfl ⟨below_setRow eX.out bP.out _, u', A', n', c', ok, rfl, (HOW.out.row iy.out _).base Ib.out, by rw [mX.out]; exact F8.out⟩
 ·
  have afn : ((strOf s).toList == [102, 105, 108, 101]) = false := by rw [aK, beq_eq_false_iff_ne]; exact hs1
  have afo : ¬ (strOf s).toList = [102, 105, 108, 101] := by rw [aK]; exact hs1
  cases hsp : special s with
  | true =>
   have mX : Hid (O = OA) := by show _ = _; rw [HO.out, if_neg hs1, if_pos hsp]
   rw [hsp] at wC F9
   clear hsp hs1
   go_wp2_with fail
   refine (wC.out _).mono ?_
   rintro e wx ⟨rfl, hwx⟩
   obtain rfl : w1 = wx := by first | exact hwx | exact hwx.symm
   clear hwx
   clear p0 p1 p2 p3 p4 p5
   go_upto_region 6 with (fail)
   refine aV (by kernel_rfl) [is (.pointer none), is (.bool false), is (.bool false), is (undef), is (undef), is (undef), is (undef), is (undef), is (undef), is (undef), is (.bool false), is (.bool false), is (undef), is (undef), is (undef), is (undef), is (.bool false)] [[], [0], [1], [2], [2, 3], [2, 4], [2, 5], [2], [2, 7], [2, 6, 8], [2, 9], [10], [11], [11, 12], [11, 13], [11, 14], [11, 15]] (by kernel_rfl) ?_ ?_
   ·refine ⟨?_, ?_, ?_, ?_, ?_, ?_, ?_, ?_, ?_, ?_, ?_, ?_, ?_, ?_, ?_, ?_, ?_, trivial⟩
    all_goals (intro t wq hbq hh K hK; simp only [filled, upd, Have, is, any, row, pick, Act.put, List.setIfInBounds_toArray, List.set_cons_zero, List.set_cons_succ, Nat.reduceAdd, Nat.reduceEqDiff, reduceIte, List.tail_cons, List.headD_cons] at hh hK ⊢; (try simp only [hh] at hK ⊢); try clear hh)
    ·go_simp; exact hK _ _ (Below.refl _ _) rfl
    ·go_simp; first | exact hK _ _ (Below.refl _ _) rfl | exact hK _ _ (Below.refl _ _) (iC (by omega) (by omega))
    iterate 7 · go_simp; exact hK _ _ (Below.refl _ _) rfl
    ·go_simp; first | exact hK _ _ (Below.refl _ _) rfl | exact hK _ _ (Below.refl _ _) (iC (by omega) (by omega))
    iterate 7 · go_simp; exact hK _ _ (Below.refl _ _) rfl
   ·intro t wz hbq hh
    have f16 := aB hh 16 (by decide)
    simp only [pick] at f16
    replace f16 : t 16 = (.bool false) := f16
    clear hh
    simp only [filled, upd, Have, is, any, row, pick, Act.put, List.setIfInBounds_toArray, List.set_cons_zero, List.set_cons_succ, Nat.reduceAdd, Nat.reduceEqDiff, reduceIte]
    simp only [f16]
    have yh := hid (dF.out.below hbq)
    have CP := hid (aW.out.below hbq)
    have x9 := hid (bel bM.out hbq)
    clear dF aW bM
    clear hbq
    have iy : Hid ((w.heap.size + 1) < wz.heap.size) := CP.out.lt
    go_upto_region 8 with (fail)
    refine bC (by kernel_rfl) 11 [is (.pointer (some ⟨w.heap.size, 0, none⟩)), is (.string (strOf s)), is (.pointer (some ⟨w.heap.size, 1, none⟩)), is (.string (strOf rt)), is (.pointer (some ⟨w.heap.size, 0, none⟩)), is (.string (strOf s)), is (.string (cs true)), is (.string (strOf T2)), aeL OA wz.heap.size, ab3 OA wz.heap.size, is (.bool OA.isSome)] [[], [0], [], [2], [], [4], [4, 5], [2, 3, 4, 5, 6], [0, 1, 2, 3, 4, 5, 6, 7], [0, 1, 2, 3, 4, 5, 6, 7, 8], [0, 1, 2, 3, 4, 5, 6, 7, 8], [0, 1, 2, 3, 4, 5, 6, 7, 8, 9, 10]] (by kernel_rfl) ?_ ?_
    ·refine ⟨?_, ?_, ?_, ?_, ?_, ?_, ?_, ?_, ?_, ?_, ?_, trivial⟩
     all_goals (intro t wq hbq hh K hK; simp only [filled, aj, upd, Have, is, any, row, pick, Act.put, List.setIfInBounds_toArray, List.set_cons_zero, List.set_cons_succ, Nat.reduceAdd, Nat.reduceEqDiff, reduceIte, List.tail_cons, List.headD_cons] at hh hK ⊢)
     ·(try clear hh); go_simp; exact hK _ _ (Below.refl _ _) rfl
     ·simp only [hh] at hK ⊢; clear hh; have hc := (yh.out.below hbq).facts.1; go_simp; exact hK _ _ (Below.refl _ _) rfl
     ·(try clear hh); go_simp; exact hK _ _ (Below.refl _ _) rfl
     ·simp only [hh] at hK ⊢; clear hh; have hc := (yh.out.below hbq).facts.2.1; go_simp; exact hK _ _ (Below.refl _ _) rfl
     ·(try clear hh); go_simp; exact hK _ _ (Below.refl _ _) rfl
     ·simp only [hh] at hK ⊢; clear hh; have hc := (yh.out.below hbq).facts.1; go_simp; exact hK _ _ (Below.refl _ _) rfl
     ·simp only [hh] at hK ⊢; clear hh; go_simp; refine (F9.out _).mono ?_; rintro e w9 ⟨rfl, hw9⟩; subst hw9; exact hK _ _ (Below.refl _ _) rfl
     ·simp only [hh] at hK ⊢; clear hh; go_simp; refine (HTR.out _).mono ?_; rintro e w9 ⟨rfl, mG⟩; exact hK _ _ mG rfl
     ·simp only [hh] at hK ⊢; clear hh; go_simp; refine (HAU.out _ (HL.out.below (bel x9.out hbq)) (bY HT.out (bel x9.out hbq)) (HM.out.below (bel x9.out hbq))).mono ?_; intro e w9 ha; obtain ⟨mG, A9, n9, c9, rfl, Tq⟩ := Regs.ql ha; exact hK _ _ mG ⟨A9, n9, c9, rfl, ay Tq hbq.size⟩
     ·have e8 := hh.2.2.2.2.2.2.2.2.1; (try clear hh); obtain ⟨A8, n8, c8, e8, ho8⟩ := e8; simp only [e8] at hK ⊢; go_simp; exact hK _ _ (Below.refl _ _) ⟨_, _, _, rfl, ho8⟩
     ·have e8 := hh.2.2.2.2.2.2.2.2.1; (try clear hh); obtain ⟨A8, n8, c8, e8, ho8⟩ := e8; simp only [e8] at hK ⊢; go_simp; exact hK _ _ (Below.refl _ _) rfl
    ·intro t wq hbq hh
     have f9 := aB hh 9 (by decide)
     simp only [pick] at f9
     have f10 := aB hh 10 (by decide)
     simp only [pick] at f10
     replace f10 : t 10 = (.bool OA.isSome) := f10
     clear hh
     simp only [filled, aj, upd, Have, is, any, row, pick, Act.put, List.setIfInBounds_toArray, List.set_cons_zero, List.set_cons_succ, Nat.reduceAdd, Nat.reduceEqDiff, reduceIte]
     obtain ⟨A9, n9, c9, f9, Tq⟩ := f9
     simp only [f9, f10]
     have yj := hid (CP.out.below hbq)
     have Et := hid (bel x9.out hbq)
     have Ak := hid Tq
     clear Tq hbq
     refine aC yj.out ((OA).getD U0) A9 n9 c9 (.tmp 4) (.tmp 63) rfl rfl rfl rfl ?_
     go_wp2
     try simp only [Exit.inBlock, Exit.then]
     have ho := ay (gU.aN (w' := World.setRow wq (w.heap.size + 1) (cells ((OA).getD U0) (.slice A9 n9 c9))) (gb := (w.heap.size + 1)) (Ak.out) (fun k hk => setRow_other _ _ _ _ hk) iy.out) (by have h1 := bP.out; have h2 := iy.out; omega : w.heap.size ≤ _)
     refine bodyPost_ret (w := World.setRow wq (w.heap.size + 1) (cells ((OA).getD U0) (.slice A9 n9 c9))) (res2 (u := (OA).getD U0) (p := .slice A9 n9 c9) rfl (yj.out.row _ _) (OA).isSome _ rfl rfl) rfl ?_
     rw [mX.out]
     exact Regs.qM (below_setRow Et.out bP.out _) ho
  | false =>
   rw [hsp] at wC
   go_wp2_with fail
   refine (wC.out _).mono ?_
   rintro e wx ⟨rfl, hwx⟩
   obtain rfl : w1 = wx := by first | exact hwx | exact hwx.symm
   clear hwx
   by_cases h0 : s = []
   ·
    have qc : Hid (O = none) := by show _ = _; rw [HO.out, if_neg hs1, if_neg (by rw [hsp]; simp), if_neg (by simp [h0])]
    have Z9 : ((strOf s).toList == []) = true := by rw [aK, h0]; first | done | rfl
    have aac : (strOf s).toList = [] := by rw [aK, h0]; first | done | rfl
    clear h0 hsp hs1
    go_wp2_with (refine aC aW.out U0 none 0 0 (.tmp 4) (.tmp 76) rfl rfl rfl rfl ?_)
    try simp only [Exit.inBlock, Exit.then]
    exact bodyPost_ret (w := World.setRow w1 (w.heap.size + 1) (cells U0 (.slice none 0 0))) (res2 (u := U0) (p := .slice none 0 0) rfl (aW.out.row U0 _) false _ rfl rfl) rfl (kH qc.out (below_setRow bM.out bP.out _))
   ·
    have mX : Hid (O = PrsP.plain ⟨s, rt, q, f, hq, hf⟩) := by show _ = _; rw [HO.out, if_neg hs1, if_neg (by rw [hsp]; simp), if_pos h0]
    have Z9 : ((strOf s).toList == []) = false := by rw [aK, beq_eq_false_iff_ne]; exact h0
    have aac : ¬ (strOf s).toList = [] := by rw [aK]; exact h0
    have e2 : (strOf s).toList.isEmpty = false := by rw [aK]; simpa using h0
    clear h0 hsp hs1
    go_wp2_with fail
    refine (vW.out _ (HL.out.below bM.out) (bY HT.out bM.out) (HM.out.below bM.out)).mono ?_
    rintro e w2 ⟨hbx, u', A', n', c', ok, rfl, hown, yK⟩
    have iy : Hid ((w.heap.size + 1) < w1.heap.size) := aW.out.lt
    have HOW := hid hown
    have F8 := hid yK
    clear hown yK
    have jE := hid (dF.out.below hbx)
    have bK := hid (aW.out.below hbx)
    have eX := hid (bel bM.out hbx)
    have Ib : Hid (w.heap.size ≤ w1.heap.size) := bM.out.size
    clear dF aW bM
    clear hbx
    go_wp2_with (refine aC bK.out u' A' n' c' (.tmp 4) (.tmp 71) rfl rfl rfl rfl ?_)
    try simp only [Exit.inBlock, Exit.then]
    exact bodyPost_ret (w := World.setRow w2 (w.heap.size + 1) (cells u' (.slice A' n' c'))) (res2 (u := u') (p := .slice A' n' c') rfl (bK.out.row u' _) ok _ rfl rfl) rfl ⟨below_setRow eX.out bP.out _, u', A', n', c', ok, rfl, (HOW.out.row iy.out _).base Ib.out, by rw [mX.out]; exact F8.out⟩
end Go.Proofs.YtmpeaoacaecgpaaGreatDoor.akb
namespace Go.Proofs.YtmpeaoacaecgpaaGreatDoor.acU
open Go.RowKit Base qh BI
def Cc (r : Int) : Prop := 0 ≤ r ∧ r ≤ 1114111 ∧ ¬ (55296 ≤ r ∧ r ≤ 57343)
instance (r : Int) : Decidable (Cc r) := by unfold Cc; exact inferInstance
def u (x : Int) : UInt8 := x.toNat.toUInt8
theorem jw (x : Int) (h0 : 0 ≤ x) (h1 : x ≤ 255) : ((u x).toNat : Int) = x := by
 unfold u
 simp
 omega
theorem enc1 (r : Int) (h0 : 0 ≤ r) (h1 : r ≤ 127) : Lib.encodeRune r = [u r] := by unfold Lib.encodeRune; rw [Lib.encodeRuneZ_one h0 h1]; rfl
theorem enc2 (r : Int) (h0 : 128 ≤ r) (h1 : r ≤ 2047) : Lib.encodeRune r = [u (192 + r / 64), u (128 + r % 64)] := by unfold Lib.encodeRune; rw [Lib.encodeRuneZ_two h0 h1]; rfl
theorem enc3 (r : Int) (h : (2048 ≤ r ∧ r < 55296) ∨ (57343 < r ∧ r ≤ 65535)) : Lib.encodeRune r = [u (224 + r / 4096), u (128 + r / 64 % 64), u (128 + r % 64)] := by unfold Lib.encodeRune; rw [Lib.encodeRuneZ_three h]; rfl
theorem enc4 (r : Int) (h0 : 65536 ≤ r) (h1 : r ≤ 1114111) : Lib.encodeRune r = [u (240 + r / 262144), u (128 + r / 4096 % 64), u (128 + r / 64 % 64), u (128 + r % 64)] := by unfold Lib.encodeRune; rw [Lib.encodeRuneZ_four h0 h1]; rfl
theorem encBad (r : Int) (h : ¬ Cc r) : Lib.encodeRune r = Lib.encodeRune 65533 := by
 unfold Lib.encodeRune
 rw [Lib.encodeRuneZ_bad (by unfold Cc at h; omega), Lib.encodeRuneZ_three (r := 65533) (by omega)]
 rfl
theorem rd_enc (r : Int) (h : Cc r) (t : List UInt8) : rd (Lib.encodeRune r ++ t) = (r, ((Lib.encodeRune r).length : Int), true) := by
 obtain ⟨h0, h1, h2⟩ := h
 by_cases a : r ≤ 127
 ·rw [enc1 r h0 a]
  simp only [List.cons_append, List.nil_append, rd, jw r h0 (by omega)]
  rw [if_pos a]
  rfl
 by_cases b : r ≤ 2047
 ·rw [enc2 r (by omega) b]
  have e1 := jw (192 + r / 64) (by omega) (by omega)
  have e2 := jw (128 + r % 64) (by omega) (by omega)
  simp only [List.cons_append, List.nil_append, rd, e1]
  rw [if_neg (by omega), if_neg (by omega), if_pos (by omega), tail, e2, if_neg (by unfold lo hi; (repeat' split) <;> omega), tail]
  refine Prod.ext ?_ rfl
  simp only
  omega
 by_cases c : r ≤ 65535
 ·rw [enc3 r (by omega)]
  have e1 := jw (224 + r / 4096) (by omega) (by omega)
  have e2 := jw (128 + r / 64 % 64) (by omega) (by omega)
  have e3 := jw (128 + r % 64) (by omega) (by omega)
  simp only [List.cons_append, List.nil_append, rd, e1]
  rw [if_neg (by omega), if_neg (by omega), if_neg (by omega), if_pos (by omega), tail, e2, if_neg (by unfold lo hi; (repeat' split) <;> omega), tail, e3, if_neg (by omega), tail]
  refine Prod.ext ?_ rfl
  simp only
  omega
 ·rw [enc4 r (by omega) h1]
  have e1 := jw (240 + r / 262144) (by omega) (by omega)
  have e2 := jw (128 + r / 4096 % 64) (by omega) (by omega)
  have e3 := jw (128 + r / 64 % 64) (by omega) (by omega)
  have e4 := jw (128 + r % 64) (by omega) (by omega)
  simp only [List.cons_append, List.nil_append, rd, e1]
  rw [if_neg (by omega), if_neg (by omega), if_neg (by omega), if_neg (by omega), tail, e2, if_neg (by unfold lo hi; (repeat' split) <;> omega), tail, e3, if_neg (by omega), tail, e4, if_neg (by omega), tail]
  refine Prod.ext ?_ rfl
  simp only
  omega
theorem u_of (c : UInt8) : u (c.toNat : Int) = c := by unfold u; simp
theorem Ur (x : Int) (c : UInt8) (h : x = (c.toNat : Int)) : u x = c := by rw [h, u_of]
theorem sF (x : UInt8) (t : List UInt8) :
  ((rd (x :: t)).2.2 = true → Cc (rd (x :: t)).1 ∧ Lib.encodeRune (rd (x :: t)).1 = (x :: t).take (rd (x :: t)).2.1.toNat) ∧ ((rd (x :: t)).2.2 = false → (rd (x :: t)).1 = 65533) := by
 have hx : (x.toNat : Int) < 256 := by have := x.toNat_lt; omega
 simp only [rd]
 by_cases a : (x.toNat : Int) ≤ 127
 ·rw [if_pos a]
  refine ⟨fun _ => ⟨by unfold Cc; simp only; omega, ?_⟩, fun h => by cases h⟩
  simp only
  rw [enc1 _ (by omega) a, u_of]
  rfl
 rw [if_neg a]
 by_cases b : (x.toNat : Int) ≤ 193 ∨ 245 ≤ (x.toNat : Int)
 ·rw [if_pos b]
  exact ⟨(fun h => by cases h), fun _ => rfl⟩
 rw [if_neg b]
 by_cases c2 : (x.toNat : Int) ≤ 223
 ·rw [if_pos c2]
  have el : lo x.toNat = 128 := by unfold lo; (repeat' split) <;> omega
  have eh : hi x.toNat = 191 := by unfold hi; (repeat' split) <;> omega
  match t with
  | [] => simp [tail]
  | y :: t =>
   have hy : (y.toNat : Int) < 256 := by have := y.toNat_lt; omega
   rw [tail, el, eh]
   by_cases d : (y.toNat : Int) < 128 ∨ 191 < (y.toNat : Int)
   ·rw [if_pos d]; exact ⟨(fun h => by cases h), fun _ => rfl⟩
   ·rw [if_neg d, tail]
    refine ⟨fun _ => ⟨by unfold Cc; simp only; omega, ?_⟩, fun h => by cases h⟩
    simp only
    rw [enc2 _ (by omega) (by omega), Ur _ x (by omega), Ur _ y (by omega)]
    rfl
 rw [if_neg c2]
 by_cases c3 : (x.toNat : Int) ≤ 239
 ·rw [if_pos c3]
  match t with
  | [] => simp [tail]
  | y :: t =>
   have hy : (y.toNat : Int) < 256 := by have := y.toNat_lt; omega
   rw [tail]
   by_cases d : (y.toNat : Int) < lo x.toNat ∨ hi x.toNat < (y.toNat : Int)
   ·rw [if_pos d]; exact ⟨(fun h => by cases h), fun _ => rfl⟩
   ·rw [if_neg d]
    have hd : 128 ≤ (y.toNat : Int) ∧ (y.toNat : Int) ≤ 191 ∧ ((x.toNat : Int) = 224 → 160 ≤ (y.toNat : Int)) ∧ ((x.toNat : Int) = 237 → (y.toNat : Int) ≤ 159) := by
     unfold lo hi at d
     (repeat' split at d) <;> omega
    match t with
    | [] => simp [tail]
    | z :: t =>
     have hz : (z.toNat : Int) < 256 := by have := z.toNat_lt; omega
     rw [tail]
     by_cases f : (z.toNat : Int) < 128 ∨ 191 < (z.toNat : Int)
     ·rw [if_pos f]; exact ⟨(fun h => by cases h), fun _ => rfl⟩
     ·rw [if_neg f, tail]
      refine ⟨fun _ => ⟨by unfold Cc; simp only; omega, ?_⟩, fun h => by cases h⟩
      simp only
      rw [enc3 _ (by omega), Ur _ x (by omega), Ur _ y (by omega), Ur _ z (by omega)]
      rfl
 ·rw [if_neg c3]
  match t with
  | [] => simp [tail]
  | y :: t =>
   have hy : (y.toNat : Int) < 256 := by have := y.toNat_lt; omega
   rw [tail]
   by_cases d : (y.toNat : Int) < lo x.toNat ∨ hi x.toNat < (y.toNat : Int)
   ·rw [if_pos d]; exact ⟨(fun h => by cases h), fun _ => rfl⟩
   ·rw [if_neg d]
    have hd : 128 ≤ (y.toNat : Int) ∧ (y.toNat : Int) ≤ 191 ∧ ((x.toNat : Int) = 240 → 144 ≤ (y.toNat : Int)) ∧ ((x.toNat : Int) = 244 → (y.toNat : Int) ≤ 143) := by
     unfold lo hi at d
     (repeat' split at d) <;> omega
    match t with
    | [] => simp [tail]
    | z :: t =>
     have hz : (z.toNat : Int) < 256 := by have := z.toNat_lt; omega
     rw [tail]
     by_cases f : (z.toNat : Int) < 128 ∨ 191 < (z.toNat : Int)
     ·rw [if_pos f]; exact ⟨(fun h => by cases h), fun _ => rfl⟩
     ·rw [if_neg f]
      match t with
      | [] => simp [tail]
      | v :: t =>
       have hv : (v.toNat : Int) < 256 := by have := v.toNat_lt; omega
       rw [tail]
       by_cases g : (v.toNat : Int) < 128 ∨ 191 < (v.toNat : Int)
       ·rw [if_pos g]; exact ⟨(fun h => by cases h), fun _ => rfl⟩
       ·rw [if_neg g, tail]
        refine ⟨fun _ => ⟨by unfold Cc; simp only; omega, ?_⟩, fun h => by cases h⟩
        simp only
        rw [enc4 _ (by omega) (by omega), Ur _ x (by omega), Ur _ y (by omega), Ur _ z (by omega), Ur _ v (by omega)]
        rfl
theorem Gv (L : List UInt8) (h : L ≠ []) : dec L = (rd L).1 :: dec (L.drop (rd L).2.1.toNat) := by
 cases L with
 | nil => exact absurd rfl h
 | cons x t => exact iK x t
theorem val_ne (L : List UInt8) (h : L ≠ []) : val L = ((rd L).2.2 && val (L.drop (rd L).2.1.toNat)) := by
 cases L with
 | nil => exact absurd rfl h
 | cons x t => exact sH x t
theorem adp (r : Int) (t : List UInt8) : Lib.encodeRune r ++ t ≠ [] := by
 intro h
 have := Jy r
 have e := congrArg List.length h
 simp at e
 rw [e.1] at this
 simp at this
theorem fA (r : Int) (l : List Int) : enc (r :: l) = Lib.encodeRune r ++ enc l := by simp [enc]
theorem Ez (l : List Int) (b : List UInt8) (h : ∀ r ∈ l, Cc r) : dec (enc l ++ b) = l ++ dec b ∧ val (enc l ++ b) = val b := by
 induction l with
 | nil => exact ⟨rfl, rfl⟩
 | cons r l ih =>
  have hr := rd_enc r (h r (by simp)) (enc l ++ b)
  have hi := ih (fun r hr => h r (by simp [hr]))
  rw [fA, List.append_assoc]
  constructor
  ·rw [Gv _ (adp r _), hr]
   simp only [Int.toNat_natCast, List.drop_left, hi.1, List.cons_append]
  ·rw [val_ne _ (adp r _), hr]
   simp only [Int.toNat_natCast, List.drop_left, hi.2, Bool.true_and]
theorem ae9 : Cc 65533 := by decide
theorem afa : ∀ (n : Nat) (L : List UInt8), L.length ≤ n → ∀ r ∈ dec L, Cc r
 | _, [], _, r, h => by simp [lT] at h
 | 0, _ :: _, h, _, _ => by simp at h
 | n + 1, x :: t, hl, r, h => by
  have hs := nJ x t
  rw [iK, List.mem_cons] at h
  rcases h with rfl | h
  ·cases hw : (rd (x :: t)).2.2
   ·rw [(sF x t).2 hw]; exact ae9
   ·exact ((sF x t).1 hw).1
  ·exact afa n _ (by simp only [List.length_drop, List.length_cons] at hl ⊢; omega) r h
theorem zU (L : List UInt8) : ∀ r ∈ dec L, Cc r := afa _ L (Nat.le_refl _)
theorem YJ : ∀ (n : Nat) (L : List UInt8), L.length ≤ n → val L = true → enc (dec L) = L
 | _, [], _, _ => rfl
 | 0, _ :: _, h, _ => by simp at h
 | n + 1, x :: t, hl, h => by
  have hs := nJ x t
  rw [sH, Bool.and_eq_true] at h
  rw [iK, fA, YJ n _ (by simp only [List.length_drop, List.length_cons] at hl ⊢; omega) h.2, ((sF x t).1 h.1).2, List.take_append_drop]
theorem val_iff (L : List UInt8) : val L = decide (enc (dec L) = L) := by
 rw [Bool.eq_iff_iff, decide_eq_true_iff]
 constructor
 ·exact YJ _ L (Nat.le_refl _)
 ·intro h
  have := (Ez (dec L) [] (zU L)).2
  rw [List.append_nil, h] at this
  rw [this]
  rfl
end Go.Proofs.YtmpeaoacaecgpaaGreatDoor.acU
namespace Go.Proofs.YtmpeaoacaecgpaaGreatDoor.acr
open Go.RowKit Base qh BI acU PrsP
theorem un (x : Int) (h0 : 0 ≤ x) (h1 : x ≤ 255) : (u x).toNat = x.toNat := by have := jw x h0 h1; omega
theorem aaf (r : Int) (h : Cc r) : (r ≤ 127 ∧ Lib.encodeRune r = [u r]) ∨ (128 ≤ r ∧ ∃ a b : UInt8, Lib.encodeRune r = [a, b] ∧ 192 ≤ a.toNat ∧ b.toNat / 64 = 2) ∨
  (128 ≤ r ∧ ∃ a b c : UInt8, Lib.encodeRune r = [a, b, c] ∧ 192 ≤ a.toNat ∧ b.toNat / 64 = 2 ∧ c.toNat / 64 = 2) ∨ (128 ≤ r ∧ ∃ a b c d : UInt8, Lib.encodeRune r = [a, b, c, d] ∧ 192 ≤ a.toNat ∧ b.toNat / 64 = 2 ∧ c.toNat / 64 = 2 ∧ d.toNat / 64 = 2) := by
 obtain ⟨h0, h1, h2⟩ := h
 by_cases a : r ≤ 127
 ·exact .inl ⟨a, enc1 r h0 a⟩
 by_cases b : r ≤ 2047
 ·refine .inr (.inl ⟨by omega, _, _, enc2 r (by omega) b, ?_, ?_⟩)
  ·rw [un _ (by omega) (by omega)]; omega
  ·rw [un _ (by omega) (by omega)]; omega
 by_cases c : r ≤ 65535
 ·refine .inr (.inr (.inl ⟨by omega, _, _, _, enc3 r (by omega), ?_, ?_, ?_⟩))
  ·rw [un _ (by omega) (by omega)]; omega
  ·rw [un _ (by omega) (by omega)]; omega
  ·rw [un _ (by omega) (by omega)]; omega
 ·refine .inr (.inr (.inr ⟨by omega, _, _, _, _, enc4 r (by omega) h1, ?_, ?_, ?_, ?_⟩))
  ·rw [un _ (by omega) (by omega)]; omega
  ·rw [un _ (by omega) (by omega)]; omega
  ·rw [un _ (by omega) (by omega)]; omega
  ·rw [un _ (by omega) (by omega)]; omega
theorem Dj (r : Int) (h : Cc r) (t : List UInt8) : Lib.decodeN (Lib.encodeRune r ++ t).length ((Lib.encodeRune r ++ t).getD 0 0).toNat ((Lib.encodeRune r ++ t).getD 1 0).toNat ((Lib.encodeRune r ++ t).getD 2 0).toNat ((Lib.encodeRune r ++ t).getD 3 0).toNat = (r.toNat, (Lib.encodeRune r).length) := by
 obtain ⟨h0, h1, h2⟩ := h
 by_cases a : r ≤ 127
 ·rw [enc1 r h0 a]
  simp only [List.cons_append, List.nil_append, List.getD_cons_zero, un r h0 (by omega), Lib.decodeN]
  rw [if_pos (by omega)]
  rfl
 by_cases b : r ≤ 2047
 ·rw [enc2 r (by omega) b]
  simp only [List.cons_append, List.nil_append, List.getD_cons_zero, List.getD_cons_succ, un (192 + r / 64) (by omega) (by omega), un (128 + r % 64) (by omega) (by omega), Lib.decodeN, List.length_cons, List.length_nil]
  rw [if_neg (by omega), if_pos (by omega), if_pos (by omega)]
  refine Prod.ext ?_ rfl
  simp only
  omega
 by_cases c : r ≤ 65535
 ·rw [enc3 r (by omega)]
  simp only [List.cons_append, List.nil_append, List.getD_cons_zero, List.getD_cons_succ, un (224 + r / 4096) (by omega) (by omega), un (128 + r / 64 % 64) (by omega) (by omega), un (128 + r % 64) (by omega) (by omega), Lib.decodeN, List.length_cons, List.length_nil]
  rw [if_neg (by omega), if_neg (by omega), if_pos (by omega), if_pos (by omega)]
  refine Prod.ext ?_ rfl
  simp only
  omega
 ·rw [enc4 r (by omega) h1]
  simp only [List.cons_append, List.nil_append, List.getD_cons_zero, List.getD_cons_succ, un (240 + r / 262144) (by omega) (by omega), un (128 + r / 4096 % 64) (by omega) (by omega), un (128 + r / 64 % 64) (by omega) (by omega), un (128 + r % 64) (by omega) (by omega), Lib.decodeN, List.length_cons, List.length_nil]
  rw [if_neg (by omega), if_neg (by omega), if_neg (by omega), if_pos (by omega), if_pos (by omega)]
  refine Prod.ext ?_ rfl
  simp only
  omega
theorem wL (r : Int) (h : Cc r) (t : List UInt8) : Lib.decodeL (Lib.encodeRune r ++ t) = (r.toNat, (Lib.encodeRune r).length) := by rw [Lib.decodeL_N]; exact Dj r h t
theorem last4 (t : List UInt8) (c0 c1 c2 c3 : UInt8) (h3 : 128 ≤ c3.toNat) (h2 : Lib.runeStartB c2 = false) (h1 : Lib.runeStartB c1 = false) (h0 : Lib.runeStartB c0 = true) (hd : (Lib.decodeL [c0, c1, c2, c3]).2 = 4) : Lib.decodeLastL (t ++ [c0, c1, c2, c3]) = Lib.decodeL [c0, c1, c2, c3] := by
 have g1 := Lib.getD_app_end t [c0, c1, c2, c3] 1 (by omega) (by simp)
 have g2 := Lib.getD_app_end t [c0, c1, c2, c3] 2 (by omega) (by simp)
 have g3 := Lib.getD_app_end t [c0, c1, c2, c3] 3 (by omega) (by simp)
 have g4 := Lib.getD_app_end t [c0, c1, c2, c3] 4 (by omega) (by simp)
 have hl : (t ++ [c0, c1, c2, c3]).length = t.length + 4 := by simp
 have hs : Lib.lastStart (t ++ [c0, c1, c2, c3]) = (t ++ [c0, c1, c2, c3]).length - 4 := by
  unfold Lib.lastStart
  simp only [g2, g3, g4]
  rw [if_neg (by omega)]
  simp only [List.length_cons, List.length_nil, List.getD_cons_succ, List.getD_cons_zero, Nat.reduceAdd, Nat.reduceSub, h2, h1, h0, Bool.false_eq_true, if_false, if_true]
  rw [if_neg (by omega), if_neg (by omega)]
 have hdrop := Lib.drop_app_end t [c0, c1, c2, c3]
 unfold Lib.decodeLastL
 rw [if_neg (by simp), g1, if_neg (by simp; omega), hs]
 simp only [List.length_cons, List.length_nil] at hdrop
 simp only [hdrop, hd]
 rw [if_pos (by omega)]
theorem RQ {c : UInt8} (h : c.toNat / 64 = 2) : Lib.runeStartB c = false := by unfold Lib.runeStartB; rw [h]; rfl
theorem LM {c : UInt8} (h : 192 ≤ c.toNat) : Lib.runeStartB c = true := by
 unfold Lib.runeStartB
 have := c.toNat_lt
 have h2 : c.toNat / 64 ≠ 2 := by omega
 simpa using h2
theorem Di (r : Int) (h : Cc r) (t : List UInt8) : Lib.decodeLastL (t ++ Lib.encodeRune r) = (r.toNat, (Lib.encodeRune r).length) := by
 have hd := wL r h []
 rw [List.append_nil] at hd
 rcases aaf r h with ⟨h1, e⟩ | ⟨_, a, b, e, ha, hb⟩ | ⟨_, a, b, c, e, ha, hb, hc⟩ | ⟨_, a, b, c, d, e, ha, hb, hc, hdd⟩
 ·rw [e] at hd ⊢
  rw [Lib.decodeLastL_ascii t _ (by rw [un r h.1 (by omega)]; have := h.1; omega), un r h.1 (by omega)]
  rfl
 ·rw [e] at hd ⊢
  rw [Lib.last2 t a b (by omega) (LM ha) (by rw [hd]; rfl), hd]
 ·rw [e] at hd ⊢
  rw [Lib.last3 t a b c (by omega) (RQ hb) (LM ha) (by rw [hd]; rfl), hd]
 ·rw [e] at hd ⊢
  rw [last4 t a b c d (by omega) (RQ hc) (RQ hb) (LM ha) (by rw [hd]; rfl), hd]
def jG (l : List Int) : Prop := ∀ r ∈ l, Cc r
theorem iQ (a b : List Int) : enc (a ++ b) = enc a ++ enc b := by simp [enc]
theorem oV (r : Int) : enc [r] = Lib.encodeRune r := by simp [enc]
theorem dl (s : ByteArray) : s.data.toList.length = s.size := Array.length_toList
theorem ak5 (a b : List Int) (r : Int) (h : Cc r) (S : ByteArray) (hS : S.data.toList = enc (a ++ r :: b)) : Utf8.decode S (enc a).length = (r.toNat, (Lib.encodeRune r).length) := by
 rw [← Lib.decodeL_drop, hS, iQ, List.drop_left, fA]
 exact wL r h _
def bl (r : Int) : Bool := decide (r ≤ 32)
def pn (r : Nat) : Bool := decide (r ≤ 32)
theorem pn_bl (r : Int) (h : 0 ≤ r) : pn r.toNat = bl r := by unfold pn bl; congr 1; rw [eq_iff_iff]; omega
theorem D8 (r : Int) : 0 < (Lib.encodeRune r).length := by have := (Jy r).1; omega
theorem aaD (S : ByteArray) : ∀ (b a : List Int) (f : Nat), S.data.toList = enc (a ++ b) → jG b → b.length < f →
  Lib.idxFuncFrom pn false S f (enc a).length = if b.all bl = true then -1 else (((enc a).length + (enc (b.takeWhile bl)).length : Nat) : Int)
 | [], a, f, hS, _, _ => by
  rw [List.append_nil] at hS
  have hsz : S.size = (enc a).length := by rw [← dl, hS]
  rw [Lib.idxFuncFrom_end _ _ _ _ _ (by omega)]
  rfl
 | r :: b, a, f, hS, hC, hf => by
  obtain ⟨g, rfl⟩ : ∃ g, f = g + 1 := ⟨f - 1, by simp at hf; omega⟩
  have hr := hC r (by simp)
  have hd := ak5 a b r hr S hS
  have hsz : (enc a).length < S.size := by
   rw [← dl, hS, iQ, List.length_append, fA, List.length_append]
   have := D8 r
   omega
  rw [Lib.idxFuncFrom, if_pos hsz, hd]
  simp only [pn_bl r hr.1]
  cases hb : bl r with
  | false => simp [hb, enc]
  | true =>
   rw [if_neg (by simp)]
   have ih := aaD S b (a ++ [r]) g (by rw [hS]; simp) (fun x hx => hC x (by simp [hx])) (by simp at hf; omega)
   rw [iQ, oV, List.length_append] at ih
   rw [ih]
   simp only [List.all_cons, hb, Bool.true_and, List.takeWhile_cons, if_true, fA, List.length_append]
   split
   ·rfl
   ·congr 1
    omega
theorem Vu (S : ByteArray) (m : List Int) : ∀ (n : Nat) (l : List Int) (f : Nat), l.length = n → S.data.toList = enc (l ++ m) → jG l → n < f →
  (l.all bl = true ∧ Lib.lastIdxFuncFrom pn false S f (enc l).length = -1) ∨ ∃ l1 r l2, l = l1 ++ r :: l2 ∧ bl r = false ∧ l2.all bl = true ∧ Lib.lastIdxFuncFrom pn false S f (enc l).length = ((enc l1).length : Int)
 | 0, l, f, hl, _, _, _ => by
  obtain rfl := List.eq_nil_of_length_eq_zero hl
  exact .inl ⟨rfl, Lib.lastIdxFuncFrom_zero _ _ _ _⟩
 | n + 1, l, f, hl, hS, hC, hf => by
  obtain ⟨g, rfl⟩ : ∃ g, f = g + 1 := ⟨f - 1, by omega⟩
  have hne : l ≠ [] := by rintro rfl; simp at hl
  obtain ⟨k, r, rfl⟩ : ∃ k r, l = k ++ [r] := ⟨_, _, (List.dropLast_concat_getLast hne).symm⟩
  have hr := hC r (by simp)
  have htk : S.data.toList.take (enc (k ++ [r])).length = enc k ++ Lib.encodeRune r := by rw [hS, iQ (k ++ [r]), List.take_left, iQ, oV]
  have hp : 0 < (enc (k ++ [r])).length := by rw [iQ, List.length_append, oV]; have := D8 r; omega
  rw [Lib.lastIdxFuncFrom, if_pos hp, htk, Di r hr]
  simp only [pn_bl r hr.1]
  have hlen : (enc (k ++ [r])).length - (Lib.encodeRune r).length = (enc k).length := by rw [iQ, List.length_append, oV]; omega
  rw [hlen]
  cases hb : bl r with
  | false =>
   rw [if_pos rfl]
   exact .inr ⟨k, r, [], rfl, hb, rfl, rfl⟩
  | true =>
   rw [if_neg (by simp)]
   simp at hl
   rcases Vu S ([r] ++ m) n k g hl (by rw [hS]; simp) (fun x hx => hC x (by simp [hx])) (by omega) with ⟨h1, h2⟩ | ⟨l1, q, l2, h1, h2, h3, h4⟩
   ·exact .inl ⟨by simp [h1, hb], h2⟩
   ·exact .inr ⟨l1, q, l2 ++ [r], by rw [h1]; simp, h2, by simp [h3, hb], h4⟩
def XM (l : List Int) : List Int := ((l.dropWhile bl).reverse.dropWhile bl).reverse
theorem ald {p : Int → Bool} {l : List Int} (h : l.all p = true) : l.dropWhile p = [] := by
 induction l with
 | nil => rfl
 | cons x l ih =>
  simp only [List.all_cons, Bool.and_eq_true] at h
  rw [List.dropWhile_cons, if_pos h.1]
  exact ih h.2
theorem dw_app {p : Int → Bool} {a : List Int} (b : List Int) (h : a.all p = true) : (a ++ b).dropWhile p = b.dropWhile p := by
 induction a with
 | nil => rfl
 | cons x l ih =>
  simp only [List.all_cons, Bool.and_eq_true] at h
  rw [List.cons_append, List.dropWhile_cons, if_pos h.1]
  exact ih h.2
theorem trR (l1 l2 : List Int) (r : Int) (h : bl r = false) (h2 : l2.all bl = true) : ((l1 ++ r :: l2).reverse.dropWhile bl).reverse = l1 ++ [r] := by
 rw [List.reverse_append, List.reverse_cons, List.append_assoc, dw_app _ (by simpa using h2), List.singleton_append, List.dropWhile_cons, h]
 simp
theorem agy (l : List Int) : l = l.takeWhile bl ++ l.dropWhile bl := List.takeWhile_append_dropWhile.symm
theorem amm (l : List Int) (hC : jG l) : Lib.trimLeftF pn (strOf (enc l)) = strOf (enc (l.dropWhile bl)) := by
 have hf : l.length ≤ (enc l).length := (iW l).2
 have hsz : (strOf (enc l)).size = (enc l).length := size_strOf _
 unfold Lib.trimLeftF Lib.idxFunc
 by_cases hl : l = []
 ·subst hl
  rfl
 have hlt : 0 < l.length := List.length_pos_iff.2 hl
 have h := aaD (strOf (enc l)) l [] ((strOf (enc l)).size + 1) rfl hC (by omega)
 have hmore : Lib.idxFuncFrom pn false (strOf (enc l)) (strOf (enc l)).size (enc []).length = Lib.idxFuncFrom pn false (strOf (enc l)) ((strOf (enc l)).size + 1) (enc []).length := aaE (strOf (enc l)) l [] _ _ rfl hC (by omega) (by omega)
 rw [show (0 : Nat) = (enc []).length from rfl, hmore, h]
 by_cases ha : l.all bl = true
 ·rw [if_pos ha, if_pos rfl, ald ha]
  rfl
 ·rw [if_neg ha, if_neg (by omega)]
  apply ByteArray.ext
  apply Array.ext'
  show ((strOf (enc l)).extract _ _).data.toList = _
  rw [hsz]
  have e : ((((enc ([] : List Int)).length + (enc (l.takeWhile bl)).length : Nat) : Int)).toNat = (enc (l.takeWhile bl)).length := by rw [show (enc ([] : List Int)).length = 0 from rfl, Nat.zero_add, Int.toNat_natCast]
  rw [e]
  have hx : ((strOf (enc l)).extract (enc (l.takeWhile bl)).length (enc l).length).data.toList = (enc l).drop (enc (l.takeWhile bl)).length := by
   rw [ByteArray.data_extract]
   simp only [strOf, Array.toList_extract, List.extract_eq_take_drop]
   exact List.take_of_length_le (by rw [List.length_drop]; exact Nat.le_refl _)
  rw [hx]
  have hs : enc l = enc (l.takeWhile bl) ++ enc (l.dropWhile bl) := by rw [← iQ, ← agy]
  have hs2 := congrArg (List.drop (enc (l.takeWhile bl)).length) hs
  rw [List.drop_left] at hs2
  exact hs2
where
 aaE (S : ByteArray) : ∀ (b a : List Int) (f g : Nat), S.data.toList = enc (a ++ b) → jG b → b.length ≤ f → b.length ≤ g → Lib.idxFuncFrom pn false S f (enc a).length = Lib.idxFuncFrom pn false S g (enc a).length
  | [], a, f, g, hS, _, _, _ => by
   rw [List.append_nil] at hS
   have hsz : S.size = (enc a).length := by rw [← dl, hS]
   rw [Lib.idxFuncFrom_end _ _ _ _ _ (by omega), Lib.idxFuncFrom_end _ _ _ _ _ (by omega)]
  | r :: b, a, f, g, hS, hC, hf, hg => by
   obtain ⟨f', rfl⟩ : ∃ g, f = g + 1 := ⟨f - 1, by simp at hf; omega⟩
   obtain ⟨g', rfl⟩ : ∃ f, g = f + 1 := ⟨g - 1, by simp at hg; omega⟩
   have hr := hC r (by simp)
   have hd := ak5 a b r hr S hS
   have ih := aaE S b (a ++ [r]) f' g' (by rw [hS]; simp) (fun x hx => hC x (by simp [hx])) (by simp at hf; omega) (by simp at hg; omega)
   rw [iQ, oV, List.length_append] at ih
   rw [Lib.idxFuncFrom, Lib.idxFuncFrom, hd, ih]
theorem aiA (l : List Int) (hC : jG l) : Lib.trimRightF pn (strOf (enc l)) = strOf (enc (l.reverse.dropWhile bl).reverse) := by
 have hf : l.length ≤ (enc l).length := (iW l).2
 have hsz : (strOf (enc l)).size = (enc l).length := size_strOf _
 unfold Lib.trimRightF Lib.rightEndF Lib.lastIdxFunc
 have hx : ∀ k, ((strOf (enc l)).extract 0 k).data.toList = (enc l).take k := fun k => by
  rw [ByteArray.data_extract]
  simp [strOf, Array.toList_extract, List.extract_eq_take_drop]
 by_cases hl : l = []
 ·subst hl
  rfl
 have hfu := Vw (strOf (enc l)) [] l.length l (strOf (enc l)).size ((strOf (enc l)).size + 1) rfl (by rw [List.append_nil]; rfl) hC (by omega) (by omega)
 rw [← hsz] at hfu
 rw [hfu]
 rw [hsz]
 rcases Vu (strOf (enc l)) [] l.length l ((enc l).length + 1) rfl (by rw [List.append_nil]; rfl) hC (by omega) with ⟨h1, h2⟩ | ⟨l1, r, l2, h1, h2, h3, h4⟩
 ·rw [h2, if_neg (by omega)]
  apply ByteArray.ext
  apply Array.ext'
  rw [hx, List.take_zero, ald (by simpa using h1)]
  rfl
 ·rw [h4, if_pos (by omega)]
  have hr := hC r (by rw [h1]; simp)
  have hdd : Lib.decodeGoB ((strOf (enc l)).extract (enc l1).length (enc l).length) = (r.toNat, (Lib.encodeRune r).length) := by
   have he : ((strOf (enc l)).extract (enc l1).length (enc l).length).data.toList = Lib.encodeRune r ++ enc l2 := by
    rw [ByteArray.data_extract]
    simp only [strOf, Array.toList_extract, List.extract_eq_take_drop]
    rw [h1, iQ, List.drop_left, fA, List.take_of_length_le (by simp)]
   have hs2 : ((strOf (enc l)).extract (enc l1).length (enc l).length).size ≠ 0 := by
    rw [← dl, he, List.length_append]
    have := D8 r
    omega
   unfold Lib.decodeGoB
   rw [if_neg hs2, ← Lib.decodeL_drop, List.drop_zero, he]
   exact wL r hr _
  have e : (((enc l1).length : Nat) : Int).toNat = (enc l1).length := by simp
  rw [e, hdd]
  apply ByteArray.ext
  apply Array.ext'
  rw [hx]
  have e2 : (l.reverse.dropWhile bl).reverse = l1 ++ [r] := by rw [h1]; exact trR l1 l2 r h2 h3
  rw [e2]
  show _ = enc (l1 ++ [r])
  conv => lhs; rw [h1]
  have e3 : enc (l1 ++ r :: l2) = enc (l1 ++ [r]) ++ enc l2 := by rw [← iQ]; simp
  rw [e3]
  have e4 : (enc l1).length + (Lib.encodeRune r).length = (enc (l1 ++ [r])).length := by rw [iQ, oV, List.length_append]
  rw [e4, List.take_left]
where
 Vw (S : ByteArray) (m : List Int) : ∀ (n : Nat) (l : List Int) (f g : Nat), l.length = n → S.data.toList = enc (l ++ m) → jG l → n ≤ f → n ≤ g → Lib.lastIdxFuncFrom pn false S f (enc l).length = Lib.lastIdxFuncFrom pn false S g (enc l).length
  | 0, l, f, g, hl, _, _, _, _ => by
   obtain rfl := List.eq_nil_of_length_eq_zero hl
   rw [show (enc ([] : List Int)).length = 0 from rfl, Lib.lastIdxFuncFrom_zero, Lib.lastIdxFuncFrom_zero]
  | n + 1, l, f, g, hl, hS, hC, hf, hg => by
   obtain ⟨f', rfl⟩ : ∃ g, f = g + 1 := ⟨f - 1, by omega⟩
   obtain ⟨g', rfl⟩ : ∃ f, g = f + 1 := ⟨g - 1, by omega⟩
   have hne : l ≠ [] := by rintro rfl; simp at hl
   obtain ⟨k, r, rfl⟩ : ∃ k r, l = k ++ [r] := ⟨_, _, (List.dropLast_concat_getLast hne).symm⟩
   have hr := hC r (by simp)
   simp at hl
   have htk : S.data.toList.take (enc (k ++ [r])).length = enc k ++ Lib.encodeRune r := by rw [hS, iQ (k ++ [r]), List.take_left, iQ, oV]
   have hlen : (enc (k ++ [r])).length - (Lib.encodeRune r).length = (enc k).length := by rw [iQ, List.length_append, oV]; omega
   have ih := Vw S ([r] ++ m) n k f' g' hl (by rw [hS]; simp) (fun x hx => hC x (by simp [hx])) (by omega) (by omega)
   rw [Lib.lastIdxFuncFrom, Lib.lastIdxFuncFrom, htk, Di r hr]
   simp only [hlen, ih]
theorem Ik {l : List Int} (h : jG l) (p : Int → Bool) : jG (l.dropWhile p) := fun r hr => h r ((List.dropWhile_sublist p).subset hr)
theorem Sr (l : List Int) (hC : jG l) : Lib.trimF pn (strOf (enc l)) = strOf (enc (XM l)) := by
 unfold Lib.trimF XM
 rw [amm l hC, aiA _ (Ik hC bl)]
def bk (r : Int) : Bool := decide (r = 9) || (decide (r = 10) || decide (r = 13))
def fz (r : Int) : Int := if bk r = true then -1 else r
theorem amu : ∀ (l : List Int) (n : Nat), jG l → l.length ≤ n → Lib.mapGoD fz n (enc l) = enc (l.filter fun r => !bk r)
 | [], 0, _, _ => rfl
 | [], n + 1, _, _ => rfl
 | _ :: _, 0, _, h => by simp at h
 | r :: l, n + 1, hC, hn => by
  have hr := hC r (by simp)
  have hne : enc (r :: l) ≠ [] := by rw [fA]; exact adp r _
  have hd := wL r hr (enc l)
  rw [← fA] at hd
  rw [Lib.mapGoD, if_neg hne, hd]
  have e : ((r.toNat : Nat) : Int) = r := by have := hr.1; omega
  simp only [e]
  rw [fA, List.drop_left, amu l n (fun x hx => hC x (by simp [hx])) (by simp at hn; omega)]
  cases hb : bk r with
  | true =>
   have : fz r = -1 := by unfold fz; rw [hb]; rfl
   rw [this]
   simp [hb]
  | false =>
   have h2 : fz r = r := by unfold fz; rw [hb]; rfl
   rw [h2, if_pos hr.1]
   simp [hb, enc]
theorem map_enc (l : List Int) (hC : jG l) : Lib.mapD fz (enc l) = enc (l.filter fun r => !bk r) := amu l _ hC (iW l).2
theorem amr (r : Int) (h : Cc r) (h1 : r ≤ 127) : fO (u r) = bl r ∧ brk (u r) = bk r := by
 have hn := un r h.1 (by omega)
 constructor
 ·unfold fO bl
  congr 1
  rw [hn, eq_iff_iff]
  have := h.1
  omega
 ·have hk : ∀ k : UInt8, (k.toNat : Int) ≤ 127 → (decide (u r = k) = decide (r = (k.toNat : Int))) := fun k hk => by
   congr 1
   rw [eq_iff_iff]
   constructor
   ·intro e
    have := congrArg UInt8.toNat e
    rw [hn] at this
    have := h.1
    omega
   ·intro e
    apply UInt8.toNat_inj.1
    rw [hn]
    omega
  unfold brk bk
  rw [hk 9 (by decide), hk 10 (by decide), hk 13 (by decide)]
  rfl
theorem IE {c : UInt8} (h : 128 ≤ c.toNat) : fO c = false ∧ brk c = false := by
 constructor
 ·unfold fO
  simp
  omega
 ·unfold brk
  have hk : ∀ k : UInt8, k.toNat < 128 → decide (c = k) = false := fun k hk => by
   rw [decide_eq_false_iff_not]
   rintro rfl
   omega
  rw [hk 9 (by decide), hk 10 (by decide), hk 13 (by decide)]
  rfl
theorem IG (r : Int) (h : Cc r) (h1 : 128 ≤ r) : ∀ c ∈ Lib.encodeRune r, 128 ≤ c.toNat := by
 rcases aaf r h with ⟨h2, _⟩ | ⟨_, a, b, e, ha, hb⟩ | ⟨_, a, b, c, e, ha, hb, hc⟩ | ⟨_, a, b, c, d, e, ha, hb, hc, hd⟩
 ·omega
 all_goals
  intro x hx
  rw [e] at hx
  simp only [List.mem_cons, List.not_mem_nil, or_false] at hx
 ·rcases hx with rfl | rfl <;> omega
 ·rcases hx with rfl | rfl | rfl <;> omega
 ·rcases hx with rfl | rfl | rfl | rfl <;> omega
theorem ac4 (r : Int) (h : 128 ≤ r) : bl r = false ∧ bk r = false := by
 constructor
 ·unfold bl; simp; omega
 ·unfold bk; simp; omega
theorem ale : ∀ l : List Int, jG l → (enc l).dropWhile fO = enc (l.dropWhile bl)
 | [], _ => rfl
 | r :: l, hC => by
  have hr := hC r (by simp)
  have ih := ale l fun x hx => hC x (by simp [hx])
  by_cases h1 : r ≤ 127
  ·have e := enc1 r hr.1 h1
   have hb := (amr r hr h1).1
   rw [fA, e, List.singleton_append, List.dropWhile_cons, List.dropWhile_cons, hb, ih]
   split
   ·rfl
   ·rw [fA, e]; rfl
  ·obtain ⟨c, t, e⟩ : ∃ c t, Lib.encodeRune r = c :: t := by
    cases e : Lib.encodeRune r with
    | nil => have := D8 r; rw [e] at this; simp at this
    | cons c t => exact ⟨c, t, rfl⟩
   have hc := IG r hr (by omega) c (by rw [e]; simp)
   rw [fA, e, List.cons_append, List.dropWhile_cons, (IE hc).1, List.dropWhile_cons, (ac4 r (by omega)).1]
   simp only [Bool.false_eq_true, if_false]
   rw [fA, e]
   rfl
theorem Qe : ∀ (n : Nat) (l : List Int), l.length = n → jG l → ((enc l).reverse.dropWhile fO).reverse = enc (l.reverse.dropWhile bl).reverse
 | 0, l, hl, _ => by
  obtain rfl := List.eq_nil_of_length_eq_zero hl
  rfl
 | n + 1, l, hl, hC => by
  have hne : l ≠ [] := by rintro rfl; simp at hl
  obtain ⟨k, r, rfl⟩ : ∃ k r, l = k ++ [r] := ⟨_, _, (List.dropLast_concat_getLast hne).symm⟩
  simp at hl
  have hr := hC r (by simp)
  have ih := Qe n k hl fun x hx => hC x (by simp [hx])
  rw [iQ, oV, List.reverse_append, List.reverse_append]
  by_cases h1 : r ≤ 127
  ·have e := enc1 r hr.1 h1
   have hb := (amr r hr h1).1
   rw [e]
   simp only [List.reverse_singleton, List.singleton_append, List.dropWhile_cons, hb]
   split
   ·exact ih
   ·simp [iQ, oV, e]
  ·obtain ⟨t, c, e⟩ : ∃ t c, Lib.encodeRune r = t ++ [c] := by
    have hn : Lib.encodeRune r ≠ [] := by intro e; have := D8 r; rw [e] at this; simp at this
    exact ⟨_, _, (List.dropLast_concat_getLast hn).symm⟩
   have hc := IG r hr (by omega) c (by rw [e]; simp)
   rw [e]
   simp only [List.reverse_append, List.reverse_singleton, List.singleton_append, List.cons_append, List.dropWhile_cons, (IE hc).1, (ac4 r (by omega)).1, Bool.false_eq_true, if_false]
   simp [iQ, oV, e]
theorem trm_enc (l : List Int) (hC : jG l) : ru (enc l) = enc (XM l) := by
 unfold ru XM
 rw [ale l hC, Qe _ _ rfl (Ik hC bl)]
theorem Qj : ∀ l : List Int, jG l → (enc l).filter (fun c => !brk c) = enc (l.filter fun r => !bk r)
 | [], _ => rfl
 | r :: l, hC => by
  have hr := hC r (by simp)
  rw [fA, List.filter_append, Qj l fun x hx => hC x (by simp [hx])]
  by_cases h1 : r ≤ 127
  ·have e := enc1 r hr.1 h1
   have hb := (amr r hr h1).2
   rw [e, List.filter_cons, hb, List.filter_cons]
   cases bk r <;> simp [enc, e]
  ·have hf : (Lib.encodeRune r).filter (fun c => !brk c) = Lib.encodeRune r := by
    refine List.filter_eq_self.2 fun c hc => ?_
    rw [(IE (IG r hr (by omega) c hc)).2]
    rfl
   rw [hf, List.filter_cons, (ac4 r (by omega)).2]
   simp [enc]
theorem afb {l : List Int} (h : jG l) : jG l.reverse := fun r hr => h r (by simpa using hr)
theorem afc {l : List Int} (h : jG l) : jG (XM l) := afb (Ik (afb (Ik h bl)) bl)
theorem adb (L : List UInt8) : Lib.mapD fz (Lib.trimF pn (strOf (enc (dec L)))).data.toList = clean L := by
 have hC : jG (dec L) := zU L
 rw [Sr _ hC]
 show Lib.mapD fz (enc (XM (dec L))) = _
 rw [map_enc _ (afc hC)]
 unfold clean
 rw [trm_enc _ hC, Qj _ (afc hC)]
theorem yF (L : List UInt8) : (clean L).length ≤ 3 * L.length := by
 unfold clean
 refine Nat.le_trans (List.length_filter_le _ _) ?_
 have h1 : (ru (enc (dec L))).length ≤ (enc (dec L)).length := by
  unfold ru
  rw [List.length_reverse]
  refine Nat.le_trans (List.dropWhile_sublist _).length_le ?_
  rw [List.length_reverse]
  exact (List.dropWhile_sublist _).length_le
 exact Nat.le_trans h1 (Dk _ L (Nat.le_refl _))
where
 Dk : ∀ (n : Nat) (L : List UInt8), L.length ≤ n → (enc (dec L)).length ≤ 3 * L.length
  | _, [], _ => by simp [lT, enc]
  | 0, _ :: _, h => by simp at h
  | n + 1, x :: t, h => by
   have hs := nJ x t
   have he : (Lib.encodeRune (rd (x :: t)).1).length ≤ 3 * (rd (x :: t)).2.1.toNat := by
    cases hw : (rd (x :: t)).2.2
    ·rw [(sF x t).2 hw]
     have : (Lib.encodeRune 65533).length = 3 := by decide
     omega
    ·rw [((sF x t).1 hw).2, List.length_take]
     omega
   simp only [List.length_cons] at h
   have ih := Dk n ((x :: t).drop (rd (x :: t)).2.1.toNat) (by rw [List.length_drop, List.length_cons]; omega)
   rw [List.length_drop, List.length_cons] at ih
   rw [iK, fA, List.length_append, List.length_cons]
   omega
end Go.Proofs.YtmpeaoacaecgpaaGreatDoor.acr
namespace Go.Proofs.YtmpeaoacaecgpaaGreatDoor.vZ
open Go.RowKit Base Base2 qh BI acU PrsP acr
def rD (w : World) : Prop := Lib.Utf8Tabs 0 1 w
theorem rD.below {w w' : World} (h : rD w) (hb : Below w.heap.size w w') : rD w' := Utf8Tabs_below h hb
theorem le_any (x : Int) (w : World) : Calls Tryz.prog 57 #[.int .i32 x] w fun e w' => e = .returned (.bool (decide (x ≤ 32))) ∧ w' = w := by
 go_enter Tryz.func57, Tryz.ntmps57
 go_wp2
 go_ret
 exact ⟨rfl, rfl⟩
theorem alb (x : Int) (w : World) : Calls Tryz.prog 59 #[.int .i32 x] w fun e w' => e = .returned (.int .i32 (fz x)) ∧ w' = w := by
 obtain ⟨y, hy⟩ : ∃ y, y = fz x := ⟨_, rfl⟩
 rw [← hy]
 have HY := hid hy
 clear hy
 by_cases h9 : x = 9
 ·subst h9
  go_enter Tryz.func59, Tryz.ntmps59
  go_wp2
  go_ret
  exact ⟨by rw [HY.out]; rfl, rfl⟩
 by_cases h10 : x = 10
 ·subst h10
  go_enter Tryz.func59, Tryz.ntmps59
  go_wp2
  go_ret
  exact ⟨by rw [HY.out]; rfl, rfl⟩
 by_cases h13 : x = 13
 ·subst h13
  go_enter Tryz.func59, Tryz.ntmps59
  go_wp2
  go_ret
  exact ⟨by rw [HY.out]; rfl, rfl⟩
 have q1 : (x == 9) = false := beq_eq_false_iff_ne.2 h9
 have q2 : (x == 10) = false := beq_eq_false_iff_ne.2 h10
 have q3 : (x == 13) = false := beq_eq_false_iff_ne.2 h13
 have HE : Hid (y = x) := by show _ = _; rw [HY.out]; simp [fz, bk, h9, h10, h13]
 go_enter Tryz.func59, Tryz.ntmps59
 go_wp2
 go_ret
 exact ⟨by rw [HE.out]; rfl, rfl⟩
theorem pred (w : World) : PredAt Tryz.prog 57 #[] encR pn w := fun W x _ => (le_any (x : Int) W).mono fun e w' ⟨h1, h2⟩ => ⟨by rw [h1]; unfold pn; congr 2; rw [decide_eq_decide]; omega, 0, h2⟩
theorem maps (w : World) : MapGrows Tryz.prog 59 #[] fz w := fun W x _ _ => (alb (x : Int) W).mono fun e w' ⟨h1, h2⟩ => ⟨h1, by rw [h2]; exact Below.refl _ _⟩
theorem trI_len (l : List Int) : (XM l).length ≤ l.length := by
 unfold XM
 rw [List.length_reverse]
 refine Nat.le_trans (List.dropWhile_sublist _).length_le ?_
 rw [List.length_reverse]
 exact (List.dropWhile_sublist _).length_le
theorem clean_any (T : List UInt8) (w : World) (hs : T.length ≤ 1000000) (hU : rD w) : Calls Tryz.prog 19 #[.string (strOf T)] w fun e w' => e = .returned (.string (strOf (clean T))) ∧ Below w.heap.size w w' := by
 have hlen : (enc (dec T)).length ≤ 3 * T.length := yF.Dk _ T (Nat.le_refl _)
 have hdl : (dec T).length ≤ 3000000 := by have := (iW (dec T)).2; omega
 have hru : ∀ r ∈ dec T, agX r := fun r hr => by have := zU T r hr; unfold Cc at this; unfold agX; omega
 have htl : (enc (XM (dec T))).length ≤ 12000000 := by have h1 := (iW (XM (dec T))).1; have h2 := trI_len (dec T); omega
 have hcc := adb T
 rw [Sr _ (zU T)] at hcc
 have hT : ∀ w : World, rD w → Calls Tryz.prog 56 #[.string (strOf (enc (dec T))), .func (.func 57) #[] #[]] w fun e w' => e = .returned (.string (strOf (enc (XM (dec T))))) ∧ Below w.heap.size w w' := fun w h => by
  have := Tryz.strings_TrimFunc 57 #[] (enters_of Tryz.func57 (by kernel_rfl) rfl) pn (strOf (enc (dec T))) w (by rw [size_strOf]; omega) h (pred w)
  rw [Sr _ (zU T)] at this
  exact this
 have hM : ∀ w : World, rD w → Calls Tryz.prog 58 #[.func (.func 59) #[] #[], .string (strOf (enc (XM (dec T))))] w fun e w' => e = .returned (.string (strOf (clean T))) ∧ Below w.heap.size w w' := fun w h => by
  have := Tryz.strings_Map 59 #[] (enters_of Tryz.func59 (by kernel_rfl) rfl) fz (strOf (enc (XM (dec T)))) w (by rw [size_strOf]; omega) (maps w) (fun x hx => by unfold fz; split <;> omega) h
  rw [hcc] at this
  exact this
 have HT := hid hT
 have HM := hid hM
 have HU := hid hU
 have HRU := hid hru
 clear hT hM hU hcc hru htl
 have hsz : (strOf T).size ≤ 1000000 := by rw [size_strOf]; exact hs
 have hcv := fun (w : World) s => run_bytes_of_string (P := Tryz.prog) w 9 45 5 s Tryz.underlying9 Tryz.underlying45 Tryz.underlying5
 have Gh : Hid ((strOf T).size ≤ grownCap w (strOf T).size 0 5) := grownCap_ge w (strOf T).size 0 5
 go_enter Tryz.func19, Tryz.ntmps19
 go_wp2_with fail
 clear hcv
 refine (qh.decode_any _ (strOf T).size _ T _ (fV (strOf T) _ w 5) (by omega) Gh.out).mono ?_
 rintro e w2 ⟨v, rfl, hown, hb2⟩
 have HB2 : Hid (Below w.heap.size w w2) := bel (((Below.refl w.heap.size w).alloc (Nat.le_refl _) _).drew) hb2
 clear hb2 Gh
 obtain ⟨A, c, rfl, hc, hm, hr⟩ := aJ hown
 have HR := hid hr
 clear hown hr
 go_wp2_with fail
 refine (BI.eF A _ c (dec T) _ HR.out HRU.out (by omega)).mono ?_
 rintro e w3 ⟨v, rfl, hown, hb3⟩
 have HB3 := hid (bel HB2.out hb3)
 clear hb3 HR
 obtain ⟨A3, c3, rfl, hc3, hm3, hr3⟩ := aJ hown
 have hst := aF 45 9 5 Tryz.underlying45 Tryz.underlying5 Tryz.underlying9 _ c3 hr3
 clear hown hr3
 go_wp2_with fail
 clear hst
 refine (HT.out _ (HU.out.below HB3.out)).mono ?_
 rintro e w4 ⟨rfl, hb4⟩
 have HB4 := hid (bel HB3.out hb4)
 clear hb4
 go_wp2_with fail
 refine (HM.out _ (HU.out.below HB4.out)).mono ?_
 rintro e w5 ⟨rfl, hb5⟩
 have iG := hid (bel HB4.out hb5)
 clear hb5
 go_wp2
 go_ret
 exact ⟨rfl, iG.out⟩
end Go.Proofs.YtmpeaoacaecgpaaGreatDoor.vZ
