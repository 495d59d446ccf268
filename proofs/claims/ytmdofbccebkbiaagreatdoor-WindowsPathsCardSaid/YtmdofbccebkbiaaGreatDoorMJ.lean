/- Texts that belong together: Yb, PrsF. -/
import Derived.Test.YtmdofbccebkbiaaGreatDoorMI
set_option linter.unusedSimpArgs false
set_option linter.unusedVariables false
set_option maxRecDepth 100000
set_option maxHeartbeats 64000000
namespace Go.Proofs.YtmdofbccebkbiaaGreatDoor.Yb
open Go.RowKit Base eH aT dM iT kX Ei xK Ou pR Ba oW mY lI uY Oo LW wR uT aI AZ sJ Eh zV zU Ce
theorem wE (L : List UInt8) (w : World) : Calls Tryz.prog 87 #[.string (strOf L), .string (cs true)] w fun e w' => e = .returned (.string (strOf (L.dropWhile (eY true)))) ∧ Below w.heap.size w w' := by
 refine (Tryz.strings_TrimLeft_set (strOf L) (cs true) w (by decide) (fun j b h => ?_)).mono ?_
 ·have : b ∈ [47, 92] := List.mem_of_getElem? h
  simp only [List.mem_cons, List.not_mem_nil, or_false] at this
  rcases this with rfl | rfl <;> decide
 ·rintro e w2 ⟨rfl, hb⟩
  refine ⟨?_, hb⟩
  rw [show (strOf L).data.toList = L from rfl, show (cs true).data.toList = [47, 92] from rfl]
  unfold Lib.trimLeftS
  congr 3
  have : (fun c => [47, 92].contains c) = eY true := by
   funext c
   simp [eY]
  rw [this]
theorem F9 (T : List UInt8) (w : World) (hs : T.length ≤ 900000) (hL : nP w) (hT : Tab.Pow w) (hM : Max w) : Calls Tryz.prog 151 #[.string (strOf T)] w (mG w (far T)) := by
 obtain ⟨O, hO⟩ : ∃ O, O = far T := ⟨_, rfl⟩
 rw [← hO]
 obtain ⟨X, hX⟩ : ∃ X, X = T.take (upto true T) := ⟨_, rfl⟩
 obtain ⟨D, hD⟩ : ∃ D, D = T.drop (upto true T) := ⟨_, rfl⟩
 have hXl : X.length ≤ 900000 := by rw [hX, List.length_take]; omega
 have hDl : D.length ≤ 900000 := by rw [hD, List.length_drop]; omega
 have hU : ∀ w : World, Calls Tryz.prog 159 #[.string ⟨#[102, 105, 108, 101]⟩, .string (strOf T)] w fun e w' => e = .returned (.tuple #[.string (strOf X), .string (strOf D)]) ∧ Below w.heap.size w w' := fun w => by rw [hX, hD]; exact LC (strOf FILE) (strOf T) w (dI (by omega))
 unfold far at hO
 rw [← hX, ← hD] at hO
 have HO := hid hO
 have HU := hid hU
 have HDR : Hid (∀ w : World, Calls Tryz.prog 201 #[.string (strOf X)] w fun e w' => e = .returned (.bool (drv X)) ∧ w = w') := fun w => jF (strOf X) w
 have VK : Hid (∀ (L : List UInt8) (w : World), L.length ≤ 900000 → Calls Tryz.prog 158 #[.string ⟨#[102, 105, 108, 101]⟩, .string (strOf L)] w (jL w.heap.size w (rooted FILE L))) := fun L w h => vZ (strOf FILE) (strOf L) w (dI h)
 have HH : Hid (∀ w : World, nP w → Tab.Pow w → Max w → Calls Tryz.prog 162 #[.string (strOf X), .bool true] w fun e w' => e = .returned (HV (hst X true)) ∧ Below w.heap.size w w') := fun w a b d => wR.parse_any (strOf X) true w (dI hXl) a b d
 have HL := hid hL
 have HT := hid hT
 have HM := hid hM
 clear hO hU hX hD hL hT hM hXl
 go_enter Tryz.func151, Tryz.ntmps151
 go_upto_region 1 with (fail)
 generalize hw : World.alloc w _ = w1
 have h1 : UB w1 (w.heap.size) (U0) (.slice none 0 0) ∧ Below w.heap.size w w1 := by
  subst hw
  exact laid1 w _ _
 clear hw
 have bG : Hid (w.heap.size ≤ w.heap.size) := (Below.refl w.heap.size w).size
 have bU := hid (bel (Below.refl w.heap.size w) h1.2)
 have aY := hid h1.1
 clear h1
 go_upto_region 2 with (fail)
 generalize hw : World.alloc w1 _ = w2
 have h1 : UB w2 (w1.heap.size) (uF) (.slice none 0 0) ∧ Below w1.heap.size w1 w2 := by
  subst hw
  exact laid1 w1 _ _
 clear hw
 have hlr := aY.out.lt
 have aO : Hid (w.heap.size ≠ w1.heap.size) := by show _ ≠ _; omega
 have nS : Hid (w1.heap.size ≠ w.heap.size) := by show _ ≠ _; omega
 clear hlr
 have dN : Hid (w.heap.size ≤ w1.heap.size) := bU.out.size
 have bT := hid (aY.out.below h1.2)
 have dY := hid (bel bU.out h1.2)
 have fF := hid h1.1
 clear aY bU
 clear h1
 go_wp2_with fail
 refine (HU.out _).mono ?_
 rintro e w3 ⟨rfl, hbx⟩
 have bD := hid (bT.out.below hbx)
 have dS := hid (fF.out.below hbx)
 have dD := hid (bel dY.out hbx)
 clear bT fF dY
 clear hbx
 cases hd : drv X with
 | true =>
  have l9 : Hid (O = some { uF with aF := rooted FILE T }) := by show _ = _; rw [HO.out, if_pos hd]
  rw [hd] at HDR
  clear hd
  go_wp2_with fail
  refine (HDR.out _).mono ?_
  rintro e wx ⟨rfl, hwx⟩
  obtain rfl : w3 = wx := by first | exact hwx | exact hwx.symm
  clear hwx
  go_wp2_with fail
  refine (VK.out T _ hs).mono ?_
  rintro e w4 ⟨q, rfl, hown, hbx⟩
  obtain ⟨Aq, cq, rfl, hq⟩ := bI (u := { U0 with aF := rooted FILE T }) hown
  clear hq
  replace hown := ay hown (Nat.le_refl _)
  have sH : Hid (w1.heap.size < w3.heap.size) := dS.out.lt
  have fK : Hid (w.heap.size < w3.heap.size) := bD.out.lt
  have bg := hid (bD.out.below hbx)
  have bV := hid (dS.out.below hbx)
  have bZ := hid (bel dD.out hbx)
  have GI := hid hown
  clear hown
  clear bD dS dD
  clear hbx
  have wX := sH.out
  have cx := bV.out.facts.2.2.2.2.2.2.2.2.1
  have fx := bV.out.thaw.2.2.2.2.2.2.2.2.1
  go_upto_region 12 with (fail)
  have hxr := bg.out.set (k := w1.heap.size) (i := 8) (.slice Aq (rooted FILE T).length cq) (aO.out)
  have hxu := bV.out.path (.slice Aq (rooted FILE T).length cq)
  have hoq := eF.aB (w' := w4.setCell ⟨w1.heap.size, 8, none⟩ (.slice Aq (rooted FILE T).length cq)) (gb := w1.heap.size) GI.out (fun k hk => heap_setCell_other _ _ _ _ hk) (by omega)
  have hb := bZ.out.setCell (p := ⟨w1.heap.size, 8, none⟩) (dN.out) (.slice Aq (rooted FILE T).length cq)
  clear bg bV GI bZ
  clear cx fx
  generalize World.setCell w4 _ _ = w5 at hxr hxu hoq hb ⊢
  have bf : Hid (UB w5 (w.heap.size) (U0) (.slice none 0 0)) := hxr
  clear hxr
  have aX : Hid (UB w5 (w1.heap.size) (uF) (.slice Aq (rooted FILE T).length cq)) := hxu
  clear hxu
  have Cb := hid hoq
  clear hoq
  have dQ := hid hb
  clear hb
  clear wX
  obtain ⟨c0, c1, c2', c3, c4, c5, c6, c7, c8, c9, c10, c11, c12⟩ := aX.out.facts
  go_wp2_with (refine ak bf.out (uF) Aq (rooted FILE T).length cq (.tmp 2) (.tmp 35) rfl rfl rfl rfl ?_)
  try simp only [Exit.inBlock, Exit.then]
  have hpo : ∀ k, k ≠ w.heap.size → (World.setRow w5 (w.heap.size) (cells (uF) (.slice Aq (rooted FILE T).length cq))).heap[k]? = w5.heap[k]? := fun k hk => setRow_other _ _ _ _ hk
  have ho := ay (eF.aB Cb.out hpo fK.out) (by have h1 := bG.out; have h2 := fK.out; omega : w.heap.size ≤ _)
  exact bodyPost_ret (w := World.setRow w5 w.heap.size (cells (uF) (.slice Aq (rooted FILE T).length cq))) (res2 (u := uF) (p := .slice Aq (rooted FILE T).length cq) rfl (bf.out.row (uF) _) true _ rfl rfl) rfl (dJ (u := { uF with aF := rooted FILE T }) l9.out (below_setRow dQ.out bG.out _) ho)
 | false =>
  have jQ : Hid (O = if X = [] then some { uF with aF := rooted FILE D } else match hst X true with | none => none | some H => some { uF with hst := if H = LOCAL then [] else H, aF := rooted FILE D }) := by show _ = _; rw [HO.out, if_neg (by rw [hd]; simp)]; first | done | rfl
  rw [hd] at HDR
  clear hd HO
  go_wp2_with fail
  refine (HDR.out _).mono ?_
  rintro e wx ⟨rfl, hwx⟩
  obtain rfl : w3 = wx := by first | exact hwx | exact hwx.symm
  clear hwx
  by_cases h0 : X = []
  ·
   have l9 : Hid (O = some { uF with aF := rooted FILE D }) := by show _ = _; rw [jQ.out, if_pos h0]
   have q0 : ((strOf X).toList == []) = true := by rw [aW, h0]; rfl
   have q1 : (strOf X).toList = [] := by rw [aW, h0]
   clear h0
   go_wp2_with fail
   refine (VK.out D _ hDl).mono ?_
   rintro e w4 ⟨q, rfl, hown, hbx⟩
   obtain ⟨Aq, cq, rfl, hq⟩ := bI (u := { U0 with aF := rooted FILE D }) hown
   clear hq
   replace hown := ay hown (Nat.le_refl _)
   have sH : Hid (w1.heap.size < w3.heap.size) := dS.out.lt
   have fK : Hid (w.heap.size < w3.heap.size) := bD.out.lt
   have bg := hid (bD.out.below hbx)
   have bV := hid (dS.out.below hbx)
   have bZ := hid (bel dD.out hbx)
   have GI := hid hown
   clear hown
   clear bD dS dD
   clear hbx
   have wX := sH.out
   have cx := bV.out.facts.2.2.2.2.2.2.2.2.1
   have fx := bV.out.thaw.2.2.2.2.2.2.2.2.1
   go_upto_region 12 with (fail)
   have hxr := bg.out.set (k := w1.heap.size) (i := 8) (.slice Aq (rooted FILE D).length cq) (aO.out)
   have hxu := bV.out.path (.slice Aq (rooted FILE D).length cq)
   have hoq := eF.aB (w' := w4.setCell ⟨w1.heap.size, 8, none⟩ (.slice Aq (rooted FILE D).length cq)) (gb := w1.heap.size) GI.out (fun k hk => heap_setCell_other _ _ _ _ hk) (by omega)
   have hb := bZ.out.setCell (p := ⟨w1.heap.size, 8, none⟩) (dN.out) (.slice Aq (rooted FILE D).length cq)
   clear bg bV GI bZ
   clear cx fx
   generalize World.setCell w4 _ _ = w5 at hxr hxu hoq hb ⊢
   have bf : Hid (UB w5 (w.heap.size) (U0) (.slice none 0 0)) := hxr
   clear hxr
   have aX : Hid (UB w5 (w1.heap.size) (uF) (.slice Aq (rooted FILE D).length cq)) := hxu
   clear hxu
   have Cb := hid hoq
   clear hoq
   have dQ := hid hb
   clear hb
   clear wX
   obtain ⟨c0, c1, c2', c3, c4, c5, c6, c7, c8, c9, c10, c11, c12⟩ := aX.out.facts
   go_wp2_with (refine ak bf.out (uF) Aq (rooted FILE D).length cq (.tmp 2) (.tmp 35) rfl rfl rfl rfl ?_)
   try simp only [Exit.inBlock, Exit.then]
   have hpo : ∀ k, k ≠ w.heap.size → (World.setRow w5 (w.heap.size) (cells (uF) (.slice Aq (rooted FILE D).length cq))).heap[k]? = w5.heap[k]? := fun k hk => setRow_other _ _ _ _ hk
   have ho := ay (eF.aB Cb.out hpo fK.out) (by have h1 := bG.out; have h2 := fK.out; omega : w.heap.size ≤ _)
   exact bodyPost_ret (w := World.setRow w5 w.heap.size (cells (uF) (.slice Aq (rooted FILE D).length cq))) (res2 (u := uF) (p := .slice Aq (rooted FILE D).length cq) rfl (bf.out.row (uF) _) true _ rfl rfl) rfl (dJ (u := { uF with aF := rooted FILE D }) l9.out (below_setRow dQ.out bG.out _) ho)
  ·
   have iH : Hid (O = match hst X true with | none => none | some H => some { uF with hst := if H = LOCAL then [] else H, aF := rooted FILE D }) := by show _ = _; rw [jQ.out, if_neg h0]
   have q0 : ((strOf X).toList == []) = false := by rw [aW, beq_eq_false_iff_ne]; exact h0
   have q1 : ¬ (strOf X).toList = [] := by rw [aW]; exact h0
   have q2 : (strOf X).toList.isEmpty = false := by rw [aW]; simpa using h0
   clear h0 jQ
   cases hx : hst X true with
   | none =>
    have mM : Hid (O = none) := by show _ = _; rw [iH.out, hx]
    rw [hx] at HH
    clear hx
    go_wp2_with fail
    refine (HH.out _ (HL.out.below dD.out) (bJ HT.out dD.out) (HM.out.below dD.out)).mono ?_
    rintro e w4 ⟨rfl, hbx⟩
    have bg := hid (bD.out.below hbx)
    have bV := hid (dS.out.below hbx)
    have bZ := hid (bel dD.out hbx)
    clear bD dS dD
    clear hbx
    rw [show HV none = .tuple #[.string (strOf []), .bool false] from rfl]
    go_wp2_with (refine ak bg.out U0 none 0 0 (.tmp 2) (.tmp 27) rfl rfl rfl rfl ?_)
    try simp only [Exit.inBlock, Exit.then]
    exact bodyPost_ret (w := World.setRow w4 w.heap.size (cells U0 (.slice none 0 0))) (res2 (u := U0) (p := .slice none 0 0) rfl (bg.out.row U0 _) false _ rfl rfl) rfl (gU mM.out (below_setRow bZ.out bG.out _))
   | some H =>
    have JW : Hid (O = some { uF with hst := if H = LOCAL then [] else H, aF := rooted FILE D }) := by show _ = _; rw [iH.out, hx]
    rw [hx] at HH
    clear hx iH
    go_wp2_with fail
    refine (HH.out _ (HL.out.below dD.out) (bJ HT.out dD.out) (HM.out.below dD.out)).mono ?_
    rintro e w4 ⟨rfl, hbx⟩
    have bg := hid (bD.out.below hbx)
    have bV := hid (dS.out.below hbx)
    have bZ := hid (bel dD.out hbx)
    clear bD dS dD
    clear hbx
    rw [show HV (some H) = .tuple #[.string (strOf H), .bool true] from rfl]
    skip
    by_cases hl : H = LOCAL
    ·
     have l9 : Hid (O = some { uF with aF := rooted FILE D }) := by show _ = _; rw [JW.out, if_pos hl]; rfl
     have l0 : ((strOf H).toList == [108, 111, 99, 97, 108, 104, 111, 115, 116]) = true := by rw [aW, hl]; rfl
     have l1 : (strOf H).toList = [108, 111, 99, 97, 108, 104, 111, 115, 116] := by rw [aW, hl]; rfl
     clear hl
     go_wp2_with fail
     refine (VK.out D _ hDl).mono ?_
     rintro e w5 ⟨q, rfl, hown, hbx⟩
     obtain ⟨Aq, cq, rfl, hq⟩ := bI (u := { U0 with aF := rooted FILE D }) hown
     clear hq
     replace hown := ay hown (Nat.le_refl _)
     have sH : Hid (w1.heap.size < w4.heap.size) := bV.out.lt
     have fK : Hid (w.heap.size < w4.heap.size) := bg.out.lt
     have bf := hid (bg.out.below hbx)
     have aX := hid (bV.out.below hbx)
     have dQ := hid (bel bZ.out hbx)
     have Cb := hid hown
     clear hown
     clear bg bV bZ
     clear hbx
     have wX := sH.out
     have cx := aX.out.facts.2.2.2.2.2.2.2.2.1
     have fx := aX.out.thaw.2.2.2.2.2.2.2.2.1
     go_upto_region 12 with (fail)
     have hxr := bf.out.set (k := w1.heap.size) (i := 8) (.slice Aq (rooted FILE D).length cq) (aO.out)
     have hxu := aX.out.path (.slice Aq (rooted FILE D).length cq)
     have hoq := eF.aB (w' := w5.setCell ⟨w1.heap.size, 8, none⟩ (.slice Aq (rooted FILE D).length cq)) (gb := w1.heap.size) Cb.out (fun k hk => heap_setCell_other _ _ _ _ hk) (by omega)
     have hb := dQ.out.setCell (p := ⟨w1.heap.size, 8, none⟩) (dN.out) (.slice Aq (rooted FILE D).length cq)
     clear bf aX Cb dQ
     clear cx fx
     generalize World.setCell w5 _ _ = w6 at hxr hxu hoq hb ⊢
     have bF : Hid (UB w6 (w.heap.size) (U0) (.slice none 0 0)) := hxr
     clear hxr
     have aV : Hid (UB w6 (w1.heap.size) (uF) (.slice Aq (rooted FILE D).length cq)) := hxu
     clear hxu
     have qH := hid hoq
     clear hoq
     have dZ := hid hb
     clear hb
     clear wX
     obtain ⟨c0, c1, c2', c3, c4, c5, c6, c7, c8, c9, c10, c11, c12⟩ := aV.out.facts
     go_wp2_with (refine ak bF.out (uF) Aq (rooted FILE D).length cq (.tmp 2) (.tmp 35) rfl rfl rfl rfl ?_)
     try simp only [Exit.inBlock, Exit.then]
     have hpo : ∀ k, k ≠ w.heap.size → (World.setRow w6 (w.heap.size) (cells (uF) (.slice Aq (rooted FILE D).length cq))).heap[k]? = w6.heap[k]? := fun k hk => setRow_other _ _ _ _ hk
     have ho := ay (eF.aB qH.out hpo fK.out) (by have h1 := bG.out; have h2 := fK.out; omega : w.heap.size ≤ _)
     exact bodyPost_ret (w := World.setRow w6 w.heap.size (cells (uF) (.slice Aq (rooted FILE D).length cq))) (res2 (u := uF) (p := .slice Aq (rooted FILE D).length cq) rfl (bF.out.row (uF) _) true _ rfl rfl) rfl (dJ (u := { uF with aF := rooted FILE D }) l9.out (below_setRow dZ.out bG.out _) ho)
    ·
     have l9 : Hid (O = some { uF with hst := H, aF := rooted FILE D }) := by show _ = _; rw [JW.out, if_neg hl]
     have l0 : ((strOf H).toList == [108, 111, 99, 97, 108, 104, 111, 115, 116]) = false := by rw [aW, beq_eq_false_iff_ne]; exact hl
     have l1 : ¬ (strOf H).toList = [108, 111, 99, 97, 108, 104, 111, 115, 116] := by rw [aW]; exact hl
     clear hl
     have cx := bV.out.facts.2.2.2.1
     have fx := bV.out.thaw.2.2.2.1
     go_upto_region 11 with (fail)
     have hxr := bg.out.set (k := w1.heap.size) (i := 3) (.string (strOf H)) (aO.out)
     have hxu := bV.out.hst H
     have hb := bZ.out.setCell (p := ⟨w1.heap.size, 3, none⟩) (dN.out) (.string (strOf H))
     clear bg bV bZ
     clear cx fx
     generalize World.setCell w4 _ _ = w5 at hxr hxu hb ⊢
     have bf : Hid (UB w5 (w.heap.size) (U0) (.slice none 0 0)) := hxr
     clear hxr
     have aX : Hid (UB w5 (w1.heap.size) ({ uF with hst := H }) (.slice none 0 0)) := hxu
     clear hxu
     have dQ := hid hb
     clear hb
     go_wp2_with fail
     refine (VK.out D _ hDl).mono ?_
     rintro e w6 ⟨q, rfl, hown, hbx⟩
     obtain ⟨Aq, cq, rfl, hq⟩ := bI (u := { U0 with aF := rooted FILE D }) hown
     clear hq
     replace hown := ay hown (Nat.le_refl _)
     have sH : Hid (w1.heap.size < w5.heap.size) := aX.out.lt
     have fK : Hid (w.heap.size < w5.heap.size) := bf.out.lt
     have bF := hid (bf.out.below hbx)
     have aV := hid (aX.out.below hbx)
     have dZ := hid (bel dQ.out hbx)
     have qH := hid hown
     clear hown
     clear bf aX dQ
     clear hbx
     have wX := sH.out
     have cx := aV.out.facts.2.2.2.2.2.2.2.2.1
     have fx := aV.out.thaw.2.2.2.2.2.2.2.2.1
     go_upto_region 12 with (fail)
     have hxr := bF.out.set (k := w1.heap.size) (i := 8) (.slice Aq (rooted FILE D).length cq) (aO.out)
     have hxu := aV.out.path (.slice Aq (rooted FILE D).length cq)
     have hoq := eF.aB (w' := w6.setCell ⟨w1.heap.size, 8, none⟩ (.slice Aq (rooted FILE D).length cq)) (gb := w1.heap.size) qH.out (fun k hk => heap_setCell_other _ _ _ _ hk) (by omega)
     have hb := dZ.out.setCell (p := ⟨w1.heap.size, 8, none⟩) (dN.out) (.slice Aq (rooted FILE D).length cq)
     clear bF aV qH dZ
     clear cx fx
     generalize World.setCell w6 _ _ = w7 at hxr hxu hoq hb ⊢
     have cu : Hid (UB w7 (w.heap.size) (U0) (.slice none 0 0)) := hxr
     clear hxr
     have cZ : Hid (UB w7 (w1.heap.size) ({ uF with hst := H }) (.slice Aq (rooted FILE D).length cq)) := hxu
     clear hxu
     have iW := hid hoq
     clear hoq
     have fZ := hid hb
     clear hb
     clear wX
     obtain ⟨c0, c1, c2', c3, c4, c5, c6, c7, c8, c9, c10, c11, c12⟩ := cZ.out.facts
     go_wp2_with (refine ak cu.out ({ uF with hst := H }) Aq (rooted FILE D).length cq (.tmp 2) (.tmp 35) rfl rfl rfl rfl ?_)
     try simp only [Exit.inBlock, Exit.then]
     have hpo : ∀ k, k ≠ w.heap.size → (World.setRow w7 (w.heap.size) (cells ({ uF with hst := H }) (.slice Aq (rooted FILE D).length cq))).heap[k]? = w7.heap[k]? := fun k hk => setRow_other _ _ _ _ hk
     have ho := ay (eF.aB iW.out hpo fK.out) (by have h1 := bG.out; have h2 := fK.out; omega : w.heap.size ≤ _)
     exact bodyPost_ret (w := World.setRow w7 w.heap.size (cells ({ uF with hst := H }) (.slice Aq (rooted FILE D).length cq))) (res2 (u := { uF with hst := H }) (p := .slice Aq (rooted FILE D).length cq) rfl (cu.out.row ({ uF with hst := H }) _) true _ rfl rfl) rfl (dJ (u := { uF with hst := H, aF := rooted FILE D }) l9.out (below_setRow fZ.out bG.out _) ho)
end Go.Proofs.YtmdofbccebkbiaaGreatDoor.Yb
namespace Go.Proofs.YtmdofbccebkbiaaGreatDoor.PrsF
open Go.RowKit Base eH aT dM iT kX Ei xK Ou pR Ba oW mY lI uY Oo LW wR uT aI AZ sJ Eh zV zU Ce PthD Yb
theorem KG (T : List UInt8) (w : World) (hs : T.length ≤ 700000) (hL : nP w) (hT : Tab.Pow w) (hM : Max w) : Calls Tryz.prog 83 #[.string (strOf T), .pointer none] w (mG w (file T none)) := by
 obtain ⟨O, hO⟩ : ∃ O, O = file T none := ⟨_, rfl⟩
 rw [← hO]
 obtain ⟨s0, hs0⟩ : ∃ x, x = pq true T 0 := ⟨_, rfl⟩
 obtain ⟨s1, hs1⟩ : ∃ x, x = pq true T 1 := ⟨_, rfl⟩
 unfold file at hO
 rw [← hs0, ← hs1] at hO
 have hlen0 : s0 = true → 1 ≤ T.length := fun h => by
  rw [h] at hs0
  by_cases h2 : 0 < T.length
  ·omega
  ·rw [um _ _ _ h2] at hs0; cases hs0
 have Oe := hid hlen0
 have hlen : s1 = true → 2 ≤ T.length := fun h => by
  rw [h] at hs1
  by_cases h2 : 1 < T.length
  ·omega
  ·rw [um _ _ _ h2] at hs1; cases hs1
 have HLEN := hid hlen
 have JX : Hid (∀ w : World, Calls Tryz.prog 150 #[.string ⟨#[102, 105, 108, 101]⟩, .string (strOf T), .int .i64 0] w fun e w' => e = .returned (.bool s0) ∧ Below w.heap.size w w') := fun w => by rw [hs0]; exact jW (strOf FILE) (strOf T) 0 w (by omega)
 have HS1 : Hid (∀ w : World, Calls Tryz.prog 150 #[.string ⟨#[102, 105, 108, 101]⟩, .string (strOf T), .int .i64 1] w fun e w' => e = .returned (.bool s1) ∧ Below w.heap.size w w') := fun w => by rw [hs1]; exact jW (strOf FILE) (strOf T) 1 w (by omega)
 have HO := hid hO
 have HFA : Hid (∀ (L : List UInt8) (w : World), L.length ≤ 900000 → nP w → Tab.Pow w → Max w → Calls Tryz.prog 151 #[.string (strOf L)] w (mG w (far L))) := fun L w h a c d => F9 L w h a c d
 have HBG : Hid (∀ (L : List UInt8) (w : World), L.length ≤ 900000 → Calls Tryz.prog 153 #[.string (strOf L)] w fun e w' => e = .returned (.bool (D8 L)) ∧ w = w') := fun L w h => G5 (strOf L) w (dI (by omega))
 have HWK : Hid (∀ (A : Option Addr) (n c : Nat) (l : List ByteArray) (L : List UInt8) (w : World), bK w A n (l.map Value.string) → n ≤ c → c ≤ maxLen → n + L.length ≤ 900000 → Calls Tryz.prog 156 #[.string ⟨#[102, 105, 108, 101]⟩, .slice A n c, .string (strOf L)] w (jL w.heap.size w (walk FILE l L))) := fun A n c l L w h1 h2 h3 h4 => walk_any (strOf FILE) A n c l (strOf L) w h1 h2 h3 (by rw [ah]; exact h4)
 have HL := hid hL
 have HT := hid hT
 have HM := hid hM
 clear hO hs0 hs1 hlen hlen0 hL hT hM
 go_enter Tryz.func83, Tryz.ntmps83
 go_upto_region 1 with (fail)
 generalize hw : World.alloc w _ = w1
 have h1 : UB w1 (w.heap.size) (U0) (.slice none 0 0) ∧ Below w.heap.size w w1 := by
  subst hw
  exact laid1 w _ _
 clear hw
 have bG : Hid (w.heap.size ≤ w.heap.size) := (Below.refl w.heap.size w).size
 have bU := hid (bel (Below.refl w.heap.size w) h1.2)
 have aY := hid h1.1
 clear h1
 go_wp2_with fail
 refine (JX.out _).mono ?_
 rintro e w2 ⟨rfl, hbx⟩
 have bT := hid (aY.out.below hbx)
 have dY := hid (bel bU.out hbx)
 clear aY bU
 clear hbx
 cases s0 with
 | true =>
  go_wp2_with fail
  refine (HS1.out _).mono ?_
  rintro e w3 ⟨rfl, hbx⟩
  have bD := hid (bT.out.below hbx)
  have dD := hid (bel dY.out hbx)
  clear bT dY
  clear hbx
  cases s1 with
  | true =>
   have hl2 := HLEN.out (by simp)
   have iH : Hid (O = far (T.drop 2)) := by show _ = _; rw [HO.out, if_pos (by simp)]
   obtain ⟨T2, hT2⟩ : ∃ x, x = T.drop 2 := ⟨_, rfl⟩
   have hx2 : (strOf T).extract 2 (strOf T).size = strOf T2 := by rw [kH, hT2]; rfl
   have Ze : (2 : Int) ≤ ((strOf T).size : Int) := by rw [ah]; omega
   rw [← hT2] at iH
   have MX : T2.length ≤ 800000 := by rw [hT2, List.length_drop]; omega
   clear hT2 hl2
   go_wp2_with fail
   clear hx2
   refine (HFA.out _ _ (by omega) (HL.out.below dD.out) (bJ HT.out dD.out) (HM.out.below dD.out)).mono ?_
   rintro e w4 ⟨hbx, u', A', n', c', ok, rfl, hown, yu⟩
   have fK : Hid (w.heap.size < w3.heap.size) := bD.out.lt
   have HOW := hid hown
   have Ee := hid yu
   clear hown yu
   have bg := hid (bD.out.below hbx)
   have bZ := hid (bel dD.out hbx)
   have FP : Hid (w.heap.size ≤ w3.heap.size) := dD.out.size
   clear bD dD
   clear hbx
   go_wp2_with (refine ak bg.out u' A' n' c' (.tmp 4) (.tmp 17) rfl rfl rfl rfl ?_)
   try simp only [Exit.inBlock, Exit.then]
   exact bodyPost_ret (w := World.setRow w4 w.heap.size (cells u' (.slice A' n' c'))) (res2 (u := u') (p := .slice A' n' c') rfl (bg.out.row u' _) ok _ rfl rfl) rfl ⟨below_setRow bZ.out bG.out _, u', A', n', c', ok, rfl, (HOW.out.row fK.out _).base FP.out, by rw [iH.out]; exact Ee.out⟩
  | false =>
   have hl1 := Oe.out (by simp)
   have iH : Hid (O = some { uF with aF := walk FILE [] (T.drop 1) }) := by show _ = _; rw [HO.out, if_neg (by simp), if_pos (by simp)]; first | done | rfl | (congr 2; simp)
   obtain ⟨T2, hT2⟩ : ∃ x, x = T.drop 1 := ⟨_, rfl⟩
   have hx2 : (strOf T).extract 1 (strOf T).size = strOf T2 := by rw [kH, hT2]; rfl
   have Ze : (1 : Int) ≤ ((strOf T).size : Int) := by rw [ah]; omega
   rw [← hT2] at iH
   have MX : T2.length ≤ 800000 := by rw [hT2, List.length_drop]; omega
   clear hT2 hl1
   go_upto_region 4 with (fail)
   generalize hw : World.alloc w3 _ = w4
   have h1 : UB w4 (w3.heap.size) (uF) (.slice none 0 0) ∧ Below w3.heap.size w3 w4 := by
    subst hw
    exact laid1 w3 _ _
   clear hw
   have hlr := bD.out.lt
   have aO : Hid (w.heap.size ≠ w3.heap.size) := by show _ ≠ _; omega
   have nS : Hid (w3.heap.size ≠ w.heap.size) := by show _ ≠ _; omega
   clear hlr
   have dN : Hid (w.heap.size ≤ w3.heap.size) := dD.out.size
   have bg := hid (bD.out.below h1.2)
   have bZ := hid (bel dD.out h1.2)
   have bV := hid h1.1
   clear bD dD
   clear h1
   go_wp2_with fail
   refine (JX.out _).mono ?_
   rintro e w5 ⟨rfl, hbx⟩
   have bf := hid (bg.out.below hbx)
   have aX := hid (bV.out.below hbx)
   have dQ := hid (bel bZ.out hbx)
   clear bg bV bZ
   clear hbx
   go_wp2_with fail
   clear hx2
   refine (HWK.out none 0 0 [] T2 _ (bK.nil _) (Nat.le_refl _) (Nat.zero_le _) (by omega)).mono ?_
   rintro e w6 ⟨q, rfl, hown, hbx⟩
   obtain ⟨Aq, cq, rfl, hq⟩ := bI (u := { U0 with aF := walk FILE [] T2 }) hown
   clear hq
   replace hown := ay hown (Nat.le_refl _)
   have sH : Hid (w3.heap.size < w5.heap.size) := aX.out.lt
   have fK : Hid (w.heap.size < w5.heap.size) := bf.out.lt
   have bF := hid (bf.out.below hbx)
   have aV := hid (aX.out.below hbx)
   have dZ := hid (bel dQ.out hbx)
   have qH := hid hown
   clear hown
   clear bf aX dQ
   clear hbx
   have wX := sH.out
   have cx := aV.out.facts.2.2.2.2.2.2.2.2.1
   have fx := aV.out.thaw.2.2.2.2.2.2.2.2.1
   go_upto_region 18 with (fail)
   have hxr := bF.out.set (k := w3.heap.size) (i := 8) (.slice Aq (walk FILE [] T2).length cq) (aO.out)
   have hxu := aV.out.path (.slice Aq (walk FILE [] T2).length cq)
   have hoq := eF.aB (w' := w6.setCell ⟨w3.heap.size, 8, none⟩ (.slice Aq (walk FILE [] T2).length cq)) (gb := w3.heap.size) qH.out (fun k hk => heap_setCell_other _ _ _ _ hk) (by omega)
   have hb := dZ.out.setCell (p := ⟨w3.heap.size, 8, none⟩) (dN.out) (.slice Aq (walk FILE [] T2).length cq)
   clear bF aV qH dZ
   clear cx fx
   generalize World.setCell w6 _ _ = w7 at hxr hxu hoq hb ⊢
   have cu : Hid (UB w7 (w.heap.size) (U0) (.slice none 0 0)) := hxr
   clear hxr
   have cZ : Hid (UB w7 (w3.heap.size) (uF) (.slice Aq (walk FILE [] T2).length cq)) := hxu
   clear hxu
   have iW := hid hoq
   clear hoq
   have fZ := hid hb
   clear hb
   clear wX
   obtain ⟨c0, c1, c2', c3, c4, c5, c6, c7, c8, c9, c10, c11, c12⟩ := cZ.out.facts
   go_wp2_with (refine ak cu.out (uF) Aq (walk FILE [] T2).length cq (.tmp 4) (.tmp 72) rfl rfl rfl rfl ?_)
   try simp only [Exit.inBlock, Exit.then]
   have hpo : ∀ k, k ≠ w.heap.size → (World.setRow w7 (w.heap.size) (cells (uF) (.slice Aq (walk FILE [] T2).length cq))).heap[k]? = w7.heap[k]? := fun k hk => setRow_other _ _ _ _ hk
   have ho := ay (eF.aB iW.out hpo fK.out) (by have h1 := bG.out; have h2 := fK.out; omega : w.heap.size ≤ _)
   exact bodyPost_ret (w := World.setRow w7 w.heap.size (cells (uF) (.slice Aq (walk FILE [] T2).length cq))) (res2 (u := uF) (p := .slice Aq (walk FILE [] T2).length cq) rfl (cu.out.row (uF) _) true _ rfl rfl) rfl (dJ (u := { uF with aF := walk FILE [] T2 }) iH.out (below_setRow fZ.out bG.out _) ho)
 | false =>
  clear HLEN Oe HS1
  have jQ : Hid (O = some { uF with aF := walk FILE (if D8 T = true then [] else kK true []) T }) := by show _ = _; rw [HO.out, if_neg (by simp), if_neg (by simp)]
  clear HO
  go_upto_region 4 with (fail)
  generalize hw : World.alloc w2 _ = w3
  have h1 : UB w3 (w2.heap.size) (uF) (.slice none 0 0) ∧ Below w2.heap.size w2 w3 := by
   subst hw
   exact laid1 w2 _ _
  clear hw
  have hlr := bT.out.lt
  have aO : Hid (w.heap.size ≠ w2.heap.size) := by show _ ≠ _; omega
  have nS : Hid (w2.heap.size ≠ w.heap.size) := by show _ ≠ _; omega
  clear hlr
  have dN : Hid (w.heap.size ≤ w2.heap.size) := dY.out.size
  have bD := hid (bT.out.below h1.2)
  have dD := hid (bel dY.out h1.2)
  have dS := hid h1.1
  clear bT dY
  clear h1
  go_wp2_with fail
  refine (JX.out _).mono ?_
  rintro e w4 ⟨rfl, hbx⟩
  have bg := hid (bD.out.below hbx)
  have bV := hid (dS.out.below hbx)
  have bZ := hid (bel dD.out hbx)
  clear bD dS dD
  clear hbx
  cases hb : D8 T with
  | true =>
   have HB1 := HBG.out T
   rw [hb] at HB1
   have HB2 := hid HB1
   have iH : Hid (O = some { uF with aF := walk FILE [] T }) := by show _ = _; rw [jQ.out, hb]; rfl
   clear HB1 hb jQ
   go_wp2_with fail
   refine (HB2.out _ (by omega)).mono ?_
   rintro e wx ⟨rfl, hwx⟩
   obtain rfl : w4 = wx := by first | exact hwx | exact hwx.symm
   clear hwx
   go_wp2_with fail
   refine (HWK.out none 0 0 [] T _ (bK.nil _) (Nat.le_refl _) (Nat.zero_le _) (by omega)).mono ?_
   rintro e w5 ⟨q, rfl, hown, hbx⟩
   obtain ⟨Aq, cq, rfl, hq⟩ := bI (u := { U0 with aF := walk FILE [] T }) hown
   clear hq
   replace hown := ay hown (Nat.le_refl _)
   have sH : Hid (w2.heap.size < w4.heap.size) := bV.out.lt
   have fK : Hid (w.heap.size < w4.heap.size) := bg.out.lt
   have bf := hid (bg.out.below hbx)
   have aX := hid (bV.out.below hbx)
   have dQ := hid (bel bZ.out hbx)
   have Cb := hid hown
   clear hown
   clear bg bV bZ
   clear hbx
   have wX := sH.out
   have cx := aX.out.facts.2.2.2.2.2.2.2.2.1
   have fx := aX.out.thaw.2.2.2.2.2.2.2.2.1
   go_upto_region 18 with (fail)
   have hxr := bf.out.set (k := w2.heap.size) (i := 8) (.slice Aq (walk FILE [] T).length cq) (aO.out)
   have hxu := aX.out.path (.slice Aq (walk FILE [] T).length cq)
   have hoq := eF.aB (w' := w5.setCell ⟨w2.heap.size, 8, none⟩ (.slice Aq (walk FILE [] T).length cq)) (gb := w2.heap.size) Cb.out (fun k hk => heap_setCell_other _ _ _ _ hk) (by omega)
   have hb := dQ.out.setCell (p := ⟨w2.heap.size, 8, none⟩) (dN.out) (.slice Aq (walk FILE [] T).length cq)
   clear bf aX Cb dQ
   clear cx fx
   generalize World.setCell w5 _ _ = w6 at hxr hxu hoq hb ⊢
   have bF : Hid (UB w6 (w.heap.size) (U0) (.slice none 0 0)) := hxr
   clear hxr
   have aV : Hid (UB w6 (w2.heap.size) (uF) (.slice Aq (walk FILE [] T).length cq)) := hxu
   clear hxu
   have qH := hid hoq
   clear hoq
   have dZ := hid hb
   clear hb
   clear wX
   obtain ⟨c0, c1, c2', c3, c4, c5, c6, c7, c8, c9, c10, c11, c12⟩ := aV.out.facts
   go_wp2_with (refine ak bF.out (uF) Aq (walk FILE [] T).length cq (.tmp 4) (.tmp 72) rfl rfl rfl rfl ?_)
   try simp only [Exit.inBlock, Exit.then]
   have hpo : ∀ k, k ≠ w.heap.size → (World.setRow w6 (w.heap.size) (cells (uF) (.slice Aq (walk FILE [] T).length cq))).heap[k]? = w6.heap[k]? := fun k hk => setRow_other _ _ _ _ hk
   have ho := ay (eF.aB qH.out hpo fK.out) (by have h1 := bG.out; have h2 := fK.out; omega : w.heap.size ≤ _)
   exact bodyPost_ret (w := World.setRow w6 w.heap.size (cells (uF) (.slice Aq (walk FILE [] T).length cq))) (res2 (u := uF) (p := .slice Aq (walk FILE [] T).length cq) rfl (bF.out.row (uF) _) true _ rfl rfl) rfl (dJ (u := { uF with aF := walk FILE [] T }) iH.out (below_setRow dZ.out bG.out _) ho)
  | false =>
   have HB1 := HBG.out T
   rw [hb] at HB1
   have HB2 := hid HB1
   have iH : Hid (O = some { uF with aF := walk FILE [] T }) := by show _ = _; rw [jQ.out, hb]; rfl
   clear HB1 hb jQ
   go_wp2_with fail
   refine (HB2.out _ (by omega)).mono ?_
   rintro e wx ⟨rfl, hwx⟩
   obtain rfl : w4 = wx := by first | exact hwx | exact hwx.symm
   clear hwx
   go_wp2_with fail
   refine (yO true none 0 0 [] _ (bK.nil _) (Nat.le_refl _) (Nat.zero_le _) (by omega)).mono ?_
   rintro e w5 ⟨v, rfl, hown, hbx⟩
   obtain ⟨A4, c4, rfl, h4, h5, h6⟩ := aU hown
   have bf := hid (bg.out.below hbx)
   have aX := hid (bV.out.below hbx)
   have dQ := hid (bel bZ.out hbx)
   clear bg bV bZ
   clear hbx hown
   rw [show kK true [] = [] from rfl] at h4 h6 ⊢
   go_wp2_with fail
   refine (HWK.out A4 _ c4 [] T _ h6 h4 h5 (by simp; omega)).mono ?_
   rintro e w6 ⟨q, rfl, hown, hbx⟩
   obtain ⟨Aq, cq, rfl, hq⟩ := bI (u := { U0 with aF := walk FILE [] T }) hown
   clear hq
   replace hown := ay hown (Nat.le_refl _)
   have sH : Hid (w2.heap.size < w5.heap.size) := aX.out.lt
   have fK : Hid (w.heap.size < w5.heap.size) := bf.out.lt
   have bF := hid (bf.out.below hbx)
   have aV := hid (aX.out.below hbx)
   have dZ := hid (bel dQ.out hbx)
   have qH := hid hown
   clear hown
   clear bf aX dQ
   clear hbx
   have wX := sH.out
   have cx := aV.out.facts.2.2.2.2.2.2.2.2.1
   have fx := aV.out.thaw.2.2.2.2.2.2.2.2.1
   go_upto_region 18 with (fail)
   have hxr := bF.out.set (k := w2.heap.size) (i := 8) (.slice Aq (walk FILE [] T).length cq) (aO.out)
   have hxu := aV.out.path (.slice Aq (walk FILE [] T).length cq)
   have hoq := eF.aB (w' := w6.setCell ⟨w2.heap.size, 8, none⟩ (.slice Aq (walk FILE [] T).length cq)) (gb := w2.heap.size) qH.out (fun k hk => heap_setCell_other _ _ _ _ hk) (by omega)
   have hb := dZ.out.setCell (p := ⟨w2.heap.size, 8, none⟩) (dN.out) (.slice Aq (walk FILE [] T).length cq)
   clear bF aV qH dZ
   clear cx fx
   generalize World.setCell w6 _ _ = w7 at hxr hxu hoq hb ⊢
   have cu : Hid (UB w7 (w.heap.size) (U0) (.slice none 0 0)) := hxr
   clear hxr
   have cZ : Hid (UB w7 (w2.heap.size) (uF) (.slice Aq (walk FILE [] T).length cq)) := hxu
   clear hxu
   have iW := hid hoq
   clear hoq
   have fZ := hid hb
   clear hb
   clear wX
   obtain ⟨c0, c1, c2', c3, c4, c5, c6, c7, c8, c9, c10, c11, c12⟩ := cZ.out.facts
   go_wp2_with (refine ak cu.out (uF) Aq (walk FILE [] T).length cq (.tmp 4) (.tmp 72) rfl rfl rfl rfl ?_)
   try simp only [Exit.inBlock, Exit.then]
   have hpo : ∀ k, k ≠ w.heap.size → (World.setRow w7 (w.heap.size) (cells (uF) (.slice Aq (walk FILE [] T).length cq))).heap[k]? = w7.heap[k]? := fun k hk => setRow_other _ _ _ _ hk
   have ho := ay (eF.aB iW.out hpo fK.out) (by have h1 := bG.out; have h2 := fK.out; omega : w.heap.size ≤ _)
   exact bodyPost_ret (w := World.setRow w7 w.heap.size (cells (uF) (.slice Aq (walk FILE [] T).length cq))) (res2 (u := uF) (p := .slice Aq (walk FILE [] T).length cq) rfl (cu.out.row (uF) _) true _ rfl rfl) rfl (dJ (u := { uF with aF := walk FILE [] T }) iH.out (below_setRow fZ.out bG.out _) ho)
end Go.Proofs.YtmdofbccebkbiaaGreatDoor.PrsF
