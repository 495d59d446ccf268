/- Texts that belong together: aaO, PrsF. -/
import Derived.Test.YtcfgioklgmlclaaGreatDoorMI
set_option linter.unusedSimpArgs false
set_option linter.unusedVariables false
set_option maxRecDepth 100000
set_option maxHeartbeats 64000000
namespace Go.Proofs.YtcfgioklgmlclaaGreatDoor.aaO
open Go.RowKit Base fZ aP eX fE pV G7 xZ Qy pU AO qM ng kX zN Uk Qu AA Fh aH xX tq Ej tZ AL Em
theorem wS (L : List UInt8) (w : World) : Calls Tryz.prog 100 #[.string (strOf L), .string (cs true)] w fun e w' => e = .returned (.string (strOf (L.dropWhile (fP true)))) ∧ Below w.heap.size w w' := by
 refine (Tryz.strings_TrimLeft_set (strOf L) (cs true) w (by decide) (fun j b h => ?_)).mono ?_
 ·have : b ∈ [47, 92] := List.mem_of_getElem? h
  simp only [List.mem_cons, List.not_mem_nil, or_false] at this
  rcases this with rfl | rfl <;> decide
 ·rintro e w2 ⟨rfl, hb⟩
  refine ⟨?_, hb⟩
  rw [show (strOf L).data.toList = L from rfl, show (cs true).data.toList = [47, 92] from rfl]
  unfold Lib.trimLeftS
  congr 3
  have : (fun c => [47, 92].contains c) = fP true := by
   funext c
   simp [fP]
  rw [this]
theorem Xb (T : List UInt8) (w : World) (hs : T.length ≤ 900000) (hL : pR w) (hT : Tab.Pow w) (hM : Max w) : Calls Tryz.prog 146 #[.string (strOf T)] w (mG w (far T)) := by
 obtain ⟨O, hO⟩ : ∃ O, O = far T := ⟨_, rfl⟩
 rw [← hO]
 obtain ⟨X, hX⟩ : ∃ X, X = T.take (upto true T) := ⟨_, rfl⟩
 obtain ⟨D, hD⟩ : ∃ D, D = T.drop (upto true T) := ⟨_, rfl⟩
 have hXl : X.length ≤ 900000 := by rw [hX, List.length_take]; omega
 have hDl : D.length ≤ 900000 := by rw [hD, List.length_drop]; omega
 have hU : ∀ w : World, Calls Tryz.prog 155 #[.string ⟨#[102, 105, 108, 101]⟩, .string (strOf T)] w fun e w' => e = .returned (.tuple #[.string (strOf X), .string (strOf D)]) ∧ Below w.heap.size w w' := fun w => by rw [hX, hD]; exact MO (strOf FILE) (strOf T) w (fC (by omega))
 unfold far at hO
 rw [← hX, ← hD] at hO
 have HO := hid hO
 have HU := hid hU
 have HDR : Hid (∀ w : World, Calls Tryz.prog 184 #[.string (strOf X)] w fun e w' => e = .returned (.bool (drv X)) ∧ w = w') := fun w => jL (strOf X) w
 have Ce : Hid (∀ (L : List UInt8) (w : World), L.length ≤ 900000 → Calls Tryz.prog 154 #[.string ⟨#[102, 105, 108, 101]⟩, .string (strOf L)] w (jT w.heap.size w (rooted FILE L))) := fun L w h => wM (strOf FILE) (strOf L) w (fC h)
 have HH : Hid (∀ w : World, pR w → Tab.Pow w → Max w → Calls Tryz.prog 158 #[.string (strOf X), .bool true] w fun e w' => e = .returned (HV (hst X true)) ∧ Below w.heap.size w w') := fun w a b d => AA.parse_any (strOf X) true w (fC hXl) a b d
 have HL := hid hL
 have HT := hid hT
 have HM := hid hM
 clear hO hU hX hD hL hT hM hXl
 go_enter Tryz.func146, Tryz.ntmps146
 go_upto_region 1 with (fail)
 generalize hw : World.alloc w _ = w1
 have h1 : UB w1 (w.heap.size) (U0) (.slice none 0 0) ∧ Below w.heap.size w w1 := by
  subst hw
  exact laid1 w _ _
 clear hw
 have bU : Hid (w.heap.size ≤ w.heap.size) := (Below.refl w.heap.size w).size
 have dn := hid (bel (Below.refl w.heap.size w) h1.2)
 have bJ := hid h1.1
 clear h1
 go_upto_region 2 with (fail)
 generalize hw : World.alloc w1 _ = w2
 have h1 : UB w2 (w1.heap.size) (uF) (.slice none 0 0) ∧ Below w1.heap.size w1 w2 := by
  subst hw
  exact laid1 w1 _ _
 clear hw
 have hlr := bJ.out.lt
 have aU : Hid (w.heap.size ≠ w1.heap.size) := by show _ ≠ _; omega
 have nU : Hid (w1.heap.size ≠ w.heap.size) := by show _ ≠ _; omega
 clear hlr
 have dU : Hid (w.heap.size ≤ w1.heap.size) := dn.out.size
 have dh := hid (bJ.out.below h1.2)
 have eY := hid (bel dn.out h1.2)
 have fK := hid h1.1
 clear bJ dn
 clear h1
 go_wp2_with fail
 refine (HU.out _).mono ?_
 rintro e w3 ⟨rfl, hbx⟩
 have bQ := hid (dh.out.below hbx)
 have eG := hid (fK.out.below hbx)
 have dL := hid (bel eY.out hbx)
 clear dh fK eY
 clear hbx
 cases hd : drv X with
 | true =>
  have kW : Hid (O = some { uF with aN := rooted FILE T }) := by show _ = _; rw [HO.out, if_pos hd]
  rw [hd] at HDR
  clear hd
  go_wp2_with fail
  refine (HDR.out _).mono ?_
  rintro e wx ⟨rfl, hwx⟩
  obtain rfl : w3 = wx := by first | exact hwx | exact hwx.symm
  clear hwx
  go_wp2_with fail
  refine (Ce.out T _ hs).mono ?_
  rintro e w4 ⟨q, rfl, hown, hbx⟩
  obtain ⟨Aq, cq, rfl, hq⟩ := bY (u := { U0 with aN := rooted FILE T }) hown
  clear hq
  replace hown := aF hown (Nat.le_refl _)
  have sZ : Hid (w1.heap.size < w3.heap.size) := eG.out.lt
  have fV : Hid (w.heap.size < w3.heap.size) := bQ.out.lt
  have bP := hid (bQ.out.below hbx)
  have dA := hid (eG.out.below hbx)
  have dH := hid (bel dL.out hbx)
  have GU := hid hown
  clear hown
  clear bQ eG dL
  clear hbx
  have xG := sZ.out
  have cx := dA.out.facts.2.2.2.2.2.2.2.2.1
  have fx := dA.out.thaw.2.2.2.2.2.2.2.2.1
  go_upto_region 12 with (fail)
  have hxr := bP.out.set (k := w1.heap.size) (i := 8) (.slice Aq (rooted FILE T).length cq) (aU.out)
  have hxu := dA.out.path (.slice Aq (rooted FILE T).length cq)
  have hoq := fH.aC (w' := w4.setCell ⟨w1.heap.size, 8, none⟩ (.slice Aq (rooted FILE T).length cq)) (gb := w1.heap.size) GU.out (fun k hk => heap_setCell_other _ _ _ _ hk) (by omega)
  have hb := dH.out.setCell (p := ⟨w1.heap.size, 8, none⟩) (dU.out) (.slice Aq (rooted FILE T).length cq)
  clear bP dA GU dH
  clear cx fx
  generalize World.setCell w4 _ _ = w5 at hxr hxu hoq hb ⊢
  have bM : Hid (UB w5 (w.heap.size) (U0) (.slice none 0 0)) := hxr
  clear hxr
  have bG : Hid (UB w5 (w1.heap.size) (uF) (.slice Aq (rooted FILE T).length cq)) := hxu
  clear hxu
  have Cb := hid hoq
  clear hoq
  have dZ := hid hb
  clear hb
  clear xG
  obtain ⟨c0, c1, c2', c3, c4, c5, c6, c7, c8, c9, c10, c11, c12⟩ := bG.out.facts
  go_wp2_with (refine au bM.out (uF) Aq (rooted FILE T).length cq (.tmp 2) (.tmp 35) rfl rfl rfl rfl ?_)
  try simp only [Exit.inBlock, Exit.then]
  have hpo : ∀ k, k ≠ w.heap.size → (World.setRow w5 (w.heap.size) (cells (uF) (.slice Aq (rooted FILE T).length cq))).heap[k]? = w5.heap[k]? := fun k hk => setRow_other _ _ _ _ hk
  have ho := aF (fH.aC Cb.out hpo fV.out) (by have h1 := bU.out; have h2 := fV.out; omega : w.heap.size ≤ _)
  exact bodyPost_ret (w := World.setRow w5 w.heap.size (cells (uF) (.slice Aq (rooted FILE T).length cq))) (res2 (u := uF) (p := .slice Aq (rooted FILE T).length cq) rfl (bM.out.row (uF) _) true _ rfl rfl) rfl (dP (u := { uF with aN := rooted FILE T }) kW.out (below_setRow dZ.out bU.out _) ho)
 | false =>
  have jI : Hid (O = if X = [] then some { uF with aN := rooted FILE D } else match hst X true with | none => none | some H => some { uF with hst := if H = LOCAL then [] else H, aN := rooted FILE D }) := by show _ = _; rw [HO.out, if_neg (by rw [hd]; simp)]; first | done | rfl
  rw [hd] at HDR
  clear hd HO
  go_wp2_with fail
  refine (HDR.out _).mono ?_
  rintro e wx ⟨rfl, hwx⟩
  obtain rfl : w3 = wx := by first | exact hwx | exact hwx.symm
  clear hwx
  by_cases h0 : X = []
  ·
   have kW : Hid (O = some { uF with aN := rooted FILE D }) := by show _ = _; rw [jI.out, if_pos h0]
   have q0 : ((strOf X).toList == []) = true := by rw [aK, h0]; rfl
   have q1 : (strOf X).toList = [] := by rw [aK, h0]
   clear h0
   go_wp2_with fail
   refine (Ce.out D _ hDl).mono ?_
   rintro e w4 ⟨q, rfl, hown, hbx⟩
   obtain ⟨Aq, cq, rfl, hq⟩ := bY (u := { U0 with aN := rooted FILE D }) hown
   clear hq
   replace hown := aF hown (Nat.le_refl _)
   have sZ : Hid (w1.heap.size < w3.heap.size) := eG.out.lt
   have fV : Hid (w.heap.size < w3.heap.size) := bQ.out.lt
   have bP := hid (bQ.out.below hbx)
   have dA := hid (eG.out.below hbx)
   have dH := hid (bel dL.out hbx)
   have GU := hid hown
   clear hown
   clear bQ eG dL
   clear hbx
   have xG := sZ.out
   have cx := dA.out.facts.2.2.2.2.2.2.2.2.1
   have fx := dA.out.thaw.2.2.2.2.2.2.2.2.1
   go_upto_region 12 with (fail)
   have hxr := bP.out.set (k := w1.heap.size) (i := 8) (.slice Aq (rooted FILE D).length cq) (aU.out)
   have hxu := dA.out.path (.slice Aq (rooted FILE D).length cq)
   have hoq := fH.aC (w' := w4.setCell ⟨w1.heap.size, 8, none⟩ (.slice Aq (rooted FILE D).length cq)) (gb := w1.heap.size) GU.out (fun k hk => heap_setCell_other _ _ _ _ hk) (by omega)
   have hb := dH.out.setCell (p := ⟨w1.heap.size, 8, none⟩) (dU.out) (.slice Aq (rooted FILE D).length cq)
   clear bP dA GU dH
   clear cx fx
   generalize World.setCell w4 _ _ = w5 at hxr hxu hoq hb ⊢
   have bM : Hid (UB w5 (w.heap.size) (U0) (.slice none 0 0)) := hxr
   clear hxr
   have bG : Hid (UB w5 (w1.heap.size) (uF) (.slice Aq (rooted FILE D).length cq)) := hxu
   clear hxu
   have Cb := hid hoq
   clear hoq
   have dZ := hid hb
   clear hb
   clear xG
   obtain ⟨c0, c1, c2', c3, c4, c5, c6, c7, c8, c9, c10, c11, c12⟩ := bG.out.facts
   go_wp2_with (refine au bM.out (uF) Aq (rooted FILE D).length cq (.tmp 2) (.tmp 35) rfl rfl rfl rfl ?_)
   try simp only [Exit.inBlock, Exit.then]
   have hpo : ∀ k, k ≠ w.heap.size → (World.setRow w5 (w.heap.size) (cells (uF) (.slice Aq (rooted FILE D).length cq))).heap[k]? = w5.heap[k]? := fun k hk => setRow_other _ _ _ _ hk
   have ho := aF (fH.aC Cb.out hpo fV.out) (by have h1 := bU.out; have h2 := fV.out; omega : w.heap.size ≤ _)
   exact bodyPost_ret (w := World.setRow w5 w.heap.size (cells (uF) (.slice Aq (rooted FILE D).length cq))) (res2 (u := uF) (p := .slice Aq (rooted FILE D).length cq) rfl (bM.out.row (uF) _) true _ rfl rfl) rfl (dP (u := { uF with aN := rooted FILE D }) kW.out (below_setRow dZ.out bU.out _) ho)
  ·
   have ig : Hid (O = match hst X true with | none => none | some H => some { uF with hst := if H = LOCAL then [] else H, aN := rooted FILE D }) := by show _ = _; rw [jI.out, if_neg h0]
   have q0 : ((strOf X).toList == []) = false := by rw [aK, beq_eq_false_iff_ne]; exact h0
   have q1 : ¬ (strOf X).toList = [] := by rw [aK]; exact h0
   have q2 : (strOf X).toList.isEmpty = false := by rw [aK]; simpa using h0
   clear h0 jI
   cases hx : hst X true with
   | none =>
    have oD : Hid (O = none) := by show _ = _; rw [ig.out, hx]
    rw [hx] at HH
    clear hx
    go_wp2_with fail
    refine (HH.out _ (HL.out.below dL.out) (cO HT.out dL.out) (HM.out.below dL.out)).mono ?_
    rintro e w4 ⟨rfl, hbx⟩
    have bP := hid (bQ.out.below hbx)
    have dA := hid (eG.out.below hbx)
    have dH := hid (bel dL.out hbx)
    clear bQ eG dL
    clear hbx
    rw [show HV none = .tuple #[.string (strOf []), .bool false] from rfl]
    go_wp2_with (refine au bP.out U0 none 0 0 (.tmp 2) (.tmp 27) rfl rfl rfl rfl ?_)
    try simp only [Exit.inBlock, Exit.then]
    exact bodyPost_ret (w := World.setRow w4 w.heap.size (cells U0 (.slice none 0 0))) (res2 (u := U0) (p := .slice none 0 0) rfl (bP.out.row U0 _) false _ rfl rfl) rfl (iw oD.out (below_setRow dH.out bU.out _))
   | some H =>
    have GN : Hid (O = some { uF with hst := if H = LOCAL then [] else H, aN := rooted FILE D }) := by show _ = _; rw [ig.out, hx]
    rw [hx] at HH
    clear hx ig
    go_wp2_with fail
    refine (HH.out _ (HL.out.below dL.out) (cO HT.out dL.out) (HM.out.below dL.out)).mono ?_
    rintro e w4 ⟨rfl, hbx⟩
    have bP := hid (bQ.out.below hbx)
    have dA := hid (eG.out.below hbx)
    have dH := hid (bel dL.out hbx)
    clear bQ eG dL
    clear hbx
    rw [show HV (some H) = .tuple #[.string (strOf H), .bool true] from rfl]
    skip
    by_cases hl : H = LOCAL
    ·
     have kW : Hid (O = some { uF with aN := rooted FILE D }) := by show _ = _; rw [GN.out, if_pos hl]; rfl
     have l0 : ((strOf H).toList == [108, 111, 99, 97, 108, 104, 111, 115, 116]) = true := by rw [aK, hl]; rfl
     have l1 : (strOf H).toList = [108, 111, 99, 97, 108, 104, 111, 115, 116] := by rw [aK, hl]; rfl
     clear hl
     go_wp2_with fail
     refine (Ce.out D _ hDl).mono ?_
     rintro e w5 ⟨q, rfl, hown, hbx⟩
     obtain ⟨Aq, cq, rfl, hq⟩ := bY (u := { U0 with aN := rooted FILE D }) hown
     clear hq
     replace hown := aF hown (Nat.le_refl _)
     have sZ : Hid (w1.heap.size < w4.heap.size) := dA.out.lt
     have fV : Hid (w.heap.size < w4.heap.size) := bP.out.lt
     have bM := hid (bP.out.below hbx)
     have bG := hid (dA.out.below hbx)
     have dZ := hid (bel dH.out hbx)
     have Cb := hid hown
     clear hown
     clear bP dA dH
     clear hbx
     have xG := sZ.out
     have cx := bG.out.facts.2.2.2.2.2.2.2.2.1
     have fx := bG.out.thaw.2.2.2.2.2.2.2.2.1
     go_upto_region 12 with (fail)
     have hxr := bM.out.set (k := w1.heap.size) (i := 8) (.slice Aq (rooted FILE D).length cq) (aU.out)
     have hxu := bG.out.path (.slice Aq (rooted FILE D).length cq)
     have hoq := fH.aC (w' := w5.setCell ⟨w1.heap.size, 8, none⟩ (.slice Aq (rooted FILE D).length cq)) (gb := w1.heap.size) Cb.out (fun k hk => heap_setCell_other _ _ _ _ hk) (by omega)
     have hb := dZ.out.setCell (p := ⟨w1.heap.size, 8, none⟩) (dU.out) (.slice Aq (rooted FILE D).length cq)
     clear bM bG Cb dZ
     clear cx fx
     generalize World.setCell w5 _ _ = w6 at hxr hxu hoq hb ⊢
     have bT : Hid (UB w6 (w.heap.size) (U0) (.slice none 0 0)) := hxr
     clear hxr
     have bD : Hid (UB w6 (w1.heap.size) (uF) (.slice Aq (rooted FILE D).length cq)) := hxu
     clear hxu
     have qJ := hid hoq
     clear hoq
     have fA := hid hb
     clear hb
     clear xG
     obtain ⟨c0, c1, c2', c3, c4, c5, c6, c7, c8, c9, c10, c11, c12⟩ := bD.out.facts
     go_wp2_with (refine au bT.out (uF) Aq (rooted FILE D).length cq (.tmp 2) (.tmp 35) rfl rfl rfl rfl ?_)
     try simp only [Exit.inBlock, Exit.then]
     have hpo : ∀ k, k ≠ w.heap.size → (World.setRow w6 (w.heap.size) (cells (uF) (.slice Aq (rooted FILE D).length cq))).heap[k]? = w6.heap[k]? := fun k hk => setRow_other _ _ _ _ hk
     have ho := aF (fH.aC qJ.out hpo fV.out) (by have h1 := bU.out; have h2 := fV.out; omega : w.heap.size ≤ _)
     exact bodyPost_ret (w := World.setRow w6 w.heap.size (cells (uF) (.slice Aq (rooted FILE D).length cq))) (res2 (u := uF) (p := .slice Aq (rooted FILE D).length cq) rfl (bT.out.row (uF) _) true _ rfl rfl) rfl (dP (u := { uF with aN := rooted FILE D }) kW.out (below_setRow fA.out bU.out _) ho)
    ·
     have kW : Hid (O = some { uF with hst := H, aN := rooted FILE D }) := by show _ = _; rw [GN.out, if_neg hl]
     have l0 : ((strOf H).toList == [108, 111, 99, 97, 108, 104, 111, 115, 116]) = false := by rw [aK, beq_eq_false_iff_ne]; exact hl
     have l1 : ¬ (strOf H).toList = [108, 111, 99, 97, 108, 104, 111, 115, 116] := by rw [aK]; exact hl
     clear hl
     have cx := dA.out.facts.2.2.2.1
     have fx := dA.out.thaw.2.2.2.1
     go_upto_region 11 with (fail)
     have hxr := bP.out.set (k := w1.heap.size) (i := 3) (.string (strOf H)) (aU.out)
     have hxu := dA.out.hst H
     have hb := dH.out.setCell (p := ⟨w1.heap.size, 3, none⟩) (dU.out) (.string (strOf H))
     clear bP dA dH
     clear cx fx
     generalize World.setCell w4 _ _ = w5 at hxr hxu hb ⊢
     have bM : Hid (UB w5 (w.heap.size) (U0) (.slice none 0 0)) := hxr
     clear hxr
     have bG : Hid (UB w5 (w1.heap.size) ({ uF with hst := H }) (.slice none 0 0)) := hxu
     clear hxu
     have dZ := hid hb
     clear hb
     go_wp2_with fail
     refine (Ce.out D _ hDl).mono ?_
     rintro e w6 ⟨q, rfl, hown, hbx⟩
     obtain ⟨Aq, cq, rfl, hq⟩ := bY (u := { U0 with aN := rooted FILE D }) hown
     clear hq
     replace hown := aF hown (Nat.le_refl _)
     have sZ : Hid (w1.heap.size < w5.heap.size) := bG.out.lt
     have fV : Hid (w.heap.size < w5.heap.size) := bM.out.lt
     have bT := hid (bM.out.below hbx)
     have bD := hid (bG.out.below hbx)
     have fA := hid (bel dZ.out hbx)
     have qJ := hid hown
     clear hown
     clear bM bG dZ
     clear hbx
     have xG := sZ.out
     have cx := bD.out.facts.2.2.2.2.2.2.2.2.1
     have fx := bD.out.thaw.2.2.2.2.2.2.2.2.1
     go_upto_region 12 with (fail)
     have hxr := bT.out.set (k := w1.heap.size) (i := 8) (.slice Aq (rooted FILE D).length cq) (aU.out)
     have hxu := bD.out.path (.slice Aq (rooted FILE D).length cq)
     have hoq := fH.aC (w' := w6.setCell ⟨w1.heap.size, 8, none⟩ (.slice Aq (rooted FILE D).length cq)) (gb := w1.heap.size) qJ.out (fun k hk => heap_setCell_other _ _ _ _ hk) (by omega)
     have hb := fA.out.setCell (p := ⟨w1.heap.size, 8, none⟩) (dU.out) (.slice Aq (rooted FILE D).length cq)
     clear bT bD qJ fA
     clear cx fx
     generalize World.setCell w6 _ _ = w7 at hxr hxu hoq hb ⊢
     have dI : Hid (UB w7 (w.heap.size) (U0) (.slice none 0 0)) := hxr
     clear hxr
     have dJ : Hid (UB w7 (w1.heap.size) ({ uF with hst := H }) (.slice Aq (rooted FILE D).length cq)) := hxu
     clear hxu
     have jc := hid hoq
     clear hoq
     have gQ := hid hb
     clear hb
     clear xG
     obtain ⟨c0, c1, c2', c3, c4, c5, c6, c7, c8, c9, c10, c11, c12⟩ := dJ.out.facts
     go_wp2_with (refine au dI.out ({ uF with hst := H }) Aq (rooted FILE D).length cq (.tmp 2) (.tmp 35) rfl rfl rfl rfl ?_)
     try simp only [Exit.inBlock, Exit.then]
     have hpo : ∀ k, k ≠ w.heap.size → (World.setRow w7 (w.heap.size) (cells ({ uF with hst := H }) (.slice Aq (rooted FILE D).length cq))).heap[k]? = w7.heap[k]? := fun k hk => setRow_other _ _ _ _ hk
     have ho := aF (fH.aC jc.out hpo fV.out) (by have h1 := bU.out; have h2 := fV.out; omega : w.heap.size ≤ _)
     exact bodyPost_ret (w := World.setRow w7 w.heap.size (cells ({ uF with hst := H }) (.slice Aq (rooted FILE D).length cq))) (res2 (u := { uF with hst := H }) (p := .slice Aq (rooted FILE D).length cq) rfl (dI.out.row ({ uF with hst := H }) _) true _ rfl rfl) rfl (dP (u := { uF with hst := H, aN := rooted FILE D }) kW.out (below_setRow gQ.out bU.out _) ho)
end Go.Proofs.YtcfgioklgmlclaaGreatDoor.aaO
namespace Go.Proofs.YtcfgioklgmlclaaGreatDoor.PrsF
open Go.RowKit Base fZ aP eX fE pV G7 xZ Qy pU AO qM ng kX zN Uk Qu AA Fh aH xX tq Ej tZ AL Em PthD aaO
theorem Lj (T : List UInt8) (w : World) (hs : T.length ≤ 700000) (hL : pR w) (hT : Tab.Pow w) (hM : Max w) : Calls Tryz.prog 96 #[.string (strOf T), .pointer none] w (mG w (file T none)) := by
 obtain ⟨O, hO⟩ : ∃ O, O = file T none := ⟨_, rfl⟩
 rw [← hO]
 obtain ⟨s0, hs0⟩ : ∃ x, x = pq true T 0 := ⟨_, rfl⟩
 obtain ⟨s1, hs1⟩ : ∃ x, x = pq true T 1 := ⟨_, rfl⟩
 unfold file at hO
 rw [← hs0, ← hs1] at hO
 have hlen0 : s0 = true → 1 ≤ T.length := fun h => by
  rw [h] at hs0
  by_cases h2 : 0 < T.length
  ·omega
  ·rw [uO _ _ _ h2] at hs0; cases hs0
 have Ql := hid hlen0
 have hlen : s1 = true → 2 ≤ T.length := fun h => by
  rw [h] at hs1
  by_cases h2 : 1 < T.length
  ·omega
  ·rw [uO _ _ _ h2] at hs1; cases hs1
 have HLEN := hid hlen
 have HS0 : Hid (∀ w : World, Calls Tryz.prog 145 #[.string ⟨#[102, 105, 108, 101]⟩, .string (strOf T), .int .i64 0] w fun e w' => e = .returned (.bool s0) ∧ Below w.heap.size w w') := fun w => by rw [hs0]; exact kE (strOf FILE) (strOf T) 0 w (by omega)
 have FT : Hid (∀ w : World, Calls Tryz.prog 145 #[.string ⟨#[102, 105, 108, 101]⟩, .string (strOf T), .int .i64 1] w fun e w' => e = .returned (.bool s1) ∧ Below w.heap.size w w') := fun w => by rw [hs1]; exact kE (strOf FILE) (strOf T) 1 w (by omega)
 have HO := hid hO
 have HFA : Hid (∀ (L : List UInt8) (w : World), L.length ≤ 900000 → pR w → Tab.Pow w → Max w → Calls Tryz.prog 146 #[.string (strOf L)] w (mG w (far L))) := fun L w h a c d => Xb L w h a c d
 have HBG : Hid (∀ (L : List UInt8) (w : World), L.length ≤ 900000 → Calls Tryz.prog 149 #[.string (strOf L)] w fun e w' => e = .returned (.bool (Fp L)) ∧ w = w') := fun L w h => Ho (strOf L) w (fC (by omega))
 have HWK : Hid (∀ (A : Option Addr) (n c : Nat) (l : List ByteArray) (L : List UInt8) (w : World), dS w A n (l.map Value.string) → n ≤ c → c ≤ maxLen → n + L.length ≤ 900000 → Calls Tryz.prog 152 #[.string ⟨#[102, 105, 108, 101]⟩, .slice A n c, .string (strOf L)] w (jT w.heap.size w (walk FILE l L))) := fun A n c l L w h1 h2 h3 h4 => walk_any (strOf FILE) A n c l (strOf L) w h1 h2 h3 (by rw [ah]; exact h4)
 have HL := hid hL
 have HT := hid hT
 have HM := hid hM
 clear hO hs0 hs1 hlen hlen0 hL hT hM
 go_enter Tryz.func96, Tryz.ntmps96
 go_upto_region 1 with (fail)
 generalize hw : World.alloc w _ = w1
 have h1 : UB w1 (w.heap.size) (U0) (.slice none 0 0) ∧ Below w.heap.size w w1 := by
  subst hw
  exact laid1 w _ _
 clear hw
 have bU : Hid (w.heap.size ≤ w.heap.size) := (Below.refl w.heap.size w).size
 have dn := hid (bel (Below.refl w.heap.size w) h1.2)
 have bJ := hid h1.1
 clear h1
 go_wp2_with fail
 refine (HS0.out _).mono ?_
 rintro e w2 ⟨rfl, hbx⟩
 have dh := hid (bJ.out.below hbx)
 have eY := hid (bel dn.out hbx)
 clear bJ dn
 clear hbx
 cases s0 with
 | true =>
  go_wp2_with fail
  refine (FT.out _).mono ?_
  rintro e w3 ⟨rfl, hbx⟩
  have bQ := hid (dh.out.below hbx)
  have dL := hid (bel eY.out hbx)
  clear dh eY
  clear hbx
  cases s1 with
  | true =>
   have hl2 := HLEN.out (by simp)
   have ig : Hid (O = far (T.drop 2)) := by show _ = _; rw [HO.out, if_pos (by simp)]
   obtain ⟨T2, hT2⟩ : ∃ x, x = T.drop 2 := ⟨_, rfl⟩
   have hx2 : (strOf T).extract 2 (strOf T).size = strOf T2 := by rw [kP, hT2]; rfl
   have hkI : (2 : Int) ≤ ((strOf T).size : Int) := by rw [ah]; omega
   rw [← hT2] at ig
   have Ol : T2.length ≤ 800000 := by rw [hT2, List.length_drop]; omega
   clear hT2 hl2
   go_wp2_with fail
   clear hx2
   refine (HFA.out _ _ (by omega) (HL.out.below dL.out) (cO HT.out dL.out) (HM.out.below dL.out)).mono ?_
   rintro e w4 ⟨hbx, u', A', n', c', ok, rfl, hown, yG⟩
   have fV : Hid (w.heap.size < w3.heap.size) := bQ.out.lt
   have HOW := hid hown
   have Ei := hid yG
   clear hown yG
   have bP := hid (bQ.out.below hbx)
   have dH := hid (bel dL.out hbx)
   have FQ : Hid (w.heap.size ≤ w3.heap.size) := dL.out.size
   clear bQ dL
   clear hbx
   go_wp2_with (refine au bP.out u' A' n' c' (.tmp 4) (.tmp 17) rfl rfl rfl rfl ?_)
   try simp only [Exit.inBlock, Exit.then]
   exact bodyPost_ret (w := World.setRow w4 w.heap.size (cells u' (.slice A' n' c'))) (res2 (u := u') (p := .slice A' n' c') rfl (bP.out.row u' _) ok _ rfl rfl) rfl ⟨below_setRow dH.out bU.out _, u', A', n', c', ok, rfl, (HOW.out.row fV.out _).base FQ.out, by rw [ig.out]; exact Ei.out⟩
  | false =>
   have hl1 := Ql.out (by simp)
   have ig : Hid (O = some { uF with aN := walk FILE [] (T.drop 1) }) := by show _ = _; rw [HO.out, if_neg (by simp), if_pos (by simp)]; first | done | rfl | (congr 2; simp)
   obtain ⟨T2, hT2⟩ : ∃ x, x = T.drop 1 := ⟨_, rfl⟩
   have hx2 : (strOf T).extract 1 (strOf T).size = strOf T2 := by rw [kP, hT2]; rfl
   have hkI : (1 : Int) ≤ ((strOf T).size : Int) := by rw [ah]; omega
   rw [← hT2] at ig
   have Ol : T2.length ≤ 800000 := by rw [hT2, List.length_drop]; omega
   clear hT2 hl1
   go_upto_region 4 with (fail)
   generalize hw : World.alloc w3 _ = w4
   have h1 : UB w4 (w3.heap.size) (uF) (.slice none 0 0) ∧ Below w3.heap.size w3 w4 := by
    subst hw
    exact laid1 w3 _ _
   clear hw
   have hlr := bQ.out.lt
   have aU : Hid (w.heap.size ≠ w3.heap.size) := by show _ ≠ _; omega
   have nU : Hid (w3.heap.size ≠ w.heap.size) := by show _ ≠ _; omega
   clear hlr
   have dU : Hid (w.heap.size ≤ w3.heap.size) := dL.out.size
   have bP := hid (bQ.out.below h1.2)
   have dH := hid (bel dL.out h1.2)
   have dA := hid h1.1
   clear bQ dL
   clear h1
   go_wp2_with fail
   refine (HS0.out _).mono ?_
   rintro e w5 ⟨rfl, hbx⟩
   have bM := hid (bP.out.below hbx)
   have bG := hid (dA.out.below hbx)
   have dZ := hid (bel dH.out hbx)
   clear bP dA dH
   clear hbx
   go_wp2_with fail
   clear hx2
   refine (HWK.out none 0 0 [] T2 _ (dS.nil _) (Nat.le_refl _) (Nat.zero_le _) (by omega)).mono ?_
   rintro e w6 ⟨q, rfl, hown, hbx⟩
   obtain ⟨Aq, cq, rfl, hq⟩ := bY (u := { U0 with aN := walk FILE [] T2 }) hown
   clear hq
   replace hown := aF hown (Nat.le_refl _)
   have sZ : Hid (w3.heap.size < w5.heap.size) := bG.out.lt
   have fV : Hid (w.heap.size < w5.heap.size) := bM.out.lt
   have bT := hid (bM.out.below hbx)
   have bD := hid (bG.out.below hbx)
   have fA := hid (bel dZ.out hbx)
   have qJ := hid hown
   clear hown
   clear bM bG dZ
   clear hbx
   have xG := sZ.out
   have cx := bD.out.facts.2.2.2.2.2.2.2.2.1
   have fx := bD.out.thaw.2.2.2.2.2.2.2.2.1
   go_upto_region 18 with (fail)
   have hxr := bT.out.set (k := w3.heap.size) (i := 8) (.slice Aq (walk FILE [] T2).length cq) (aU.out)
   have hxu := bD.out.path (.slice Aq (walk FILE [] T2).length cq)
   have hoq := fH.aC (w' := w6.setCell ⟨w3.heap.size, 8, none⟩ (.slice Aq (walk FILE [] T2).length cq)) (gb := w3.heap.size) qJ.out (fun k hk => heap_setCell_other _ _ _ _ hk) (by omega)
   have hb := fA.out.setCell (p := ⟨w3.heap.size, 8, none⟩) (dU.out) (.slice Aq (walk FILE [] T2).length cq)
   clear bT bD qJ fA
   clear cx fx
   generalize World.setCell w6 _ _ = w7 at hxr hxu hoq hb ⊢
   have dI : Hid (UB w7 (w.heap.size) (U0) (.slice none 0 0)) := hxr
   clear hxr
   have dJ : Hid (UB w7 (w3.heap.size) (uF) (.slice Aq (walk FILE [] T2).length cq)) := hxu
   clear hxu
   have jc := hid hoq
   clear hoq
   have gQ := hid hb
   clear hb
   clear xG
   obtain ⟨c0, c1, c2', c3, c4, c5, c6, c7, c8, c9, c10, c11, c12⟩ := dJ.out.facts
   go_wp2_with (refine au dI.out (uF) Aq (walk FILE [] T2).length cq (.tmp 4) (.tmp 72) rfl rfl rfl rfl ?_)
   try simp only [Exit.inBlock, Exit.then]
   have hpo : ∀ k, k ≠ w.heap.size → (World.setRow w7 (w.heap.size) (cells (uF) (.slice Aq (walk FILE [] T2).length cq))).heap[k]? = w7.heap[k]? := fun k hk => setRow_other _ _ _ _ hk
   have ho := aF (fH.aC jc.out hpo fV.out) (by have h1 := bU.out; have h2 := fV.out; omega : w.heap.size ≤ _)
   exact bodyPost_ret (w := World.setRow w7 w.heap.size (cells (uF) (.slice Aq (walk FILE [] T2).length cq))) (res2 (u := uF) (p := .slice Aq (walk FILE [] T2).length cq) rfl (dI.out.row (uF) _) true _ rfl rfl) rfl (dP (u := { uF with aN := walk FILE [] T2 }) ig.out (below_setRow gQ.out bU.out _) ho)
 | false =>
  clear HLEN Ql FT
  have jI : Hid (O = some { uF with aN := walk FILE (if Fp T = true then [] else lG true []) T }) := by show _ = _; rw [HO.out, if_neg (by simp), if_neg (by simp)]
  clear HO
  go_upto_region 4 with (fail)
  generalize hw : World.alloc w2 _ = w3
  have h1 : UB w3 (w2.heap.size) (uF) (.slice none 0 0) ∧ Below w2.heap.size w2 w3 := by
   subst hw
   exact laid1 w2 _ _
  clear hw
  have hlr := dh.out.lt
  have aU : Hid (w.heap.size ≠ w2.heap.size) := by show _ ≠ _; omega
  have nU : Hid (w2.heap.size ≠ w.heap.size) := by show _ ≠ _; omega
  clear hlr
  have dU : Hid (w.heap.size ≤ w2.heap.size) := eY.out.size
  have bQ := hid (dh.out.below h1.2)
  have dL := hid (bel eY.out h1.2)
  have eG := hid h1.1
  clear dh eY
  clear h1
  go_wp2_with fail
  refine (HS0.out _).mono ?_
  rintro e w4 ⟨rfl, hbx⟩
  have bP := hid (bQ.out.below hbx)
  have dA := hid (eG.out.below hbx)
  have dH := hid (bel dL.out hbx)
  clear bQ eG dL
  clear hbx
  cases hb : Fp T with
  | true =>
   have HB1 := HBG.out T
   rw [hb] at HB1
   have HB2 := hid HB1
   have ig : Hid (O = some { uF with aN := walk FILE [] T }) := by show _ = _; rw [jI.out, hb]; rfl
   clear HB1 hb jI
   go_wp2_with fail
   refine (HB2.out _ (by omega)).mono ?_
   rintro e wx ⟨rfl, hwx⟩
   obtain rfl : w4 = wx := by first | exact hwx | exact hwx.symm
   clear hwx
   go_wp2_with fail
   refine (HWK.out none 0 0 [] T _ (dS.nil _) (Nat.le_refl _) (Nat.zero_le _) (by omega)).mono ?_
   rintro e w5 ⟨q, rfl, hown, hbx⟩
   obtain ⟨Aq, cq, rfl, hq⟩ := bY (u := { U0 with aN := walk FILE [] T }) hown
   clear hq
   replace hown := aF hown (Nat.le_refl _)
   have sZ : Hid (w2.heap.size < w4.heap.size) := dA.out.lt
   have fV : Hid (w.heap.size < w4.heap.size) := bP.out.lt
   have bM := hid (bP.out.below hbx)
   have bG := hid (dA.out.below hbx)
   have dZ := hid (bel dH.out hbx)
   have Cb := hid hown
   clear hown
   clear bP dA dH
   clear hbx
   have xG := sZ.out
   have cx := bG.out.facts.2.2.2.2.2.2.2.2.1
   have fx := bG.out.thaw.2.2.2.2.2.2.2.2.1
   go_upto_region 18 with (fail)
   have hxr := bM.out.set (k := w2.heap.size) (i := 8) (.slice Aq (walk FILE [] T).length cq) (aU.out)
   have hxu := bG.out.path (.slice Aq (walk FILE [] T).length cq)
   have hoq := fH.aC (w' := w5.setCell ⟨w2.heap.size, 8, none⟩ (.slice Aq (walk FILE [] T).length cq)) (gb := w2.heap.size) Cb.out (fun k hk => heap_setCell_other _ _ _ _ hk) (by omega)
   have hb := dZ.out.setCell (p := ⟨w2.heap.size, 8, none⟩) (dU.out) (.slice Aq (walk FILE [] T).length cq)
   clear bM bG Cb dZ
   clear cx fx
   generalize World.setCell w5 _ _ = w6 at hxr hxu hoq hb ⊢
   have bT : Hid (UB w6 (w.heap.size) (U0) (.slice none 0 0)) := hxr
   clear hxr
   have bD : Hid (UB w6 (w2.heap.size) (uF) (.slice Aq (walk FILE [] T).length cq)) := hxu
   clear hxu
   have qJ := hid hoq
   clear hoq
   have fA := hid hb
   clear hb
   clear xG
   obtain ⟨c0, c1, c2', c3, c4, c5, c6, c7, c8, c9, c10, c11, c12⟩ := bD.out.facts
   go_wp2_with (refine au bT.out (uF) Aq (walk FILE [] T).length cq (.tmp 4) (.tmp 72) rfl rfl rfl rfl ?_)
   try simp only [Exit.inBlock, Exit.then]
   have hpo : ∀ k, k ≠ w.heap.size → (World.setRow w6 (w.heap.size) (cells (uF) (.slice Aq (walk FILE [] T).length cq))).heap[k]? = w6.heap[k]? := fun k hk => setRow_other _ _ _ _ hk
   have ho := aF (fH.aC qJ.out hpo fV.out) (by have h1 := bU.out; have h2 := fV.out; omega : w.heap.size ≤ _)
   exact bodyPost_ret (w := World.setRow w6 w.heap.size (cells (uF) (.slice Aq (walk FILE [] T).length cq))) (res2 (u := uF) (p := .slice Aq (walk FILE [] T).length cq) rfl (bT.out.row (uF) _) true _ rfl rfl) rfl (dP (u := { uF with aN := walk FILE [] T }) ig.out (below_setRow fA.out bU.out _) ho)
  | false =>
   have HB1 := HBG.out T
   rw [hb] at HB1
   have HB2 := hid HB1
   have ig : Hid (O = some { uF with aN := walk FILE [] T }) := by show _ = _; rw [jI.out, hb]; rfl
   clear HB1 hb jI
   go_wp2_with fail
   refine (HB2.out _ (by omega)).mono ?_
   rintro e wx ⟨rfl, hwx⟩
   obtain rfl : w4 = wx := by first | exact hwx | exact hwx.symm
   clear hwx
   go_wp2_with fail
   refine (yY true none 0 0 [] _ (dS.nil _) (Nat.le_refl _) (Nat.zero_le _) (by omega)).mono ?_
   rintro e w5 ⟨v, rfl, hown, hbx⟩
   obtain ⟨A4, c4, rfl, h4, h5, h6⟩ := bZ hown
   have bM := hid (bP.out.below hbx)
   have bG := hid (dA.out.below hbx)
   have dZ := hid (bel dH.out hbx)
   clear bP dA dH
   clear hbx hown
   rw [show lG true [] = [] from rfl] at h4 h6 ⊢
   go_wp2_with fail
   refine (HWK.out A4 _ c4 [] T _ h6 h4 h5 (by simp; omega)).mono ?_
   rintro e w6 ⟨q, rfl, hown, hbx⟩
   obtain ⟨Aq, cq, rfl, hq⟩ := bY (u := { U0 with aN := walk FILE [] T }) hown
   clear hq
   replace hown := aF hown (Nat.le_refl _)
   have sZ : Hid (w2.heap.size < w5.heap.size) := bG.out.lt
   have fV : Hid (w.heap.size < w5.heap.size) := bM.out.lt
   have bT := hid (bM.out.below hbx)
   have bD := hid (bG.out.below hbx)
   have fA := hid (bel dZ.out hbx)
   have qJ := hid hown
   clear hown
   clear bM bG dZ
   clear hbx
   have xG := sZ.out
   have cx := bD.out.facts.2.2.2.2.2.2.2.2.1
   have fx := bD.out.thaw.2.2.2.2.2.2.2.2.1
   go_upto_region 18 with (fail)
   have hxr := bT.out.set (k := w2.heap.size) (i := 8) (.slice Aq (walk FILE [] T).length cq) (aU.out)
   have hxu := bD.out.path (.slice Aq (walk FILE [] T).length cq)
   have hoq := fH.aC (w' := w6.setCell ⟨w2.heap.size, 8, none⟩ (.slice Aq (walk FILE [] T).length cq)) (gb := w2.heap.size) qJ.out (fun k hk => heap_setCell_other _ _ _ _ hk) (by omega)
   have hb := fA.out.setCell (p := ⟨w2.heap.size, 8, none⟩) (dU.out) (.slice Aq (walk FILE [] T).length cq)
   clear bT bD qJ fA
   clear cx fx
   generalize World.setCell w6 _ _ = w7 at hxr hxu hoq hb ⊢
   have dI : Hid (UB w7 (w.heap.size) (U0) (.slice none 0 0)) := hxr
   clear hxr
   have dJ : Hid (UB w7 (w2.heap.size) (uF) (.slice Aq (walk FILE [] T).length cq)) := hxu
   clear hxu
   have jc := hid hoq
   clear hoq
   have gQ := hid hb
   clear hb
   clear xG
   obtain ⟨c0, c1, c2', c3, c4, c5, c6, c7, c8, c9, c10, c11, c12⟩ := dJ.out.facts
   go_wp2_with (refine au dI.out (uF) Aq (walk FILE [] T).length cq (.tmp 4) (.tmp 72) rfl rfl rfl rfl ?_)
   try simp only [Exit.inBlock, Exit.then]
   have hpo : ∀ k, k ≠ w.heap.size → (World.setRow w7 (w.heap.size) (cells (uF) (.slice Aq (walk FILE [] T).length cq))).heap[k]? = w7.heap[k]? := fun k hk => setRow_other _ _ _ _ hk
   have ho := aF (fH.aC jc.out hpo fV.out) (by have h1 := bU.out; have h2 := fV.out; omega : w.heap.size ≤ _)
   exact bodyPost_ret (w := World.setRow w7 w.heap.size (cells (uF) (.slice Aq (walk FILE [] T).length cq))) (res2 (u := uF) (p := .slice Aq (walk FILE [] T).length cq) rfl (dI.out.row (uF) _) true _ rfl rfl) rfl (dP (u := { uF with aN := walk FILE [] T }) ig.out (below_setRow gQ.out bU.out _) ho)
end Go.Proofs.YtcfgioklgmlclaaGreatDoor.PrsF
