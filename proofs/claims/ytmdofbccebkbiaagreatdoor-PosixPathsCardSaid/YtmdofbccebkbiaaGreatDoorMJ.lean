/- Texts that belong together: PrsE, PrsF. -/
import Derived.Test.YtmdofbccebkbiaaGreatDoorMI
set_option linter.unusedSimpArgs false
set_option linter.unusedVariables false
namespace Go.Proofs.YtmdofbccebkbiaaGreatDoor.PrsE
open Go.RowKit Base Regs Base2 UtfA UtfL PthP PthB PthE PthL PthG PthH PthJ UrlA SixG HstP HstA HstB HstC Spl PrsP PrsA PrsQ PrsB Ubx PrsC PrsD
theorem trim_slashes (L : List UInt8) (w : World) : Calls Tryz.prog 87 #[.string (strOf L), .string (cs true)] w fun e w' => e = .returned (.string (strOf (L.dropWhile (stp1 true)))) ∧ Below w.heap.size w w' := by
 refine (Tryz.strings_TrimLeft_set (strOf L) (cs true) w (by decide) (fun j b h => ?_)).mono ?_
 ·have : b ∈ [47, 92] := List.mem_of_getElem? h
  simp only [List.mem_cons, List.not_mem_nil, or_false] at this
  rcases this with rfl | rfl <;> decide
 ·rintro e w2 ⟨rfl, hb⟩
  refine ⟨?_, hb⟩
  rw [show (strOf L).data.toList = L from rfl, show (cs true).data.toList = [47, 92] from rfl]
  unfold Lib.trimLeftS
  congr 3
  have : (fun c => [47, 92].contains c) = stp1 true := by
   funext c
   simp [stp1]
  rw [this]
set_option maxRecDepth 100000 in
set_option maxHeartbeats 16000000 in
theorem far_any (T : List UInt8) (w : World) (hs : T.length ≤ 900000) (hL : Lad w) (hT : Tab.Pow w) (hM : Max w) : Calls Tryz.prog 151 #[.string (strOf T)] w (AnsO w (far T)) := by
 obtain ⟨O, hO⟩ : ∃ O, O = far T := ⟨_, rfl⟩
 rw [← hO]
 obtain ⟨X, hX⟩ : ∃ X, X = T.take (upto true T) := ⟨_, rfl⟩
 obtain ⟨D, hD⟩ : ∃ D, D = T.drop (upto true T) := ⟨_, rfl⟩
 have hXl : X.length ≤ 900000 := by rw [hX, List.length_take]; omega
 have hDl : D.length ≤ 900000 := by rw [hD, List.length_drop]; omega
 have hU : ∀ w : World, Calls Tryz.prog 159 #[.string ⟨#[102, 105, 108, 101]⟩, .string (strOf T)] w fun e w' => e = .returned (.tuple #[.string (strOf X), .string (strOf D)]) ∧ Below w.heap.size w w' := fun w => by rw [hX, hD]; exact until_any (strOf FILE) (strOf T) w (size_of (by omega))
 unfold far at hO
 rw [← hX, ← hD] at hO
 have HO := hid hO
 have HU := hid hU
 have HDR : Hid (∀ w : World, Calls Tryz.prog 201 #[.string (strOf X)] w fun e w' => e = .returned (.bool (drv X)) ∧ w = w') := fun w => drive_any (strOf X) w
 have HRT : Hid (∀ (L : List UInt8) (w : World), L.length ≤ 900000 → Calls Tryz.prog 158 #[.string ⟨#[102, 105, 108, 101]⟩, .string (strOf L)] w (Owned w.heap.size w (rooted FILE L))) := fun L w h => rooted_any (strOf FILE) (strOf L) w (size_of h)
 have HH : Hid (∀ w : World, Lad w → Tab.Pow w → Max w → Calls Tryz.prog 162 #[.string (strOf X), .bool true] w fun e w' => e = .returned (HV (hst X true)) ∧ Below w.heap.size w w') := fun w a b d => HstC.parse_any (strOf X) true w (size_of hXl) a b d
 have HL := hid hL
 have HT := hid hT
 have HM := hid hM
 clear hO hU hX hD hL hT hM hXl
 go_enter Tryz.func151, Tryz.ntmps151
 go_upto_region 1 with (fail)
 generalize hw : World.alloc w _ = w1
 have h1 : UB w1 (w.heap.size) (U0) (.slice none 0 0) ∧ Below w.heap.size w w1 := by
  subst hw
  exact laid1 w _ _
 clear hw
 have LE_r : Hid (w.heap.size ≤ w.heap.size) := (Below.refl w.heap.size w).size
 have HBw1 := hid (bel (Below.refl w.heap.size w) h1.2)
 have HXrw1 := hid h1.1
 clear h1
 go_upto_region 2 with (fail)
 generalize hw : World.alloc w1 _ = w2
 have h1 : UB w2 (w1.heap.size) (uF) (.slice none 0 0) ∧ Below w1.heap.size w1 w2 := by
  subst hw
  exact laid1 w1 _ _
 clear hw
 have hlr := HXrw1.out.lt
 have NE_r_u : Hid (w.heap.size ≠ w1.heap.size) := by show _ ≠ _; omega
 have NE_u_r : Hid (w1.heap.size ≠ w.heap.size) := by show _ ≠ _; omega
 clear hlr
 have LE_u : Hid (w.heap.size ≤ w1.heap.size) := HBw1.out.size
 have HXrw2 := hid (HXrw1.out.below h1.2)
 have HBw2 := hid (bel HBw1.out h1.2)
 have HXuw2 := hid h1.1
 clear HXrw1 HBw1
 clear h1
 go_wp2_with fail
 refine (HU.out _).mono ?_
 rintro e w3 ⟨rfl, hbx⟩
 have HXrw3 := hid (HXrw2.out.below hbx)
 have HXuw3 := hid (HXuw2.out.below hbx)
 have HBw3 := hid (bel HBw2.out hbx)
 clear HXrw2 HXuw2 HBw2
 clear hbx
 cases hd : drv X with
 | true =>
  have HO5 : Hid (O = some { uF with pth := rooted FILE T }) := by show _ = _; rw [HO.out, if_pos hd]
  rw [hd] at HDR
  clear hd
  go_wp2_with fail
  refine (HDR.out _).mono ?_
  rintro e wx ⟨rfl, hwx⟩
  obtain rfl : w3 = wx := by first | exact hwx | exact hwx.symm
  clear hwx
  go_wp2_with fail
  refine (HRT.out T _ hs).mono ?_
  rintro e w4 ⟨q, rfl, hown, hbx⟩
  obtain ⟨Aq, cq, rfl, hq⟩ := pth_of_owned (u := { U0 with pth := rooted FILE T }) hown
  clear hq
  replace hown := owns_base hown (Nat.le_refl _)
  have HLu : Hid (w1.heap.size < w3.heap.size) := HXuw3.out.lt
  have HLr : Hid (w.heap.size < w3.heap.size) := HXrw3.out.lt
  have HXrw4 := hid (HXrw3.out.below hbx)
  have HXuw4 := hid (HXuw3.out.below hbx)
  have HBw4 := hid (bel HBw3.out hbx)
  have HOqw4 := hid hown
  clear hown
  clear HXrw3 HXuw3 HBw3
  clear hbx
  have hlu := HLu.out
  have cx := HXuw4.out.facts.2.2.2.2.2.2.2.2.1
  have fx := HXuw4.out.thaw.2.2.2.2.2.2.2.2.1
  go_upto_region 12 with (fail)
  have hxr := HXrw4.out.set (k := w1.heap.size) (i := 8) (.slice Aq (rooted FILE T).length cq) (NE_r_u.out)
  have hxu := HXuw4.out.path (.slice Aq (rooted FILE T).length cq)
  have hoq := SixC.owns_other (w' := w4.setCell ⟨w1.heap.size, 8, none⟩ (.slice Aq (rooted FILE T).length cq)) (gb := w1.heap.size) HOqw4.out (fun k hk => heap_setCell_other _ _ _ _ hk) (by omega)
  have hb := HBw4.out.setCell (p := ⟨w1.heap.size, 8, none⟩) (LE_u.out) (.slice Aq (rooted FILE T).length cq)
  clear HXrw4 HXuw4 HOqw4 HBw4
  clear cx fx
  generalize World.setCell w4 _ _ = w5 at hxr hxu hoq hb ⊢
  have HXrw5 : Hid (UB w5 (w.heap.size) (U0) (.slice none 0 0)) := hxr
  clear hxr
  have HXuw5 : Hid (UB w5 (w1.heap.size) (uF) (.slice Aq (rooted FILE T).length cq)) := hxu
  clear hxu
  have HOqw5 := hid hoq
  clear hoq
  have HBw5 := hid hb
  clear hb
  clear hlu
  obtain ⟨c0, c1, c2', c3, c4, c5, c6, c7, c8, c9, c10, c11, c12⟩ := HXuw5.out.facts
  go_wp2_with (refine store_box HXrw5.out (uF) Aq (rooted FILE T).length cq (.tmp 2) (.tmp 35) rfl rfl rfl rfl ?_)
  try simp only [Exit.inBlock, Exit.then]
  have hpo : ∀ k, k ≠ w.heap.size → (World.setRow w5 (w.heap.size) (cells (uF) (.slice Aq (rooted FILE T).length cq))).heap[k]? = w5.heap[k]? := fun k hk => setRow_other _ _ _ _ hk
  have ho := owns_base (SixC.owns_other HOqw5.out hpo HLr.out) (by have h1 := LE_r.out; have h2 := HLr.out; omega : w.heap.size ≤ _)
  exact bodyPost_ret (w := World.setRow w5 w.heap.size (cells (uF) (.slice Aq (rooted FILE T).length cq))) (res2 (u := uF) (p := .slice Aq (rooted FILE T).length cq) rfl (HXrw5.out.row (uF) _) true _ rfl rfl) rfl (ans_some (u := { uF with pth := rooted FILE T }) HO5.out (below_setRow HBw5.out LE_r.out _) ho)
 | false =>
  have HO2 : Hid (O = if X = [] then some { uF with pth := rooted FILE D } else match hst X true with | none => none | some H => some { uF with hst := if H = LOCAL then [] else H, pth := rooted FILE D }) := by show _ = _; rw [HO.out, if_neg (by rw [hd]; simp)]; first | done | rfl
  rw [hd] at HDR
  clear hd HO
  go_wp2_with fail
  refine (HDR.out _).mono ?_
  rintro e wx ⟨rfl, hwx⟩
  obtain rfl : w3 = wx := by first | exact hwx | exact hwx.symm
  clear hwx
  by_cases h0 : X = []
  ·
   have HO5 : Hid (O = some { uF with pth := rooted FILE D }) := by show _ = _; rw [HO2.out, if_pos h0]
   have q0 : ((strOf X).toList == []) = true := by rw [str_tl, h0]; rfl
   have q1 : (strOf X).toList = [] := by rw [str_tl, h0]
   clear h0
   go_wp2_with fail
   refine (HRT.out D _ hDl).mono ?_
   rintro e w4 ⟨q, rfl, hown, hbx⟩
   obtain ⟨Aq, cq, rfl, hq⟩ := pth_of_owned (u := { U0 with pth := rooted FILE D }) hown
   clear hq
   replace hown := owns_base hown (Nat.le_refl _)
   have HLu : Hid (w1.heap.size < w3.heap.size) := HXuw3.out.lt
   have HLr : Hid (w.heap.size < w3.heap.size) := HXrw3.out.lt
   have HXrw4 := hid (HXrw3.out.below hbx)
   have HXuw4 := hid (HXuw3.out.below hbx)
   have HBw4 := hid (bel HBw3.out hbx)
   have HOqw4 := hid hown
   clear hown
   clear HXrw3 HXuw3 HBw3
   clear hbx
   have hlu := HLu.out
   have cx := HXuw4.out.facts.2.2.2.2.2.2.2.2.1
   have fx := HXuw4.out.thaw.2.2.2.2.2.2.2.2.1
   go_upto_region 12 with (fail)
   have hxr := HXrw4.out.set (k := w1.heap.size) (i := 8) (.slice Aq (rooted FILE D).length cq) (NE_r_u.out)
   have hxu := HXuw4.out.path (.slice Aq (rooted FILE D).length cq)
   have hoq := SixC.owns_other (w' := w4.setCell ⟨w1.heap.size, 8, none⟩ (.slice Aq (rooted FILE D).length cq)) (gb := w1.heap.size) HOqw4.out (fun k hk => heap_setCell_other _ _ _ _ hk) (by omega)
   have hb := HBw4.out.setCell (p := ⟨w1.heap.size, 8, none⟩) (LE_u.out) (.slice Aq (rooted FILE D).length cq)
   clear HXrw4 HXuw4 HOqw4 HBw4
   clear cx fx
   generalize World.setCell w4 _ _ = w5 at hxr hxu hoq hb ⊢
   have HXrw5 : Hid (UB w5 (w.heap.size) (U0) (.slice none 0 0)) := hxr
   clear hxr
   have HXuw5 : Hid (UB w5 (w1.heap.size) (uF) (.slice Aq (rooted FILE D).length cq)) := hxu
   clear hxu
   have HOqw5 := hid hoq
   clear hoq
   have HBw5 := hid hb
   clear hb
   clear hlu
   obtain ⟨c0, c1, c2', c3, c4, c5, c6, c7, c8, c9, c10, c11, c12⟩ := HXuw5.out.facts
   go_wp2_with (refine store_box HXrw5.out (uF) Aq (rooted FILE D).length cq (.tmp 2) (.tmp 35) rfl rfl rfl rfl ?_)
   try simp only [Exit.inBlock, Exit.then]
   have hpo : ∀ k, k ≠ w.heap.size → (World.setRow w5 (w.heap.size) (cells (uF) (.slice Aq (rooted FILE D).length cq))).heap[k]? = w5.heap[k]? := fun k hk => setRow_other _ _ _ _ hk
   have ho := owns_base (SixC.owns_other HOqw5.out hpo HLr.out) (by have h1 := LE_r.out; have h2 := HLr.out; omega : w.heap.size ≤ _)
   exact bodyPost_ret (w := World.setRow w5 w.heap.size (cells (uF) (.slice Aq (rooted FILE D).length cq))) (res2 (u := uF) (p := .slice Aq (rooted FILE D).length cq) rfl (HXrw5.out.row (uF) _) true _ rfl rfl) rfl (ans_some (u := { uF with pth := rooted FILE D }) HO5.out (below_setRow HBw5.out LE_r.out _) ho)
  ·
   have HO3 : Hid (O = match hst X true with | none => none | some H => some { uF with hst := if H = LOCAL then [] else H, pth := rooted FILE D }) := by show _ = _; rw [HO2.out, if_neg h0]
   have q0 : ((strOf X).toList == []) = false := by rw [str_tl, beq_eq_false_iff_ne]; exact h0
   have q1 : ¬ (strOf X).toList = [] := by rw [str_tl]; exact h0
   have q2 : (strOf X).toList.isEmpty = false := by rw [str_tl]; simpa using h0
   clear h0 HO2
   cases hx : hst X true with
   | none =>
    have HNO : Hid (O = none) := by show _ = _; rw [HO3.out, hx]
    rw [hx] at HH
    clear hx
    go_wp2_with fail
    refine (HH.out _ (HL.out.below HBw3.out) (pow_below HT.out HBw3.out) (HM.out.below HBw3.out)).mono ?_
    rintro e w4 ⟨rfl, hbx⟩
    have HXrw4 := hid (HXrw3.out.below hbx)
    have HXuw4 := hid (HXuw3.out.below hbx)
    have HBw4 := hid (bel HBw3.out hbx)
    clear HXrw3 HXuw3 HBw3
    clear hbx
    rw [show HV none = .tuple #[.string (strOf []), .bool false] from rfl]
    go_wp2_with (refine store_box HXrw4.out U0 none 0 0 (.tmp 2) (.tmp 27) rfl rfl rfl rfl ?_)
    try simp only [Exit.inBlock, Exit.then]
    exact bodyPost_ret (w := World.setRow w4 w.heap.size (cells U0 (.slice none 0 0))) (res2 (u := U0) (p := .slice none 0 0) rfl (HXrw4.out.row U0 _) false _ rfl rfl) rfl (ans_none HNO.out (below_setRow HBw4.out LE_r.out _))
   | some H =>
    have HO4 : Hid (O = some { uF with hst := if H = LOCAL then [] else H, pth := rooted FILE D }) := by show _ = _; rw [HO3.out, hx]
    rw [hx] at HH
    clear hx HO3
    go_wp2_with fail
    refine (HH.out _ (HL.out.below HBw3.out) (pow_below HT.out HBw3.out) (HM.out.below HBw3.out)).mono ?_
    rintro e w4 ⟨rfl, hbx⟩
    have HXrw4 := hid (HXrw3.out.below hbx)
    have HXuw4 := hid (HXuw3.out.below hbx)
    have HBw4 := hid (bel HBw3.out hbx)
    clear HXrw3 HXuw3 HBw3
    clear hbx
    rw [show HV (some H) = .tuple #[.string (strOf H), .bool true] from rfl]
    skip
    by_cases hl : H = LOCAL
    ·
     have HO5 : Hid (O = some { uF with pth := rooted FILE D }) := by show _ = _; rw [HO4.out, if_pos hl]; rfl
     have l0 : ((strOf H).toList == [108, 111, 99, 97, 108, 104, 111, 115, 116]) = true := by rw [str_tl, hl]; rfl
     have l1 : (strOf H).toList = [108, 111, 99, 97, 108, 104, 111, 115, 116] := by rw [str_tl, hl]; rfl
     clear hl
     go_wp2_with fail
     refine (HRT.out D _ hDl).mono ?_
     rintro e w5 ⟨q, rfl, hown, hbx⟩
     obtain ⟨Aq, cq, rfl, hq⟩ := pth_of_owned (u := { U0 with pth := rooted FILE D }) hown
     clear hq
     replace hown := owns_base hown (Nat.le_refl _)
     have HLu : Hid (w1.heap.size < w4.heap.size) := HXuw4.out.lt
     have HLr : Hid (w.heap.size < w4.heap.size) := HXrw4.out.lt
     have HXrw5 := hid (HXrw4.out.below hbx)
     have HXuw5 := hid (HXuw4.out.below hbx)
     have HBw5 := hid (bel HBw4.out hbx)
     have HOqw5 := hid hown
     clear hown
     clear HXrw4 HXuw4 HBw4
     clear hbx
     have hlu := HLu.out
     have cx := HXuw5.out.facts.2.2.2.2.2.2.2.2.1
     have fx := HXuw5.out.thaw.2.2.2.2.2.2.2.2.1
     go_upto_region 12 with (fail)
     have hxr := HXrw5.out.set (k := w1.heap.size) (i := 8) (.slice Aq (rooted FILE D).length cq) (NE_r_u.out)
     have hxu := HXuw5.out.path (.slice Aq (rooted FILE D).length cq)
     have hoq := SixC.owns_other (w' := w5.setCell ⟨w1.heap.size, 8, none⟩ (.slice Aq (rooted FILE D).length cq)) (gb := w1.heap.size) HOqw5.out (fun k hk => heap_setCell_other _ _ _ _ hk) (by omega)
     have hb := HBw5.out.setCell (p := ⟨w1.heap.size, 8, none⟩) (LE_u.out) (.slice Aq (rooted FILE D).length cq)
     clear HXrw5 HXuw5 HOqw5 HBw5
     clear cx fx
     generalize World.setCell w5 _ _ = w6 at hxr hxu hoq hb ⊢
     have HXrw6 : Hid (UB w6 (w.heap.size) (U0) (.slice none 0 0)) := hxr
     clear hxr
     have HXuw6 : Hid (UB w6 (w1.heap.size) (uF) (.slice Aq (rooted FILE D).length cq)) := hxu
     clear hxu
     have HOqw6 := hid hoq
     clear hoq
     have HBw6 := hid hb
     clear hb
     clear hlu
     obtain ⟨c0, c1, c2', c3, c4, c5, c6, c7, c8, c9, c10, c11, c12⟩ := HXuw6.out.facts
     go_wp2_with (refine store_box HXrw6.out (uF) Aq (rooted FILE D).length cq (.tmp 2) (.tmp 35) rfl rfl rfl rfl ?_)
     try simp only [Exit.inBlock, Exit.then]
     have hpo : ∀ k, k ≠ w.heap.size → (World.setRow w6 (w.heap.size) (cells (uF) (.slice Aq (rooted FILE D).length cq))).heap[k]? = w6.heap[k]? := fun k hk => setRow_other _ _ _ _ hk
     have ho := owns_base (SixC.owns_other HOqw6.out hpo HLr.out) (by have h1 := LE_r.out; have h2 := HLr.out; omega : w.heap.size ≤ _)
     exact bodyPost_ret (w := World.setRow w6 w.heap.size (cells (uF) (.slice Aq (rooted FILE D).length cq))) (res2 (u := uF) (p := .slice Aq (rooted FILE D).length cq) rfl (HXrw6.out.row (uF) _) true _ rfl rfl) rfl (ans_some (u := { uF with pth := rooted FILE D }) HO5.out (below_setRow HBw6.out LE_r.out _) ho)
    ·
     have HO5 : Hid (O = some { uF with hst := H, pth := rooted FILE D }) := by show _ = _; rw [HO4.out, if_neg hl]
     have l0 : ((strOf H).toList == [108, 111, 99, 97, 108, 104, 111, 115, 116]) = false := by rw [str_tl, beq_eq_false_iff_ne]; exact hl
     have l1 : ¬ (strOf H).toList = [108, 111, 99, 97, 108, 104, 111, 115, 116] := by rw [str_tl]; exact hl
     clear hl
     have cx := HXuw4.out.facts.2.2.2.1
     have fx := HXuw4.out.thaw.2.2.2.1
     go_upto_region 11 with (fail)
     have hxr := HXrw4.out.set (k := w1.heap.size) (i := 3) (.string (strOf H)) (NE_r_u.out)
     have hxu := HXuw4.out.hst H
     have hb := HBw4.out.setCell (p := ⟨w1.heap.size, 3, none⟩) (LE_u.out) (.string (strOf H))
     clear HXrw4 HXuw4 HBw4
     clear cx fx
     generalize World.setCell w4 _ _ = w5 at hxr hxu hb ⊢
     have HXrw5 : Hid (UB w5 (w.heap.size) (U0) (.slice none 0 0)) := hxr
     clear hxr
     have HXuw5 : Hid (UB w5 (w1.heap.size) ({ uF with hst := H }) (.slice none 0 0)) := hxu
     clear hxu
     have HBw5 := hid hb
     clear hb
     go_wp2_with fail
     refine (HRT.out D _ hDl).mono ?_
     rintro e w6 ⟨q, rfl, hown, hbx⟩
     obtain ⟨Aq, cq, rfl, hq⟩ := pth_of_owned (u := { U0 with pth := rooted FILE D }) hown
     clear hq
     replace hown := owns_base hown (Nat.le_refl _)
     have HLu : Hid (w1.heap.size < w5.heap.size) := HXuw5.out.lt
     have HLr : Hid (w.heap.size < w5.heap.size) := HXrw5.out.lt
     have HXrw6 := hid (HXrw5.out.below hbx)
     have HXuw6 := hid (HXuw5.out.below hbx)
     have HBw6 := hid (bel HBw5.out hbx)
     have HOqw6 := hid hown
     clear hown
     clear HXrw5 HXuw5 HBw5
     clear hbx
     have hlu := HLu.out
     have cx := HXuw6.out.facts.2.2.2.2.2.2.2.2.1
     have fx := HXuw6.out.thaw.2.2.2.2.2.2.2.2.1
     go_upto_region 12 with (fail)
     have hxr := HXrw6.out.set (k := w1.heap.size) (i := 8) (.slice Aq (rooted FILE D).length cq) (NE_r_u.out)
     have hxu := HXuw6.out.path (.slice Aq (rooted FILE D).length cq)
     have hoq := SixC.owns_other (w' := w6.setCell ⟨w1.heap.size, 8, none⟩ (.slice Aq (rooted FILE D).length cq)) (gb := w1.heap.size) HOqw6.out (fun k hk => heap_setCell_other _ _ _ _ hk) (by omega)
     have hb := HBw6.out.setCell (p := ⟨w1.heap.size, 8, none⟩) (LE_u.out) (.slice Aq (rooted FILE D).length cq)
     clear HXrw6 HXuw6 HOqw6 HBw6
     clear cx fx
     generalize World.setCell w6 _ _ = w7 at hxr hxu hoq hb ⊢
     have HXrw7 : Hid (UB w7 (w.heap.size) (U0) (.slice none 0 0)) := hxr
     clear hxr
     have HXuw7 : Hid (UB w7 (w1.heap.size) ({ uF with hst := H }) (.slice Aq (rooted FILE D).length cq)) := hxu
     clear hxu
     have HOqw7 := hid hoq
     clear hoq
     have HBw7 := hid hb
     clear hb
     clear hlu
     obtain ⟨c0, c1, c2', c3, c4, c5, c6, c7, c8, c9, c10, c11, c12⟩ := HXuw7.out.facts
     go_wp2_with (refine store_box HXrw7.out ({ uF with hst := H }) Aq (rooted FILE D).length cq (.tmp 2) (.tmp 35) rfl rfl rfl rfl ?_)
     try simp only [Exit.inBlock, Exit.then]
     have hpo : ∀ k, k ≠ w.heap.size → (World.setRow w7 (w.heap.size) (cells ({ uF with hst := H }) (.slice Aq (rooted FILE D).length cq))).heap[k]? = w7.heap[k]? := fun k hk => setRow_other _ _ _ _ hk
     have ho := owns_base (SixC.owns_other HOqw7.out hpo HLr.out) (by have h1 := LE_r.out; have h2 := HLr.out; omega : w.heap.size ≤ _)
     exact bodyPost_ret (w := World.setRow w7 w.heap.size (cells ({ uF with hst := H }) (.slice Aq (rooted FILE D).length cq))) (res2 (u := { uF with hst := H }) (p := .slice Aq (rooted FILE D).length cq) rfl (HXrw7.out.row ({ uF with hst := H }) _) true _ rfl rfl) rfl (ans_some (u := { uF with hst := H, pth := rooted FILE D }) HO5.out (below_setRow HBw7.out LE_r.out _) ho)
end Go.Proofs.YtmdofbccebkbiaaGreatDoor.PrsE
namespace Go.Proofs.YtmdofbccebkbiaaGreatDoor.PrsF
open Go.RowKit Base Regs Base2 UtfA UtfL PthP PthB PthE PthL PthG PthH PthJ UrlA SixG HstP HstA HstB HstC Spl PrsP PrsA PrsQ PrsB Ubx PrsC PrsD PthD PrsE
set_option maxRecDepth 100000 in
set_option maxHeartbeats 16000000 in
theorem fileN_any (T : List UInt8) (w : World) (hs : T.length ≤ 700000) (hL : Lad w) (hT : Tab.Pow w) (hM : Max w) : Calls Tryz.prog 83 #[.string (strOf T), .pointer none] w (AnsO w (file T none)) := by
 obtain ⟨O, hO⟩ : ∃ O, O = file T none := ⟨_, rfl⟩
 rw [← hO]
 obtain ⟨s0, hs0⟩ : ∃ x, x = isSl true T 0 := ⟨_, rfl⟩
 obtain ⟨s1, hs1⟩ : ∃ x, x = isSl true T 1 := ⟨_, rfl⟩
 unfold file at hO
 rw [← hs0, ← hs1] at hO
 have hlen0 : s0 = true → 1 ≤ T.length := fun h => by
  rw [h] at hs0
  by_cases h2 : 0 < T.length
  ·omega
  ·rw [isSl_end _ _ _ h2] at hs0; cases hs0
 have HLEN0 := hid hlen0
 have hlen : s1 = true → 2 ≤ T.length := fun h => by
  rw [h] at hs1
  by_cases h2 : 1 < T.length
  ·omega
  ·rw [isSl_end _ _ _ h2] at hs1; cases hs1
 have HLEN := hid hlen
 have HS0 : Hid (∀ w : World, Calls Tryz.prog 150 #[.string ⟨#[102, 105, 108, 101]⟩, .string (strOf T), .int .i64 0] w fun e w' => e = .returned (.bool s0) ∧ Below w.heap.size w w') := fun w => by rw [hs0]; exact isSlash_any (strOf FILE) (strOf T) 0 w (by omega)
 have HS1 : Hid (∀ w : World, Calls Tryz.prog 150 #[.string ⟨#[102, 105, 108, 101]⟩, .string (strOf T), .int .i64 1] w fun e w' => e = .returned (.bool s1) ∧ Below w.heap.size w w') := fun w => by rw [hs1]; exact isSlash_any (strOf FILE) (strOf T) 1 w (by omega)
 have HO := hid hO
 have HFA : Hid (∀ (L : List UInt8) (w : World), L.length ≤ 900000 → Lad w → Tab.Pow w → Max w → Calls Tryz.prog 151 #[.string (strOf L)] w (AnsO w (far L))) := fun L w h a c d => far_any L w h a c d
 have HBG : Hid (∀ (L : List UInt8) (w : World), L.length ≤ 900000 → Calls Tryz.prog 153 #[.string (strOf L)] w fun e w' => e = .returned (.bool (bgn L)) ∧ w = w') := fun L w h => begins_any (strOf L) w (size_of (by omega))
 have HWK : Hid (∀ (A : Option Addr) (n c : Nat) (l : List ByteArray) (L : List UInt8) (w : World), Rds w A n (l.map Value.string) → n ≤ c → c ≤ maxLen → n + L.length ≤ 900000 → Calls Tryz.prog 156 #[.string ⟨#[102, 105, 108, 101]⟩, .slice A n c, .string (strOf L)] w (Owned w.heap.size w (walk FILE l L))) := fun A n c l L w h1 h2 h3 h4 => walk_any (strOf FILE) A n c l (strOf L) w h1 h2 h3 (by rw [size_strOf]; exact h4)
 have HL := hid hL
 have HT := hid hT
 have HM := hid hM
 clear hO hs0 hs1 hlen hlen0 hL hT hM
 go_enter Tryz.func83, Tryz.ntmps83
 go_upto_region 1 with (fail)
 generalize hw : World.alloc w _ = w1
 have h1 : UB w1 (w.heap.size) (U0) (.slice none 0 0) ∧ Below w.heap.size w w1 := by
  subst hw
  exact laid1 w _ _
 clear hw
 have LE_r : Hid (w.heap.size ≤ w.heap.size) := (Below.refl w.heap.size w).size
 have HBw1 := hid (bel (Below.refl w.heap.size w) h1.2)
 have HXrw1 := hid h1.1
 clear h1
 go_wp2_with fail
 refine (HS0.out _).mono ?_
 rintro e w2 ⟨rfl, hbx⟩
 have HXrw2 := hid (HXrw1.out.below hbx)
 have HBw2 := hid (bel HBw1.out hbx)
 clear HXrw1 HBw1
 clear hbx
 cases s0 with
 | true =>
  go_wp2_with fail
  refine (HS1.out _).mono ?_
  rintro e w3 ⟨rfl, hbx⟩
  have HXrw3 := hid (HXrw2.out.below hbx)
  have HBw3 := hid (bel HBw2.out hbx)
  clear HXrw2 HBw2
  clear hbx
  cases s1 with
  | true =>
   have hl2 := HLEN.out (by simp)
   have HO3 : Hid (O = far (T.drop 2)) := by show _ = _; rw [HO.out, if_pos (by simp)]
   obtain ⟨T2, hT2⟩ : ∃ x, x = T.drop 2 := ⟨_, rfl⟩
   have hx2 : (strOf T).extract 2 (strOf T).size = strOf T2 := by rw [str_right, hT2]; rfl
   have hkI : (2 : Int) ≤ ((strOf T).size : Int) := by rw [size_strOf]; omega
   rw [← hT2] at HO3
   have hT2l : T2.length ≤ 800000 := by rw [hT2, List.length_drop]; omega
   clear hT2 hl2
   go_wp2_with fail
   clear hx2
   refine (HFA.out _ _ (by omega) (HL.out.below HBw3.out) (pow_below HT.out HBw3.out) (HM.out.below HBw3.out)).mono ?_
   rintro e w4 ⟨hbx, u', A', n', c', ok, rfl, hown, hoo⟩
   have HLr : Hid (w.heap.size < w3.heap.size) := HXrw3.out.lt
   have HOW := hid hown
   have HOO := hid hoo
   clear hown hoo
   have HXrw4 := hid (HXrw3.out.below hbx)
   have HBw4 := hid (bel HBw3.out hbx)
   have HOB : Hid (w.heap.size ≤ w3.heap.size) := HBw3.out.size
   clear HXrw3 HBw3
   clear hbx
   go_wp2_with (refine store_box HXrw4.out u' A' n' c' (.tmp 4) (.tmp 17) rfl rfl rfl rfl ?_)
   try simp only [Exit.inBlock, Exit.then]
   exact bodyPost_ret (w := World.setRow w4 w.heap.size (cells u' (.slice A' n' c'))) (res2 (u := u') (p := .slice A' n' c') rfl (HXrw4.out.row u' _) ok _ rfl rfl) rfl ⟨below_setRow HBw4.out LE_r.out _, u', A', n', c', ok, rfl, (HOW.out.row HLr.out _).base HOB.out, by rw [HO3.out]; exact HOO.out⟩
  | false =>
   have hl1 := HLEN0.out (by simp)
   have HO3 : Hid (O = some { uF with pth := walk FILE [] (T.drop 1) }) := by show _ = _; rw [HO.out, if_neg (by simp), if_pos (by simp)]; first | done | rfl | (congr 2; simp)
   obtain ⟨T2, hT2⟩ : ∃ x, x = T.drop 1 := ⟨_, rfl⟩
   have hx2 : (strOf T).extract 1 (strOf T).size = strOf T2 := by rw [str_right, hT2]; rfl
   have hkI : (1 : Int) ≤ ((strOf T).size : Int) := by rw [size_strOf]; omega
   rw [← hT2] at HO3
   have hT2l : T2.length ≤ 800000 := by rw [hT2, List.length_drop]; omega
   clear hT2 hl1
   go_upto_region 4 with (fail)
   generalize hw : World.alloc w3 _ = w4
   have h1 : UB w4 (w3.heap.size) (uF) (.slice none 0 0) ∧ Below w3.heap.size w3 w4 := by
    subst hw
    exact laid1 w3 _ _
   clear hw
   have hlr := HXrw3.out.lt
   have NE_r_u : Hid (w.heap.size ≠ w3.heap.size) := by show _ ≠ _; omega
   have NE_u_r : Hid (w3.heap.size ≠ w.heap.size) := by show _ ≠ _; omega
   clear hlr
   have LE_u : Hid (w.heap.size ≤ w3.heap.size) := HBw3.out.size
   have HXrw4 := hid (HXrw3.out.below h1.2)
   have HBw4 := hid (bel HBw3.out h1.2)
   have HXuw4 := hid h1.1
   clear HXrw3 HBw3
   clear h1
   go_wp2_with fail
   refine (HS0.out _).mono ?_
   rintro e w5 ⟨rfl, hbx⟩
   have HXrw5 := hid (HXrw4.out.below hbx)
   have HXuw5 := hid (HXuw4.out.below hbx)
   have HBw5 := hid (bel HBw4.out hbx)
   clear HXrw4 HXuw4 HBw4
   clear hbx
   go_wp2_with fail
   clear hx2
   refine (HWK.out none 0 0 [] T2 _ (Rds.nil _) (Nat.le_refl _) (Nat.zero_le _) (by omega)).mono ?_
   rintro e w6 ⟨q, rfl, hown, hbx⟩
   obtain ⟨Aq, cq, rfl, hq⟩ := pth_of_owned (u := { U0 with pth := walk FILE [] T2 }) hown
   clear hq
   replace hown := owns_base hown (Nat.le_refl _)
   have HLu : Hid (w3.heap.size < w5.heap.size) := HXuw5.out.lt
   have HLr : Hid (w.heap.size < w5.heap.size) := HXrw5.out.lt
   have HXrw6 := hid (HXrw5.out.below hbx)
   have HXuw6 := hid (HXuw5.out.below hbx)
   have HBw6 := hid (bel HBw5.out hbx)
   have HOqw6 := hid hown
   clear hown
   clear HXrw5 HXuw5 HBw5
   clear hbx
   have hlu := HLu.out
   have cx := HXuw6.out.facts.2.2.2.2.2.2.2.2.1
   have fx := HXuw6.out.thaw.2.2.2.2.2.2.2.2.1
   go_upto_region 18 with (fail)
   have hxr := HXrw6.out.set (k := w3.heap.size) (i := 8) (.slice Aq (walk FILE [] T2).length cq) (NE_r_u.out)
   have hxu := HXuw6.out.path (.slice Aq (walk FILE [] T2).length cq)
   have hoq := SixC.owns_other (w' := w6.setCell ⟨w3.heap.size, 8, none⟩ (.slice Aq (walk FILE [] T2).length cq)) (gb := w3.heap.size) HOqw6.out (fun k hk => heap_setCell_other _ _ _ _ hk) (by omega)
   have hb := HBw6.out.setCell (p := ⟨w3.heap.size, 8, none⟩) (LE_u.out) (.slice Aq (walk FILE [] T2).length cq)
   clear HXrw6 HXuw6 HOqw6 HBw6
   clear cx fx
   generalize World.setCell w6 _ _ = w7 at hxr hxu hoq hb ⊢
   have HXrw7 : Hid (UB w7 (w.heap.size) (U0) (.slice none 0 0)) := hxr
   clear hxr
   have HXuw7 : Hid (UB w7 (w3.heap.size) (uF) (.slice Aq (walk FILE [] T2).length cq)) := hxu
   clear hxu
   have HOqw7 := hid hoq
   clear hoq
   have HBw7 := hid hb
   clear hb
   clear hlu
   obtain ⟨c0, c1, c2', c3, c4, c5, c6, c7, c8, c9, c10, c11, c12⟩ := HXuw7.out.facts
   go_wp2_with (refine store_box HXrw7.out (uF) Aq (walk FILE [] T2).length cq (.tmp 4) (.tmp 72) rfl rfl rfl rfl ?_)
   try simp only [Exit.inBlock, Exit.then]
   have hpo : ∀ k, k ≠ w.heap.size → (World.setRow w7 (w.heap.size) (cells (uF) (.slice Aq (walk FILE [] T2).length cq))).heap[k]? = w7.heap[k]? := fun k hk => setRow_other _ _ _ _ hk
   have ho := owns_base (SixC.owns_other HOqw7.out hpo HLr.out) (by have h1 := LE_r.out; have h2 := HLr.out; omega : w.heap.size ≤ _)
   exact bodyPost_ret (w := World.setRow w7 w.heap.size (cells (uF) (.slice Aq (walk FILE [] T2).length cq))) (res2 (u := uF) (p := .slice Aq (walk FILE [] T2).length cq) rfl (HXrw7.out.row (uF) _) true _ rfl rfl) rfl (ans_some (u := { uF with pth := walk FILE [] T2 }) HO3.out (below_setRow HBw7.out LE_r.out _) ho)
 | false =>
  clear HLEN HLEN0 HS1
  have HO2 : Hid (O = some { uF with pth := walk FILE (if bgn T = true then [] else sho true []) T }) := by show _ = _; rw [HO.out, if_neg (by simp), if_neg (by simp)]
  clear HO
  go_upto_region 4 with (fail)
  generalize hw : World.alloc w2 _ = w3
  have h1 : UB w3 (w2.heap.size) (uF) (.slice none 0 0) ∧ Below w2.heap.size w2 w3 := by
   subst hw
   exact laid1 w2 _ _
  clear hw
  have hlr := HXrw2.out.lt
  have NE_r_u : Hid (w.heap.size ≠ w2.heap.size) := by show _ ≠ _; omega
  have NE_u_r : Hid (w2.heap.size ≠ w.heap.size) := by show _ ≠ _; omega
  clear hlr
  have LE_u : Hid (w.heap.size ≤ w2.heap.size) := HBw2.out.size
  have HXrw3 := hid (HXrw2.out.below h1.2)
  have HBw3 := hid (bel HBw2.out h1.2)
  have HXuw3 := hid h1.1
  clear HXrw2 HBw2
  clear h1
  go_wp2_with fail
  refine (HS0.out _).mono ?_
  rintro e w4 ⟨rfl, hbx⟩
  have HXrw4 := hid (HXrw3.out.below hbx)
  have HXuw4 := hid (HXuw3.out.below hbx)
  have HBw4 := hid (bel HBw3.out hbx)
  clear HXrw3 HXuw3 HBw3
  clear hbx
  cases hb : bgn T with
  | true =>
   have HB1 := HBG.out T
   rw [hb] at HB1
   have HB2 := hid HB1
   have HO3 : Hid (O = some { uF with pth := walk FILE [] T }) := by show _ = _; rw [HO2.out, hb]; rfl
   clear HB1 hb HO2
   go_wp2_with fail
   refine (HB2.out _ (by omega)).mono ?_
   rintro e wx ⟨rfl, hwx⟩
   obtain rfl : w4 = wx := by first | exact hwx | exact hwx.symm
   clear hwx
   go_wp2_with fail
   refine (HWK.out none 0 0 [] T _ (Rds.nil _) (Nat.le_refl _) (Nat.zero_le _) (by omega)).mono ?_
   rintro e w5 ⟨q, rfl, hown, hbx⟩
   obtain ⟨Aq, cq, rfl, hq⟩ := pth_of_owned (u := { U0 with pth := walk FILE [] T }) hown
   clear hq
   replace hown := owns_base hown (Nat.le_refl _)
   have HLu : Hid (w2.heap.size < w4.heap.size) := HXuw4.out.lt
   have HLr : Hid (w.heap.size < w4.heap.size) := HXrw4.out.lt
   have HXrw5 := hid (HXrw4.out.below hbx)
   have HXuw5 := hid (HXuw4.out.below hbx)
   have HBw5 := hid (bel HBw4.out hbx)
   have HOqw5 := hid hown
   clear hown
   clear HXrw4 HXuw4 HBw4
   clear hbx
   have hlu := HLu.out
   have cx := HXuw5.out.facts.2.2.2.2.2.2.2.2.1
   have fx := HXuw5.out.thaw.2.2.2.2.2.2.2.2.1
   go_upto_region 18 with (fail)
   have hxr := HXrw5.out.set (k := w2.heap.size) (i := 8) (.slice Aq (walk FILE [] T).length cq) (NE_r_u.out)
   have hxu := HXuw5.out.path (.slice Aq (walk FILE [] T).length cq)
   have hoq := SixC.owns_other (w' := w5.setCell ⟨w2.heap.size, 8, none⟩ (.slice Aq (walk FILE [] T).length cq)) (gb := w2.heap.size) HOqw5.out (fun k hk => heap_setCell_other _ _ _ _ hk) (by omega)
   have hb := HBw5.out.setCell (p := ⟨w2.heap.size, 8, none⟩) (LE_u.out) (.slice Aq (walk FILE [] T).length cq)
   clear HXrw5 HXuw5 HOqw5 HBw5
   clear cx fx
   generalize World.setCell w5 _ _ = w6 at hxr hxu hoq hb ⊢
   have HXrw6 : Hid (UB w6 (w.heap.size) (U0) (.slice none 0 0)) := hxr
   clear hxr
   have HXuw6 : Hid (UB w6 (w2.heap.size) (uF) (.slice Aq (walk FILE [] T).length cq)) := hxu
   clear hxu
   have HOqw6 := hid hoq
   clear hoq
   have HBw6 := hid hb
   clear hb
   clear hlu
   obtain ⟨c0, c1, c2', c3, c4, c5, c6, c7, c8, c9, c10, c11, c12⟩ := HXuw6.out.facts
   go_wp2_with (refine store_box HXrw6.out (uF) Aq (walk FILE [] T).length cq (.tmp 4) (.tmp 72) rfl rfl rfl rfl ?_)
   try simp only [Exit.inBlock, Exit.then]
   have hpo : ∀ k, k ≠ w.heap.size → (World.setRow w6 (w.heap.size) (cells (uF) (.slice Aq (walk FILE [] T).length cq))).heap[k]? = w6.heap[k]? := fun k hk => setRow_other _ _ _ _ hk
   have ho := owns_base (SixC.owns_other HOqw6.out hpo HLr.out) (by have h1 := LE_r.out; have h2 := HLr.out; omega : w.heap.size ≤ _)
   exact bodyPost_ret (w := World.setRow w6 w.heap.size (cells (uF) (.slice Aq (walk FILE [] T).length cq))) (res2 (u := uF) (p := .slice Aq (walk FILE [] T).length cq) rfl (HXrw6.out.row (uF) _) true _ rfl rfl) rfl (ans_some (u := { uF with pth := walk FILE [] T }) HO3.out (below_setRow HBw6.out LE_r.out _) ho)
  | false =>
   have HB1 := HBG.out T
   rw [hb] at HB1
   have HB2 := hid HB1
   have HO3 : Hid (O = some { uF with pth := walk FILE [] T }) := by show _ = _; rw [HO2.out, hb]; rfl
   clear HB1 hb HO2
   go_wp2_with fail
   refine (HB2.out _ (by omega)).mono ?_
   rintro e wx ⟨rfl, hwx⟩
   obtain rfl : w4 = wx := by first | exact hwx | exact hwx.symm
   clear hwx
   go_wp2_with fail
   refine (shorten_any true none 0 0 [] _ (Rds.nil _) (Nat.le_refl _) (Nat.zero_le _) (by omega)).mono ?_
   rintro e w5 ⟨v, rfl, hown, hbx⟩
   obtain ⟨A4, c4, rfl, h4, h5, h6⟩ := owns_form hown
   have HXrw5 := hid (HXrw4.out.below hbx)
   have HXuw5 := hid (HXuw4.out.below hbx)
   have HBw5 := hid (bel HBw4.out hbx)
   clear HXrw4 HXuw4 HBw4
   clear hbx hown
   rw [show sho true [] = [] from rfl] at h4 h6 ⊢
   go_wp2_with fail
   refine (HWK.out A4 _ c4 [] T _ h6 h4 h5 (by simp; omega)).mono ?_
   rintro e w6 ⟨q, rfl, hown, hbx⟩
   obtain ⟨Aq, cq, rfl, hq⟩ := pth_of_owned (u := { U0 with pth := walk FILE [] T }) hown
   clear hq
   replace hown := owns_base hown (Nat.le_refl _)
   have HLu : Hid (w2.heap.size < w5.heap.size) := HXuw5.out.lt
   have HLr : Hid (w.heap.size < w5.heap.size) := HXrw5.out.lt
   have HXrw6 := hid (HXrw5.out.below hbx)
   have HXuw6 := hid (HXuw5.out.below hbx)
   have HBw6 := hid (bel HBw5.out hbx)
   have HOqw6 := hid hown
   clear hown
   clear HXrw5 HXuw5 HBw5
   clear hbx
   have hlu := HLu.out
   have cx := HXuw6.out.facts.2.2.2.2.2.2.2.2.1
   have fx := HXuw6.out.thaw.2.2.2.2.2.2.2.2.1
   go_upto_region 18 with (fail)
   have hxr := HXrw6.out.set (k := w2.heap.size) (i := 8) (.slice Aq (walk FILE [] T).length cq) (NE_r_u.out)
   have hxu := HXuw6.out.path (.slice Aq (walk FILE [] T).length cq)
   have hoq := SixC.owns_other (w' := w6.setCell ⟨w2.heap.size, 8, none⟩ (.slice Aq (walk FILE [] T).length cq)) (gb := w2.heap.size) HOqw6.out (fun k hk => heap_setCell_other _ _ _ _ hk) (by omega)
   have hb := HBw6.out.setCell (p := ⟨w2.heap.size, 8, none⟩) (LE_u.out) (.slice Aq (walk FILE [] T).length cq)
   clear HXrw6 HXuw6 HOqw6 HBw6
   clear cx fx
   generalize World.setCell w6 _ _ = w7 at hxr hxu hoq hb ⊢
   have HXrw7 : Hid (UB w7 (w.heap.size) (U0) (.slice none 0 0)) := hxr
   clear hxr
   have HXuw7 : Hid (UB w7 (w2.heap.size) (uF) (.slice Aq (walk FILE [] T).length cq)) := hxu
   clear hxu
   have HOqw7 := hid hoq
   clear hoq
   have HBw7 := hid hb
   clear hb
   clear hlu
   obtain ⟨c0, c1, c2', c3, c4, c5, c6, c7, c8, c9, c10, c11, c12⟩ := HXuw7.out.facts
   go_wp2_with (refine store_box HXrw7.out (uF) Aq (walk FILE [] T).length cq (.tmp 4) (.tmp 72) rfl rfl rfl rfl ?_)
   try simp only [Exit.inBlock, Exit.then]
   have hpo : ∀ k, k ≠ w.heap.size → (World.setRow w7 (w.heap.size) (cells (uF) (.slice Aq (walk FILE [] T).length cq))).heap[k]? = w7.heap[k]? := fun k hk => setRow_other _ _ _ _ hk
   have ho := owns_base (SixC.owns_other HOqw7.out hpo HLr.out) (by have h1 := LE_r.out; have h2 := HLr.out; omega : w.heap.size ≤ _)
   exact bodyPost_ret (w := World.setRow w7 w.heap.size (cells (uF) (.slice Aq (walk FILE [] T).length cq))) (res2 (u := uF) (p := .slice Aq (walk FILE [] T).length cq) rfl (HXrw7.out.row (uF) _) true _ rfl rfl) rfl (ans_some (u := { uF with pth := walk FILE [] T }) HO3.out (below_setRow HBw7.out LE_r.out _) ho)
end Go.Proofs.YtmdofbccebkbiaaGreatDoor.PrsF
