/- Texts that belong together: Q8, PrsK, PrsI, PrsJ. -/
import Derived.Test.YtmdofbccebkbiaaGreatDoorMI
import Derived.Test.YtmdofbccebkbiaaGreatDoorMG
import Derived.Test.YtmdofbccebkbiaaGreatDoorMA
set_option linter.unusedSimpArgs false
set_option linter.unusedVariables false
set_option maxRecDepth 100000
set_option maxHeartbeats 64000000
namespace Go.Proofs.YtmdofbccebkbiaaGreatDoor.Q8
open Go.RowKit Base eH aT dM iT pR Ba oW mY aI AZ sJ Eh zV Pbx zU Ce lI uT
theorem qy (T : List UInt8) (w : World) (hs : T.length ≤ 1000000) (hM : Max w) : Calls Tryz.prog 40 #[.string (strOf T)] w fun e w' => e = .returned (.agg (eX (aI.apart T))) ∧ Below w.heap.size w w' := by
 obtain ⟨O, hO⟩ : ∃ O, O = aI.apart T := ⟨_, rfl⟩
 rw [← hO]
 obtain ⟨F1, F2, fb, hHF⟩ : ∃ a b c, fB 35 T = (a, b, c) := ⟨_, _, _, rfl⟩
 obtain ⟨Q1, Q2, qb, hHQ⟩ : ∃ a b c, fB 63 F1 = (a, b, c) := ⟨_, _, _, rfl⟩
 obtain ⟨C1, C2, cb, hHC⟩ : ∃ a b c, fB 58 Q1 = (a, b, c) := ⟨_, _, _, rfl⟩
 have hl1 := oZ 35 T
 have hl2 := oZ 63 F1
 have hl3 := oZ 58 Q1
 rw [hHF] at hl1
 rw [hHQ] at hl2
 rw [hHC] at hl3
 simp only at hl1 hl2 hl3
 unfold aI.apart at hO
 rw [hHF] at hO
 simp only at hO
 rw [hHQ] at hO
 simp only at hO
 rw [hHC] at hO
 simp only at hO
 have HF : ∀ w : World, Max w → Calls Tryz.prog 80 #[.string (strOf T), .string ⟨#[35]⟩] w fun e w' => e = .returned (.tuple #[.string (strOf F1), .string (strOf F2), .bool fb]) ∧ Below w.heap.size w w' := fun w ⟨m, hm⟩ => (Tryz.strings_Cut (strOf T) ⟨#[35]⟩ m w (by rw [ah]; omega) hm).mono fun e w' ⟨h1, q, h2⟩ => ⟨by rw [h1, show (strOf T).data.toList = T from rfl, show (⟨#[35]⟩ : ByteArray).data.toList = [35] from rfl, xY, hHF]; rfl, by rw [h2]; exact Base.below_drewN (Below.refl _ _) _⟩
 have HQ : ∀ w : World, Max w → Calls Tryz.prog 80 #[.string (strOf F1), .string ⟨#[63]⟩] w fun e w' => e = .returned (.tuple #[.string (strOf Q1), .string (strOf Q2), .bool qb]) ∧ Below w.heap.size w w' := fun w ⟨m, hm⟩ => (Tryz.strings_Cut (strOf F1) ⟨#[63]⟩ m w (by rw [ah]; omega) hm).mono fun e w' ⟨h1, q, h2⟩ => ⟨by rw [h1, show (strOf F1).data.toList = F1 from rfl, show (⟨#[63]⟩ : ByteArray).data.toList = [63] from rfl, xY, hHQ]; rfl, by rw [h2]; exact Base.below_drewN (Below.refl _ _) _⟩
 have HC : ∀ w : World, Max w → Calls Tryz.prog 80 #[.string (strOf Q1), .string ⟨#[58]⟩] w fun e w' => e = .returned (.tuple #[.string (strOf C1), .string (strOf C2), .bool cb]) ∧ Below w.heap.size w w' := fun w ⟨m, hm⟩ => (Tryz.strings_Cut (strOf Q1) ⟨#[58]⟩ m w (by rw [ah]; omega) hm).mono fun e w' ⟨h1, q, h2⟩ => ⟨by rw [h1, show (strOf Q1).data.toList = Q1 from rfl, show (⟨#[58]⟩ : ByteArray).data.toList = [58] from rfl, xY, hHC]; rfl, by rw [h2]; exact Base.below_drewN (Below.refl _ _) _⟩
 have HF9 := hid HF
 have HQ9 := hid HQ
 have HC9 := hid HC
 have HIS : Hid (∀ w : World, Calls Tryz.prog 81 #[.string (strOf C1)] w fun e w' => e = .returned (.bool (lW C1)) ∧ w' = w) := fun w => Nj (strOf C1) w (dI (by omega))
 have HLO : Hid (∀ w : World, Calls Tryz.prog 82 #[.string (strOf C1)] w fun e w' => e = .returned (.string (strOf (lower C1))) ∧ Below w.heap.size w w') := fun w => lX (strOf C1) w (by rw [ah]; unfold maxLen; omega)
 have HO := hid hO
 have HM := hid hM
 clear HF HQ HC hHF hHQ hHC hO hM hl1 hl2 hl3
 go_enter Tryz.func40, Tryz.ntmps40
 go_upto_region 1 with (fail)
 generalize hw : World.alloc w _ = w1
 have h1 : PB w1 (w.heap.size) (P0) ∧ Below w.heap.size w w1 := by
  subst hw
  exact laid1 w _ _
 clear hw
 have bG : Hid (w.heap.size ≤ w.heap.size) := (Below.refl w.heap.size w).size
 have bU := hid (bel (Below.refl w.heap.size w) h1.2)
 have aY := hid h1.1
 clear h1
 go_upto_region 2 with (fail)
 generalize hw : World.alloc w1 _ = w2
 have h1 : PB w2 (w1.heap.size) (P0) ∧ Below w1.heap.size w1 w2 := by
  subst hw
  exact laid1 w1 _ _
 clear hw
 have hlr := aY.out.lt
 have aO : Hid (w.heap.size ≠ w1.heap.size) := by show _ ≠ _; omega
 have nS : Hid (w1.heap.size ≠ w.heap.size) := by show _ ≠ _; omega
 clear hlr
 have dN : Hid (w.heap.size ≤ w1.heap.size) := bU.out.size
 have bT := hid (aY.out.below h1.2)
 have dY := hid (bel bU.out h1.2)
 have fF := hid h1.1
 clear aY bU
 clear h1
 go_wp2_with fail
 refine (HF9.out _ (HM.out.below dY.out)).mono ?_
 rintro e w3 ⟨rfl, hbx⟩
 have bD := hid (bT.out.below hbx)
 have dS := hid (fF.out.below hbx)
 have dD := hid (bel dY.out hbx)
 clear bT fF dY
 clear hbx
 have cx3 := dS.out.facts.2.2.2.1
 have fx3 := dS.out.thaw.2.2.2.1
 have cx5 := dS.out.facts.2.2.2.2.2
 have fx5 := dS.out.thaw.2.2.2.2.2
 go_upto_region 3 with (fail)
 have hxr := ((bD.out.set (k := w1.heap.size) (i := 3) (.string (strOf F2)) aO.out).set (k := w1.heap.size) (i := 5) (.bool fb) aO.out)
 have hxu := ((dS.out.fH F2).hf fb)
 have hb := ((dD.out.setCell (p := ⟨w1.heap.size, 3, none⟩) dN.out (.string (strOf F2))).setCell (p := ⟨w1.heap.size, 5, none⟩) dN.out (.bool fb))
 clear bD dS dD
 clear cx3 fx3 cx5 fx5
 generalize (World.setCell (World.setCell w3 ⟨w1.heap.size, 3, none⟩ (.string (strOf F2))) ⟨w1.heap.size, 5, none⟩ (.bool fb)) = w4 at hxr hxu hb ⊢
 have bg : Hid (PB w4 (w.heap.size) (P0)) := hxr
 clear hxr
 have bV : Hid (PB w4 (w1.heap.size) ({ P0 with fH := F2, hf := fb })) := hxu
 clear hxu
 have bZ := hid hb
 clear hb
 go_wp2_with fail
 refine (HQ9.out _ (HM.out.below bZ.out)).mono ?_
 rintro e w5 ⟨rfl, hbx⟩
 have bf := hid (bg.out.below hbx)
 have aX := hid (bV.out.below hbx)
 have dQ := hid (bel bZ.out hbx)
 clear bg bV bZ
 clear hbx
 have cx2 := aX.out.facts.2.2.1
 have fx2 := aX.out.thaw.2.2.1
 have cx4 := aX.out.facts.2.2.2.2.1
 have fx4 := aX.out.thaw.2.2.2.2.1
 go_upto_region 4 with (fail)
 have hxr := ((bf.out.set (k := w1.heap.size) (i := 2) (.string (strOf Q2)) aO.out).set (k := w1.heap.size) (i := 4) (.bool qb) aO.out)
 have hxu := ((aX.out.eu Q2).hq qb)
 have hb := ((dQ.out.setCell (p := ⟨w1.heap.size, 2, none⟩) dN.out (.string (strOf Q2))).setCell (p := ⟨w1.heap.size, 4, none⟩) dN.out (.bool qb))
 clear bf aX dQ
 clear cx2 fx2 cx4 fx4
 generalize (World.setCell (World.setCell w5 ⟨w1.heap.size, 2, none⟩ (.string (strOf Q2))) ⟨w1.heap.size, 4, none⟩ (.bool qb)) = w6 at hxr hxu hb ⊢
 have bF : Hid (PB w6 (w.heap.size) (P0)) := hxr
 clear hxr
 have aV : Hid (PB w6 (w1.heap.size) ({ P0 with fH := F2, hf := fb, eu := Q2, hq := qb })) := hxu
 clear hxu
 have dZ := hid hb
 clear hb
 have cx1 := aV.out.facts.2.1
 have fx1 := aV.out.thaw.2.1
 go_upto_region 5 with (fail)
 have hxr := (bF.out.set (k := w1.heap.size) (i := 1) (.string (strOf Q1)) aO.out)
 have hxu := (aV.out.rest Q1)
 have hb := (dZ.out.setCell (p := ⟨w1.heap.size, 1, none⟩) dN.out (.string (strOf Q1)))
 clear bF aV dZ
 clear cx1 fx1
 generalize (World.setCell w6 ⟨w1.heap.size, 1, none⟩ (.string (strOf Q1))) = w7 at hxr hxu hb ⊢
 have cu : Hid (PB w7 (w.heap.size) (P0)) := hxr
 clear hxr
 have cZ : Hid (PB w7 (w1.heap.size) ({ P0 with fH := F2, hf := fb, eu := Q2, hq := qb, rest := Q1 })) := hxu
 clear hxu
 have fZ := hid hb
 clear hb
 go_wp2_with fail
 refine (HC9.out _ (HM.out.below fZ.out)).mono ?_
 rintro e w8 ⟨rfl, hbx⟩
 have fJ := hid (cu.out.below hbx)
 have gY := hid (cZ.out.below hbx)
 have nK := hid (bel fZ.out hbx)
 clear cu cZ fZ
 clear hbx
 cases cb with
 | false =>
  have iH : Hid (O = ⟨[], Q1, Q2, F2, qb, fb⟩) := by show _ = _; rw [HO.out]; first | done | rfl | simp
  clear HO
  obtain ⟨p0, p1, p2, p3, p4, p5⟩ := gY.out.facts
  go_wp2_with (refine yS fJ.out ({ P0 with fH := F2, hf := fb, eu := Q2, hq := qb, rest := Q1 }) (.tmp 2) (.tmp 41) rfl rfl rfl rfl ?_)
  try simp only [Exit.inBlock, Exit.then]
  exact bodyPost_ret (w := World.setRow w8 (w.heap.size) (eX ({ P0 with fH := F2, hf := fb, eu := Q2, hq := qb, rest := Q1 }))) (resP (p := { P0 with fH := F2, hf := fb, eu := Q2, hq := qb, rest := Q1 }) rfl (fJ.out.row ({ P0 with fH := F2, hf := fb, eu := Q2, hq := qb, rest := Q1 })) _ rfl) rfl ⟨by rw [iH.out]; first | done | rfl, below_setRow nK.out bG.out _⟩
 | true =>
  cases hi : lW C1 with
  | false =>
   have iH : Hid (O = ⟨[], Q1, Q2, F2, qb, fb⟩) := by show _ = _; rw [HO.out, hi]; first | done | rfl | simp
   rw [hi] at HIS
   clear HO hi
   go_wp2_with fail
   refine (HIS.out _).mono ?_
   rintro e wx ⟨rfl, hwx⟩
   obtain rfl : w8 = wx := by first | exact hwx | exact hwx.symm
   clear hwx
   obtain ⟨p0, p1, p2, p3, p4, p5⟩ := gY.out.facts
   go_wp2_with (refine yS fJ.out ({ P0 with fH := F2, hf := fb, eu := Q2, hq := qb, rest := Q1 }) (.tmp 2) (.tmp 41) rfl rfl rfl rfl ?_)
   try simp only [Exit.inBlock, Exit.then]
   exact bodyPost_ret (w := World.setRow w8 (w.heap.size) (eX ({ P0 with fH := F2, hf := fb, eu := Q2, hq := qb, rest := Q1 }))) (resP (p := { P0 with fH := F2, hf := fb, eu := Q2, hq := qb, rest := Q1 }) rfl (fJ.out.row ({ P0 with fH := F2, hf := fb, eu := Q2, hq := qb, rest := Q1 })) _ rfl) rfl ⟨by rw [iH.out]; first | done | rfl, below_setRow nK.out bG.out _⟩
  | true =>
   have iH : Hid (O = ⟨lower C1, C2, Q2, F2, qb, fb⟩) := by show _ = _; rw [HO.out, hi]; first | done | rfl | simp
   rw [hi] at HIS
   clear HO hi
   go_wp2_with fail
   refine (HIS.out _).mono ?_
   rintro e wx ⟨rfl, hwx⟩
   obtain rfl : w8 = wx := by first | exact hwx | exact hwx.symm
   clear hwx
   go_wp2_with fail
   refine (HLO.out _).mono ?_
   rintro e w9 ⟨rfl, hbx⟩
   have mQ := hid (fJ.out.below hbx)
   have mV := hid (gY.out.below hbx)
   have nM := hid (bel nK.out hbx)
   clear fJ gY nK
   clear hbx
   have cx0 := mV.out.facts.1
   have fx0 := mV.out.thaw.1
   have cx1 := mV.out.facts.2.1
   have fx1 := mV.out.thaw.2.1
   go_upto_region 8 with (fail)
   have hxr := ((mQ.out.set (k := w1.heap.size) (i := 0) (.string (strOf (lower C1))) aO.out).set (k := w1.heap.size) (i := 1) (.string (strOf C2)) aO.out)
   have hxu := ((mV.out.au (lower C1)).rest C2)
   have hb := ((nM.out.setCell (p := ⟨w1.heap.size, 0, none⟩) dN.out (.string (strOf (lower C1)))).setCell (p := ⟨w1.heap.size, 1, none⟩) dN.out (.string (strOf C2)))
   clear mQ mV nM
   clear cx0 fx0 cx1 fx1
   generalize (World.setCell (World.setCell w9 ⟨w1.heap.size, 0, none⟩ (.string (strOf (lower C1)))) ⟨w1.heap.size, 1, none⟩ (.string (strOf C2))) = w10 at hxr hxu hb ⊢
   have mP : Hid (PB w10 (w.heap.size) (P0)) := hxr
   clear hxr
   have iR : Hid (PB w10 (w1.heap.size) ({ P0 with fH := F2, hf := fb, eu := Q2, hq := qb, rest := C2, au := lower C1 })) := hxu
   clear hxu
   have tq := hid hb
   clear hb
   obtain ⟨p0, p1, p2, p3, p4, p5⟩ := iR.out.facts
   go_wp2_with (refine yS mP.out ({ P0 with fH := F2, hf := fb, eu := Q2, hq := qb, rest := C2, au := lower C1 }) (.tmp 2) (.tmp 41) rfl rfl rfl rfl ?_)
   try simp only [Exit.inBlock, Exit.then]
   exact bodyPost_ret (w := World.setRow w10 (w.heap.size) (eX ({ P0 with fH := F2, hf := fb, eu := Q2, hq := qb, rest := C2, au := lower C1 }))) (resP (p := { P0 with fH := F2, hf := fb, eu := Q2, hq := qb, rest := C2, au := lower C1 }) rfl (mP.out.row ({ P0 with fH := F2, hf := fb, eu := Q2, hq := qb, rest := C2, au := lower C1 })) _ rfl) rfl ⟨by rw [iH.out]; first | done | rfl, below_setRow tq.out bG.out _⟩
theorem Hr (u : U) (p : Parts) (A : Option Addr) (n c : Nat) (w : World) (h1 : p.eu.length ≤ 1000000) (h2 : p.fH.length ≤ 1000000) : Calls Tryz.prog 42 #[.agg (cells u (.slice A n c)), .agg (eX p)] w fun e w' => e = .returned (.agg (cells (aI.finish u p) (.slice A n c))) ∧ Below w.heap.size w w' := by
 obtain ⟨O, hO⟩ : ∃ O, O = aI.finish u p := ⟨_, rfl⟩
 rw [← hO]
 have zQ : Hid (∀ w : World, Calls Tryz.prog 84 #[.string (strOf u.au)] w fun e w' => e = .returned (.bool (special u.au)) ∧ w' = w) := fun w => jo (strOf u.au) w
 obtain ⟨pv, hpv⟩ : ∃ q, q = Value.slice A n c := ⟨_, rfl⟩
 obtain ⟨s, r, q, f, hq, hf⟩ := p
 have HO := hid hO
 clear hO
 simp only at h1 h2
 go_enter Tryz.func42, Tryz.ntmps42
 go_upto_region 1 with (fail)
 generalize hw : World.alloc (World.alloc (World.alloc w _) _) _ = w1
 have h1 : UB w1 (w.heap.size) (u) (.slice A n c) ∧ PB w1 ((w.heap.size + 1)) (⟨s, r, q, f, hq, hf⟩) ∧ UB w1 ((w.heap.size + 1 + 1)) (U0) (.slice none 0 0) ∧ Below w.heap.size w w1 := by
  subst hw
  exact Zu w _ _ _ _ _ _
 clear hw
 have L6 : Hid (w.heap.size ≠ (w.heap.size + 1)) := by show _ ≠ _; omega
 have nS : Hid (w.heap.size ≠ (w.heap.size + 1 + 1)) := by show _ ≠ _; omega
 have dN : Hid (w.heap.size ≤ w.heap.size) := by show _ ≤ _; omega
 have jr : Hid ((w.heap.size + 1) ≠ w.heap.size) := by show _ ≠ _; omega
 have LX : Hid ((w.heap.size + 1) ≠ (w.heap.size + 1 + 1)) := by show _ ≠ _; omega
 have VN : Hid (w.heap.size ≤ (w.heap.size + 1)) := by show _ ≤ _; omega
 have aO : Hid ((w.heap.size + 1 + 1) ≠ w.heap.size) := by show _ ≠ _; omega
 have LY : Hid ((w.heap.size + 1 + 1) ≠ (w.heap.size + 1)) := by show _ ≠ _; omega
 have bG : Hid (w.heap.size ≤ (w.heap.size + 1 + 1)) := by show _ ≤ _; omega
 have rM := hid h1.1
 have dK := hid h1.2.1
 have aY := hid h1.2.2.1
 have bU := hid h1.2.2.2
 clear h1
 cases hq with
 | false =>
  have jQ : Hid (O = if hf = true then { u with hf := true, fH := aH.enc 1 f } else u) := by show _ = _; rw [HO.out]; unfold aI.finish; first | done | rfl | simp
  obtain ⟨p0, p1, p2, p3, p4, p5⟩ := dK.out.facts
  go_upto_region 6 with (fail)
  clear p0 p1 p2 p3 p4 p5
  cases hf with
  | false =>
   have iH : Hid (O = u) := by show _ = _; rw [jQ.out]; first | done | rfl | simp
   obtain ⟨p0, p1, p2, p3, p4, p5⟩ := dK.out.facts
   obtain ⟨c0, c1, c2', c3, c4, c5, c6, c7, c8, c9, c10, c11, c12⟩ := rM.out.facts
   go_wp2_with (refine ak aY.out (u) A n c (.tmp 4) (.tmp 26) rfl rfl rfl rfl ?_)
   try simp only [Exit.inBlock, Exit.then]
   exact bodyPost_ret (w := World.setRow w1 (w.heap.size + 1 + 1) (cells (u) (.slice A n c))) (res1 (u := u) (p := .slice A n c) rfl (aY.out.row (u) _) _ rfl) rfl ⟨by rw [iH.out]; first | done | rfl, below_setRow bU.out bG.out _⟩
  | true =>
   have iH : Hid (O = { u with hf := true, fH := aH.enc 1 f }) := by show _ = _; rw [jQ.out]; first | done | rfl | simp
   obtain ⟨p0, p1, p2, p3, p4, p5⟩ := dK.out.facts
   have hcv := fun (w : World) s => run_bytes_of_string (P := Tryz.prog) w 9 61 5 s Tryz.underlying9 Tryz.underlying61 Tryz.underlying5
   go_wp2_with fail
   clear hcv
   refine (aH.eU 1 _ _ _ f _ (gB (strOf f) _ _ _) (dI (by omega))).mono ?_
   rintro e w2 ⟨rfl, hb0⟩
   have hbx : Below w1.heap.size w1 w2 := bel (((Below.refl w1.heap.size w1).alloc (Nat.le_refl _) _).drew) hb0
   clear hb0
   have fF := hid (rM.out.below hbx)
   have jS := hid (dK.out.below hbx)
   have bT := hid (aY.out.below hbx)
   have dY := hid (bel bU.out hbx)
   clear rM dK aY bU
   clear hbx
   clear p0 p1 p2 p3 p4 p5
   have YD := fF.out.facts.2.2.2.2.2.2.2.2.2.2.1
   have YZ := fF.out.thaw.2.2.2.2.2.2.2.2.2.2.1
   have YE := fF.out.facts.2.2.2.2.2.2.2.2.2.2.2.2
   have Y0 := fF.out.thaw.2.2.2.2.2.2.2.2.2.2.2.2
   go_upto_region 8 with (fail)
   have hxu := ((fF.out.hf true).fH (aH.enc 1 f))
   have hxp := ((jS.out.set (k := w.heap.size) (i := 10) (.bool true) jr.out).set (k := w.heap.size) (i := 12) (.string (strOf (aH.enc 1 f))) jr.out)
   have hxr := ((bT.out.set (k := w.heap.size) (i := 10) (.bool true) aO.out).set (k := w.heap.size) (i := 12) (.string (strOf (aH.enc 1 f))) aO.out)
   have hb := ((dY.out.setCell (p := ⟨w.heap.size, 10, none⟩) dN.out (.bool true)).setCell (p := ⟨w.heap.size, 12, none⟩) dN.out (.string (strOf (aH.enc 1 f))))
   clear fF jS bT dY
   clear YD YZ YE Y0
   generalize (World.setCell (World.setCell w2 ⟨w.heap.size, 10, none⟩ (.bool true)) ⟨w.heap.size, 12, none⟩ (.string (strOf (aH.enc 1 f)))) = w3 at hxu hxp hxr hb ⊢
   have dS : Hid (UB w3 (w.heap.size) ({ u with hf := true, fH := aH.enc 1 f }) (.slice A n c)) := hxu
   clear hxu
   have oQ : Hid (PB w3 ((w.heap.size + 1)) (⟨s, r, q, f, false, true⟩)) := hxp
   clear hxp
   have bD : Hid (UB w3 ((w.heap.size + 1 + 1)) (U0) (.slice none 0 0)) := hxr
   clear hxr
   have dD := hid hb
   clear hb
   obtain ⟨c0, c1, c2', c3, c4, c5, c6, c7, c8, c9, c10, c11, c12⟩ := dS.out.facts
   go_wp2_with (refine ak bD.out ({ u with hf := true, fH := aH.enc 1 f }) A n c (.tmp 4) (.tmp 26) rfl rfl rfl rfl ?_)
   try simp only [Exit.inBlock, Exit.then]
   exact bodyPost_ret (w := World.setRow w3 (w.heap.size + 1 + 1) (cells ({ u with hf := true, fH := aH.enc 1 f }) (.slice A n c))) (res1 (u := { u with hf := true, fH := aH.enc 1 f }) (p := .slice A n c) rfl (bD.out.row ({ u with hf := true, fH := aH.enc 1 f }) _) _ rfl) rfl ⟨by rw [iH.out]; first | done | rfl, below_setRow dD.out bG.out _⟩
 | true =>
  cases hs : special u.au with
  | false =>
   have jQ : Hid (O = if hf = true then { { u with hq := true, eu := aH.enc 2 q } with hf := true, fH := aH.enc 1 f } else { u with hq := true, eu := aH.enc 2 q }) := by show _ = _; rw [HO.out]; unfold aI.finish; simp only [hs]; first | done | rfl | simp
   rw [hs] at zQ
   clear hs
   obtain ⟨p0, p1, p2, p3, p4, p5⟩ := dK.out.facts
   have cs0 := rM.out.facts.1
   go_wp2_with fail
   refine (zQ.out _).mono ?_
   rintro e wx ⟨rfl, hwx⟩
   obtain rfl : w1 = wx := by first | exact hwx | exact hwx.symm
   clear hwx
   have hcv := fun (w : World) s => run_bytes_of_string (P := Tryz.prog) w 9 61 5 s Tryz.underlying9 Tryz.underlying61 Tryz.underlying5
   go_wp2_with fail
   clear hcv
   refine (aH.eU 2 _ _ _ q _ (gB (strOf q) _ _ _) (dI (by omega))).mono ?_
   rintro e w2 ⟨rfl, hb0⟩
   have hbx : Below w1.heap.size w1 w2 := bel (((Below.refl w1.heap.size w1).alloc (Nat.le_refl _) _).drew) hb0
   clear hb0
   have fF := hid (rM.out.below hbx)
   have jS := hid (dK.out.below hbx)
   have bT := hid (aY.out.below hbx)
   have dY := hid (bel bU.out hbx)
   clear rM dK aY bU
   clear hbx
   clear p0 p1 p2 p3 p4 p5
   clear cs0
   have cx9 := fF.out.facts.2.2.2.2.2.2.2.2.2.1
   have fx9 := fF.out.thaw.2.2.2.2.2.2.2.2.2.1
   have cx11 := fF.out.facts.2.2.2.2.2.2.2.2.2.2.2.1
   have fx11 := fF.out.thaw.2.2.2.2.2.2.2.2.2.2.2.1
   go_upto_region 6 with (fail)
   have hxu := ((fF.out.hq true).eu (aH.enc 2 q))
   have hxp := ((jS.out.set (k := w.heap.size) (i := 9) (.bool true) jr.out).set (k := w.heap.size) (i := 11) (.string (strOf (aH.enc 2 q))) jr.out)
   have hxr := ((bT.out.set (k := w.heap.size) (i := 9) (.bool true) aO.out).set (k := w.heap.size) (i := 11) (.string (strOf (aH.enc 2 q))) aO.out)
   have hb := ((dY.out.setCell (p := ⟨w.heap.size, 9, none⟩) dN.out (.bool true)).setCell (p := ⟨w.heap.size, 11, none⟩) dN.out (.string (strOf (aH.enc 2 q))))
   clear fF jS bT dY
   clear cx9 fx9 cx11 fx11
   generalize (World.setCell (World.setCell w2 ⟨w.heap.size, 9, none⟩ (.bool true)) ⟨w.heap.size, 11, none⟩ (.string (strOf (aH.enc 2 q)))) = w3 at hxu hxp hxr hb ⊢
   have dS : Hid (UB w3 (w.heap.size) ({ u with hq := true, eu := aH.enc 2 q }) (.slice A n c)) := hxu
   clear hxu
   have oQ : Hid (PB w3 ((w.heap.size + 1)) (⟨s, r, q, f, true, hf⟩)) := hxp
   clear hxp
   have bD : Hid (UB w3 ((w.heap.size + 1 + 1)) (U0) (.slice none 0 0)) := hxr
   clear hxr
   have dD := hid hb
   clear hb
   cases hf with
   | false =>
    have iH : Hid (O = { u with hq := true, eu := aH.enc 2 q }) := by show _ = _; rw [jQ.out]; first | done | rfl | simp
    obtain ⟨p0, p1, p2, p3, p4, p5⟩ := oQ.out.facts
    obtain ⟨c0, c1, c2', c3, c4, c5, c6, c7, c8, c9, c10, c11, c12⟩ := dS.out.facts
    go_wp2_with (refine ak bD.out ({ u with hq := true, eu := aH.enc 2 q }) A n c (.tmp 4) (.tmp 26) rfl rfl rfl rfl ?_)
    try simp only [Exit.inBlock, Exit.then]
    exact bodyPost_ret (w := World.setRow w3 (w.heap.size + 1 + 1) (cells ({ u with hq := true, eu := aH.enc 2 q }) (.slice A n c))) (res1 (u := { u with hq := true, eu := aH.enc 2 q }) (p := .slice A n c) rfl (bD.out.row ({ u with hq := true, eu := aH.enc 2 q }) _) _ rfl) rfl ⟨by rw [iH.out]; first | done | rfl, below_setRow dD.out bG.out _⟩
   | true =>
    have iH : Hid (O = { u with hq := true, eu := aH.enc 2 q, hf := true, fH := aH.enc 1 f }) := by show _ = _; rw [jQ.out]; first | done | rfl | simp
    obtain ⟨p0, p1, p2, p3, p4, p5⟩ := oQ.out.facts
    have hcv := fun (w : World) s => run_bytes_of_string (P := Tryz.prog) w 9 61 5 s Tryz.underlying9 Tryz.underlying61 Tryz.underlying5
    go_wp2_with fail
    clear hcv
    refine (aH.eU 1 _ _ _ f _ (gB (strOf f) _ _ _) (dI (by omega))).mono ?_
    rintro e w4 ⟨rfl, hb0⟩
    have hbx : Below w3.heap.size w3 w4 := bel (((Below.refl w3.heap.size w3).alloc (Nat.le_refl _) _).drew) hb0
    clear hb0
    have bV := hid (dS.out.below hbx)
    have oU := hid (oQ.out.below hbx)
    have bg := hid (bD.out.below hbx)
    have bZ := hid (bel dD.out hbx)
    clear dS oQ bD dD
    clear hbx
    clear p0 p1 p2 p3 p4 p5
    have YD := bV.out.facts.2.2.2.2.2.2.2.2.2.2.1
    have YZ := bV.out.thaw.2.2.2.2.2.2.2.2.2.2.1
    have YE := bV.out.facts.2.2.2.2.2.2.2.2.2.2.2.2
    have Y0 := bV.out.thaw.2.2.2.2.2.2.2.2.2.2.2.2
    go_upto_region 8 with (fail)
    have hxu := ((bV.out.hf true).fH (aH.enc 1 f))
    have hxp := ((oU.out.set (k := w.heap.size) (i := 10) (.bool true) jr.out).set (k := w.heap.size) (i := 12) (.string (strOf (aH.enc 1 f))) jr.out)
    have hxr := ((bg.out.set (k := w.heap.size) (i := 10) (.bool true) aO.out).set (k := w.heap.size) (i := 12) (.string (strOf (aH.enc 1 f))) aO.out)
    have hb := ((bZ.out.setCell (p := ⟨w.heap.size, 10, none⟩) dN.out (.bool true)).setCell (p := ⟨w.heap.size, 12, none⟩) dN.out (.string (strOf (aH.enc 1 f))))
    clear bV oU bg bZ
    clear YD YZ YE Y0
    generalize (World.setCell (World.setCell w4 ⟨w.heap.size, 10, none⟩ (.bool true)) ⟨w.heap.size, 12, none⟩ (.string (strOf (aH.enc 1 f)))) = w5 at hxu hxp hxr hb ⊢
    have aX : Hid (UB w5 (w.heap.size) ({ u with hq := true, eu := aH.enc 2 q, hf := true, fH := aH.enc 1 f }) (.slice A n c)) := hxu
    clear hxu
    have oV : Hid (PB w5 ((w.heap.size + 1)) (⟨s, r, q, f, true, true⟩)) := hxp
    clear hxp
    have bf : Hid (UB w5 ((w.heap.size + 1 + 1)) (U0) (.slice none 0 0)) := hxr
    clear hxr
    have dQ := hid hb
    clear hb
    obtain ⟨c0, c1, c2', c3, c4, c5, c6, c7, c8, c9, c10, c11, c12⟩ := aX.out.facts
    go_wp2_with (refine ak bf.out ({ u with hq := true, eu := aH.enc 2 q, hf := true, fH := aH.enc 1 f }) A n c (.tmp 4) (.tmp 26) rfl rfl rfl rfl ?_)
    try simp only [Exit.inBlock, Exit.then]
    exact bodyPost_ret (w := World.setRow w5 (w.heap.size + 1 + 1) (cells ({ u with hq := true, eu := aH.enc 2 q, hf := true, fH := aH.enc 1 f }) (.slice A n c))) (res1 (u := { u with hq := true, eu := aH.enc 2 q, hf := true, fH := aH.enc 1 f }) (p := .slice A n c) rfl (bf.out.row ({ u with hq := true, eu := aH.enc 2 q, hf := true, fH := aH.enc 1 f }) _) _ rfl) rfl ⟨by rw [iH.out]; first | done | rfl, below_setRow dQ.out bG.out _⟩
  | true =>
   have jQ : Hid (O = if hf = true then { { u with hq := true, eu := aH.enc 3 q } with hf := true, fH := aH.enc 1 f } else { u with hq := true, eu := aH.enc 3 q }) := by show _ = _; rw [HO.out]; unfold aI.finish; simp only [hs]; first | done | rfl | simp
   rw [hs] at zQ
   clear hs
   obtain ⟨p0, p1, p2, p3, p4, p5⟩ := dK.out.facts
   have cs0 := rM.out.facts.1
   go_wp2_with fail
   refine (zQ.out _).mono ?_
   rintro e wx ⟨rfl, hwx⟩
   obtain rfl : w1 = wx := by first | exact hwx | exact hwx.symm
   clear hwx
   have hcv := fun (w : World) s => run_bytes_of_string (P := Tryz.prog) w 9 61 5 s Tryz.underlying9 Tryz.underlying61 Tryz.underlying5
   go_wp2_with fail
   clear hcv
   refine (aH.eU 3 _ _ _ q _ (gB (strOf q) _ _ _) (dI (by omega))).mono ?_
   rintro e w2 ⟨rfl, hb0⟩
   have hbx : Below w1.heap.size w1 w2 := bel (((Below.refl w1.heap.size w1).alloc (Nat.le_refl _) _).drew) hb0
   clear hb0
   have fF := hid (rM.out.below hbx)
   have jS := hid (dK.out.below hbx)
   have bT := hid (aY.out.below hbx)
   have dY := hid (bel bU.out hbx)
   clear rM dK aY bU
   clear hbx
   clear p0 p1 p2 p3 p4 p5
   clear cs0
   have cx9 := fF.out.facts.2.2.2.2.2.2.2.2.2.1
   have fx9 := fF.out.thaw.2.2.2.2.2.2.2.2.2.1
   have cx11 := fF.out.facts.2.2.2.2.2.2.2.2.2.2.2.1
   have fx11 := fF.out.thaw.2.2.2.2.2.2.2.2.2.2.2.1
   go_upto_region 6 with (fail)
   have hxu := ((fF.out.hq true).eu (aH.enc 3 q))
   have hxp := ((jS.out.set (k := w.heap.size) (i := 9) (.bool true) jr.out).set (k := w.heap.size) (i := 11) (.string (strOf (aH.enc 3 q))) jr.out)
   have hxr := ((bT.out.set (k := w.heap.size) (i := 9) (.bool true) aO.out).set (k := w.heap.size) (i := 11) (.string (strOf (aH.enc 3 q))) aO.out)
   have hb := ((dY.out.setCell (p := ⟨w.heap.size, 9, none⟩) dN.out (.bool true)).setCell (p := ⟨w.heap.size, 11, none⟩) dN.out (.string (strOf (aH.enc 3 q))))
   clear fF jS bT dY
   clear cx9 fx9 cx11 fx11
   generalize (World.setCell (World.setCell w2 ⟨w.heap.size, 9, none⟩ (.bool true)) ⟨w.heap.size, 11, none⟩ (.string (strOf (aH.enc 3 q)))) = w3 at hxu hxp hxr hb ⊢
   have dS : Hid (UB w3 (w.heap.size) ({ u with hq := true, eu := aH.enc 3 q }) (.slice A n c)) := hxu
   clear hxu
   have oQ : Hid (PB w3 ((w.heap.size + 1)) (⟨s, r, q, f, true, hf⟩)) := hxp
   clear hxp
   have bD : Hid (UB w3 ((w.heap.size + 1 + 1)) (U0) (.slice none 0 0)) := hxr
   clear hxr
   have dD := hid hb
   clear hb
   cases hf with
   | false =>
    have iH : Hid (O = { u with hq := true, eu := aH.enc 3 q }) := by show _ = _; rw [jQ.out]; first | done | rfl | simp
    obtain ⟨p0, p1, p2, p3, p4, p5⟩ := oQ.out.facts
    obtain ⟨c0, c1, c2', c3, c4, c5, c6, c7, c8, c9, c10, c11, c12⟩ := dS.out.facts
    go_wp2_with (refine ak bD.out ({ u with hq := true, eu := aH.enc 3 q }) A n c (.tmp 4) (.tmp 26) rfl rfl rfl rfl ?_)
    try simp only [Exit.inBlock, Exit.then]
    exact bodyPost_ret (w := World.setRow w3 (w.heap.size + 1 + 1) (cells ({ u with hq := true, eu := aH.enc 3 q }) (.slice A n c))) (res1 (u := { u with hq := true, eu := aH.enc 3 q }) (p := .slice A n c) rfl (bD.out.row ({ u with hq := true, eu := aH.enc 3 q }) _) _ rfl) rfl ⟨by rw [iH.out]; first | done | rfl, below_setRow dD.out bG.out _⟩
   | true =>
    have iH : Hid (O = { u with hq := true, eu := aH.enc 3 q, hf := true, fH := aH.enc 1 f }) := by show _ = _; rw [jQ.out]; first | done | rfl | simp
    obtain ⟨p0, p1, p2, p3, p4, p5⟩ := oQ.out.facts
    have hcv := fun (w : World) s => run_bytes_of_string (P := Tryz.prog) w 9 61 5 s Tryz.underlying9 Tryz.underlying61 Tryz.underlying5
    go_wp2_with fail
    clear hcv
    refine (aH.eU 1 _ _ _ f _ (gB (strOf f) _ _ _) (dI (by omega))).mono ?_
    rintro e w4 ⟨rfl, hb0⟩
    have hbx : Below w3.heap.size w3 w4 := bel (((Below.refl w3.heap.size w3).alloc (Nat.le_refl _) _).drew) hb0
    clear hb0
    have bV := hid (dS.out.below hbx)
    have oU := hid (oQ.out.below hbx)
    have bg := hid (bD.out.below hbx)
    have bZ := hid (bel dD.out hbx)
    clear dS oQ bD dD
    clear hbx
    clear p0 p1 p2 p3 p4 p5
    have YD := bV.out.facts.2.2.2.2.2.2.2.2.2.2.1
    have YZ := bV.out.thaw.2.2.2.2.2.2.2.2.2.2.1
    have YE := bV.out.facts.2.2.2.2.2.2.2.2.2.2.2.2
    have Y0 := bV.out.thaw.2.2.2.2.2.2.2.2.2.2.2.2
    go_upto_region 8 with (fail)
    have hxu := ((bV.out.hf true).fH (aH.enc 1 f))
    have hxp := ((oU.out.set (k := w.heap.size) (i := 10) (.bool true) jr.out).set (k := w.heap.size) (i := 12) (.string (strOf (aH.enc 1 f))) jr.out)
    have hxr := ((bg.out.set (k := w.heap.size) (i := 10) (.bool true) aO.out).set (k := w.heap.size) (i := 12) (.string (strOf (aH.enc 1 f))) aO.out)
    have hb := ((bZ.out.setCell (p := ⟨w.heap.size, 10, none⟩) dN.out (.bool true)).setCell (p := ⟨w.heap.size, 12, none⟩) dN.out (.string (strOf (aH.enc 1 f))))
    clear bV oU bg bZ
    clear YD YZ YE Y0
    generalize (World.setCell (World.setCell w4 ⟨w.heap.size, 10, none⟩ (.bool true)) ⟨w.heap.size, 12, none⟩ (.string (strOf (aH.enc 1 f)))) = w5 at hxu hxp hxr hb ⊢
    have aX : Hid (UB w5 (w.heap.size) ({ u with hq := true, eu := aH.enc 3 q, hf := true, fH := aH.enc 1 f }) (.slice A n c)) := hxu
    clear hxu
    have oV : Hid (PB w5 ((w.heap.size + 1)) (⟨s, r, q, f, true, true⟩)) := hxp
    clear hxp
    have bf : Hid (UB w5 ((w.heap.size + 1 + 1)) (U0) (.slice none 0 0)) := hxr
    clear hxr
    have dQ := hid hb
    clear hb
    obtain ⟨c0, c1, c2', c3, c4, c5, c6, c7, c8, c9, c10, c11, c12⟩ := aX.out.facts
    go_wp2_with (refine ak bf.out ({ u with hq := true, eu := aH.enc 3 q, hf := true, fH := aH.enc 1 f }) A n c (.tmp 4) (.tmp 26) rfl rfl rfl rfl ?_)
    try simp only [Exit.inBlock, Exit.then]
    exact bodyPost_ret (w := World.setRow w5 (w.heap.size + 1 + 1) (cells ({ u with hq := true, eu := aH.enc 3 q, hf := true, fH := aH.enc 1 f }) (.slice A n c))) (res1 (u := { u with hq := true, eu := aH.enc 3 q, hf := true, fH := aH.enc 1 f }) (p := .slice A n c) rfl (bf.out.row ({ u with hq := true, eu := aH.enc 3 q, hf := true, fH := aH.enc 1 f }) _) _ rfl) rfl ⟨by rw [iH.out]; first | done | rfl, below_setRow dQ.out bG.out _⟩
end Go.Proofs.YtmdofbccebkbiaaGreatDoor.Q8
namespace Go.Proofs.YtmdofbccebkbiaaGreatDoor.eH
open Go.RowKit Base aT aI zV zU
def TQ (o : Option U) (B : Nat) : Keep := ⟨fun v w => ∃ A n c, v = .tuple #[.agg (cells (o.getD U0) (.slice A n c)), .bool o.isSome] ∧ w.ownsRow B 9 1 (.slice A n c) n ((o.getD U0).aF.map Value.string), fun _ _ _ hb ⟨A, n, c, h1, h2⟩ => ⟨A, n, c, h1, aK h2 hb⟩⟩
def QA (o : Option U) (B : Nat) : Keep := ⟨fun v w => ∃ A n c, v = .agg (cells (o.getD U0) (.slice A n c)) ∧ w.ownsRow B 9 1 (.slice A n c) n ((o.getD U0).aF.map Value.string), fun _ _ _ hb ⟨A, n, c, h1, h2⟩ => ⟨A, n, c, h1, aK h2 hb⟩⟩
theorem nV {w w' : World} {o : Option U} {e : Ending} (h : mG w o e w') : Below w.heap.size w w' ∧ ∃ A n c, e = .returned (.tuple #[.agg (cells (o.getD U0) (.slice A n c)), .bool o.isSome]) ∧ w'.ownsRow w.heap.size 9 1 (.slice A n c) n ((o.getD U0).aF.map Value.string) := by
 obtain ⟨hb, u, A, n, c, ok, rfl, hown, h1 | h1⟩ := h
 ·obtain ⟨rfl, rfl⟩ := h1
  exact ⟨hb, A, n, c, rfl, hown⟩
 ·obtain ⟨rfl, rfl, rfl⟩ := h1
  exact ⟨hb, A, n, c, rfl, hown⟩
theorem oD {w w' : World} {o : Option U} {A : Option Addr} {n c : Nat} (hb : Below w.heap.size w w') (h : w'.ownsRow w.heap.size 9 1 (.slice A n c) n ((o.getD U0).aF.map Value.string)) : mG w o (.returned (.tuple #[.agg (cells (o.getD U0) (.slice A n c)), .bool o.isSome])) w' := by
 cases o with
 | none => exact ⟨hb, U0, A, n, c, false, rfl, h, .inr ⟨rfl, rfl, rfl⟩⟩
 | some u => exact ⟨hb, u, A, n, c, true, rfl, h, .inl ⟨rfl, rfl⟩⟩
end Go.Proofs.YtmdofbccebkbiaaGreatDoor.eH
namespace Go.Proofs.YtmdofbccebkbiaaGreatDoor.PrsI
open Go.RowKit Base eH aT dM iT pR Ba oW mY aI AZ sJ Eh zV Pbx zU Ce lI wR uT Q8
theorem pre_len {r : List UInt8} (h : Lib.hasPrefix r [47, 47] = true) : 2 ≤ r.length := by
 unfold Lib.hasPrefix at h
 match r, h with
 | [], h => cases h
 | [a], h => simp [List.isPrefixOf] at h
 | a :: b :: t, _ => simp
theorem aaD (E : List UInt8) : (Lib.trimSuffix E [32]).length ≤ E.length := by
 unfold Lib.trimSuffix
 split
 ·simp
 ·exact Nat.le_refl _
theorem Ld (p : Parts) (w : World) (hs : p.rest.length ≤ 900000) (hL : nP w) (hT : Tab.Pow w) (hM : Max w) : Calls Tryz.prog 89 #[.agg (eX p)] w (mG w (aI.plain p)) := by
 obtain ⟨s, r, q, f, hq, hf⟩ := p
 simp only at hs
 obtain ⟨O, hO⟩ : ∃ O, O = aI.plain ⟨s, r, q, f, hq, hf⟩ := ⟨_, rfl⟩
 rw [← hO]
 obtain ⟨a2, ha2⟩ : ∃ x, x = Lib.hasPrefix r [47, 47] := ⟨_, rfl⟩
 obtain ⟨a1, ha1⟩ : ∃ x, x = Lib.hasPrefix r [47] := ⟨_, rfl⟩
 unfold aI.plain at hO
 simp only at hO
 rw [← ha2, ← ha1] at hO
 have h2l : a2 = true → 2 ≤ r.length := fun h => by rw [h] at ha2; exact pre_len ha2.symm
 have H2L := hid h2l
 have HP2 : Hid (∀ w : World, Calls Tryz.prog 66 #[.string (strOf r), .string ⟨#[47, 47]⟩] w fun e w' => e = .returned (.bool a2) ∧ w' = w) := fun w => by rw [ha2]; exact Tryz.strings_HasPrefix (strOf r) ⟨#[47, 47]⟩ w
 have QX : Hid (∀ w : World, Calls Tryz.prog 66 #[.string (strOf r), .string ⟨#[47]⟩] w fun e w' => e = .returned (.bool a1) ∧ w' = w) := fun w => by rw [ha1]; exact Tryz.strings_HasPrefix (strOf r) ⟨#[47]⟩ w
 have HAU : Hid (∀ (L : List UInt8) (w : World), L.length ≤ 900000 → nP w → Tab.Pow w → Max w → Calls Tryz.prog 86 #[.string (strOf s), .string (strOf L)] w (mG w (authority s L))) := fun L w h a c d => oG s L w h a c d
 have VK : Hid (∀ w : World, Calls Tryz.prog 158 #[.string (strOf s), .string (strOf r)] w (jL w.heap.size w (rooted s r))) := fun w => vZ (strOf s) (strOf r) w (dI (by omega))
 obtain ⟨E, hE⟩ : ∃ E, E = aH.enc 0 r := ⟨_, rfl⟩
 have hEl : E.length ≤ 3000000 := by rw [hE]; have := aH.iG 0 r; omega
 have JB : Hid (∀ (A : Option Addr) (n c : Nat) (w : World), bK w A n (aJ r) → n ≤ 1073741824 → Calls Tryz.prog 91 #[.int .i64 0, .slice A n c] w fun e w' => e = .returned (.string (strOf E)) ∧ Below w.heap.size w w') := fun A n c w h1 h2 => by rw [hE]; exact aH.eU 0 A n c r w h1 h2
 have hop : aI.opq (hq || hf) r = if Lib.hasSuffix E [32] = true ∧ (hq || hf) = true then Lib.trimSuffix E [32] ++ [37, 50, 48] else E := by rw [hE]; rfl
 rw [hop] at hO
 obtain ⟨sb, hsb⟩ : ∃ x, x = Lib.hasSuffix E [32] := ⟨_, rfl⟩
 obtain ⟨TS, hTS⟩ : ∃ x, x = Lib.trimSuffix E [32] := ⟨_, rfl⟩
 have hTSl : TS.length ≤ 3000000 := by rw [hTS]; have := aaD E; omega
 have HCS : Hid (∀ w : World, Calls Tryz.prog 168 #[.string (strOf E), .string ⟨#[32]⟩] w fun e w' => e = .returned (.tuple #[.string (strOf TS), .bool sb]) ∧ w' = w) := fun w => by rw [hTS, hsb]; exact Tryz.strings_CutSuffix (strOf E) ⟨#[32]⟩ w (by rw [ah]; omega)
 have HAD : Hid (∀ w : World, (Op.stringOp .add (strOf TS) ⟨#[37, 50, 48]⟩).run Tryz.prog w = .ok (.string (strOf (TS ++ [37, 50, 48]))) w) := fun w => dP (strOf TS) ⟨#[37, 50, 48]⟩ w (by rw [ah]; show _ + 3 ≤ _; omega)
 rw [← hsb, ← hTS] at hO
 have HO := hid hO
 have HL := hid hL
 have HT := hid hT
 have HM := hid hM
 clear hO ha2 ha1 h2l hop hsb hTS hE hL hT hM
 go_enter Tryz.func89, Tryz.ntmps89
 go_upto_region 1 with (fail)
 generalize hw : World.alloc (World.alloc w _) _ = w1
 have h1 : PB w1 (w.heap.size) (⟨s, r, q, f, hq, hf⟩) ∧ UB w1 ((w.heap.size + 1)) (U0) (.slice none 0 0) ∧ Below w.heap.size w w1 := by
  subst hw
  exact laid2 w _ _ _ _
 clear hw
 have LX : Hid (w.heap.size ≠ (w.heap.size + 1)) := by show _ ≠ _; omega
 have LY : Hid ((w.heap.size + 1) ≠ w.heap.size) := by show _ ≠ _; omega
 have VN : Hid (w.heap.size ≤ w.heap.size) := Nat.le_refl _
 have bG : Hid (w.heap.size ≤ (w.heap.size + 1)) := Nat.le_succ _
 have dK := hid h1.1
 have aY := hid h1.2.1
 have bU := hid h1.2.2
 clear h1
 obtain ⟨p0, p1, p2, p3, p4, p5⟩ := dK.out.facts
 go_upto_region 7 with (fail)
 generalize hw : World.alloc w1 _ = w2
 have h1 : UB w2 (w1.heap.size) ({ U0 with au := s, port := -1 }) (.slice none 0 0) ∧ Below w1.heap.size w1 w2 := by
  subst hw
  exact laid1 w1 _ _
 clear hw
 have hlp := dK.out.lt
 have jr : Hid (w.heap.size ≠ w1.heap.size) := by show _ ≠ _; omega
 have L6 : Hid (w1.heap.size ≠ w.heap.size) := by show _ ≠ _; omega
 clear hlp
 have hlr := aY.out.lt
 have aO : Hid ((w.heap.size + 1) ≠ w1.heap.size) := by show _ ≠ _; omega
 have nS : Hid (w1.heap.size ≠ (w.heap.size + 1)) := by show _ ≠ _; omega
 clear hlr
 have dN : Hid (w.heap.size ≤ w1.heap.size) := bU.out.size
 have jS := hid (dK.out.below h1.2)
 have bT := hid (aY.out.below h1.2)
 have dY := hid (bel bU.out h1.2)
 have fF := hid h1.1
 clear dK aY bU
 clear h1
 clear p0 p1 p2 p3 p4 p5
 obtain ⟨p0, p1, p2, p3, p4, p5⟩ := jS.out.facts
 go_wp2_with fail
 refine (HP2.out _).mono ?_
 rintro e wx ⟨rfl, hwx⟩
 obtain rfl : w2 = wx := by first | exact hwx | exact hwx.symm
 clear hwx
 cases a2 with
 | true =>
  have hl2 := H2L.out (by simp)
  have iH : Hid (O = authority s (r.drop 2)) := by show _ = _; rw [HO.out, if_pos (by simp)]
  obtain ⟨T2, hT2⟩ : ∃ x, x = r.drop 2 := ⟨_, rfl⟩
  have hx2 : (strOf r).extract 2 (strOf r).size = strOf T2 := by rw [kH, hT2]; rfl
  have mD := hid hx2
  have Ze : (2 : Int) ≤ ((strOf r).size : Int) := by rw [ah]; omega
  rw [← hT2] at iH
  have MX : T2.length ≤ 900000 := by rw [hT2, List.length_drop]; omega
  have fK : Hid ((w.heap.size + 1) < w2.heap.size) := bT.out.lt
  have HF := hid jS.out.facts
  obtain ⟨OA, Y4⟩ : ∃ x, x = authority s T2 := ⟨_, rfl⟩
  have HAU2 : Hid (∀ w : World, nP w → Tab.Pow w → Max w → Calls Tryz.prog 86 #[.string (strOf s), .string (strOf T2)] w (mG w OA)) := fun w a b c => by rw [Y4]; exact HAU.out T2 w (by omega) a b c
  rw [← Y4] at iH
  clear hT2 hl2 hx2 Y4
  clear p0 p1 p2 p3 p4 p5
  go_upto_region 8 with (fail)
  refine aZ (by kernel_rfl) 8 [is (.pointer (some ⟨w.heap.size, 0, none⟩)), is (.string (strOf s)), is (.pointer (some ⟨w.heap.size, 1, none⟩)), is (.string (strOf r)), is (.string (strOf T2)), TQ OA w2.heap.size, QA OA w2.heap.size, is (.bool OA.isSome)] [[], [0], [], [2], [2, 3], [0, 1, 2, 3, 4], [0, 1, 2, 3, 4, 5], [0, 1, 2, 3, 4, 5], [0, 1, 2, 3, 4, 5, 6, 7]] (by kernel_rfl) ?_ ?_
  ·refine ⟨?_, ?_, ?_, ?_, ?_, ?_, ?_, ?_, trivial⟩
   all_goals (intro t wq hbq hh K hK; simp only [filled, aQ, upd, Have, is, any, row, pick, Act.put, List.setIfInBounds_toArray, List.set_cons_zero, List.set_cons_succ, Nat.reduceAdd, Nat.reduceEqDiff, reduceIte, List.tail_cons, List.headD_cons] at hh hK ⊢)
   ·(try clear hh); go_simp; exact hK _ _ (Below.refl _ _) rfl
   ·simp only [hh] at hK ⊢; clear hh; have hc := HF.out.1; have hc2 := (hbq.cell (p := ⟨w.heap.size, 0, none⟩) (by have := fK.out; show w.heap.size < _; omega)).trans hc; go_simp; exact hK _ _ (Below.refl _ _) rfl
   ·(try clear hh); go_simp; exact hK _ _ (Below.refl _ _) rfl
   ·simp only [hh] at hK ⊢; clear hh; have hc := HF.out.2.1; have hc2 := (hbq.cell (p := ⟨w.heap.size, 1, none⟩) (by have := fK.out; show w.heap.size < _; omega)).trans hc; go_simp; exact hK _ _ (Below.refl _ _) rfl
   ·simp only [hh] at hK ⊢; clear hh; have hx := mD.out; go_simp; exact hK _ _ (Below.refl _ _) rfl
   ·simp only [hh] at hK ⊢; clear hh; go_simp; refine (HAU2.out _ (HL.out.below (bel dY.out hbq)) (bJ HT.out (bel dY.out hbq)) (HM.out.below (bel dY.out hbq))).mono ?_; intro e w9 ha; obtain ⟨uh, A9, n9, c9, rfl, Jz⟩ := eH.nV ha; exact hK _ _ uh ⟨A9, n9, c9, rfl, ay Jz hbq.size⟩
   ·have e5 := hh.2.2.2.2.2.1; (try clear hh); obtain ⟨A5, n5, c5, e5, Ia⟩ := e5; simp only [e5] at hK ⊢; go_simp; exact hK _ _ (Below.refl _ _) ⟨_, _, _, rfl, Ia⟩
   ·have e5 := hh.2.2.2.2.2.1; (try clear hh); obtain ⟨A5, n5, c5, e5, Ia⟩ := e5; simp only [e5] at hK ⊢; go_simp; exact hK _ _ (Below.refl _ _) rfl
  ·intro t wq hbq hh
   have f6 := aG hh 6 (by decide)
   simp only [pick] at f6
   have f7 := aG hh 7 (by decide)
   simp only [pick] at f7
   replace f7 : t 7 = (.bool OA.isSome) := f7
   clear hh
   simp only [filled, aQ, upd, Have, is, any, row, pick, Act.put, List.setIfInBounds_toArray, List.set_cons_zero, List.set_cons_succ, Nat.reduceAdd, Nat.reduceEqDiff, reduceIte]
   obtain ⟨A6, n6, c6, f6, N9⟩ := f6
   simp only [f6, f7]
   have tH := hid (bT.out.below hbq)
   have AU := hid (bel dY.out hbq)
   have QU := hid N9
   clear N9 hbq
   refine ak tH.out ((OA).getD U0) A6 n6 c6 (.tmp 2) (.tmp 44) rfl rfl rfl rfl ?_
   go_wp2
   try simp only [Exit.inBlock, Exit.then]
   have ho := ay (eF.aB (w' := World.setRow wq (w.heap.size + 1) (cells ((OA).getD U0) (.slice A6 n6 c6))) (gb := (w.heap.size + 1)) (QU.out) (fun k hk => setRow_other _ _ _ _ hk) fK.out) (by have h1 := bG.out; have h2 := fK.out; omega : w.heap.size ≤ _)
   refine bodyPost_ret (w := World.setRow wq (w.heap.size + 1) (cells ((OA).getD U0) (.slice A6 n6 c6))) (res2 (u := (OA).getD U0) (p := .slice A6 n6 c6) rfl (tH.out.row _ _) (OA).isSome _ rfl rfl) rfl ?_
   rw [iH.out]
   exact eH.oD (below_setRow AU.out bG.out _) ho
 | false =>
  have jQ : Hid (O = if a1 = true then some { U0 with au := s, port := -1, aF := rooted s r } else some { U0 with au := s, port := -1, opq := true, txt := if sb = true ∧ (hq || hf) = true then TS ++ [37, 50, 48] else E }) := by show _ = _; rw [HO.out, if_neg (by simp)]
  clear HO H2L HAU
  go_wp2_with fail
  refine (QX.out _).mono ?_
  rintro e wx ⟨rfl, hwx⟩
  obtain rfl : w2 = wx := by first | exact hwx | exact hwx.symm
  clear hwx
  cases a1 with
  | true =>
   have iH : Hid (O = some { U0 with au := s, port := -1, aF := rooted s r }) := by show _ = _; rw [jQ.out, if_pos (by simp)]
   go_wp2_with fail
   clear p0 p1 p2 p3 p4 p5
   refine (VK.out _).mono ?_
   rintro e w3 ⟨q1, rfl, hown, hbx⟩
   obtain ⟨Aq, cq, rfl, hq1⟩ := bI (u := { U0 with aF := rooted s r }) hown
   clear hq1
   replace hown := ay hown (Nat.le_refl _)
   have sH : Hid (w1.heap.size < w2.heap.size) := fF.out.lt
   have fK : Hid ((w.heap.size + 1) < w2.heap.size) := bT.out.lt
   have oQ := hid (jS.out.below hbx)
   have bD := hid (bT.out.below hbx)
   have dS := hid (fF.out.below hbx)
   have dD := hid (bel dY.out hbx)
   have HOqw3 := hid hown
   clear hown
   clear jS bT fF dY
   clear hbx
   have hoq := eF.aB (w' := w3.setCell ⟨w1.heap.size, 8, none⟩ (.slice Aq (rooted s r).length cq)) (gb := w1.heap.size) HOqw3.out (fun k hk => heap_setCell_other _ _ _ _ hk) sH.out
   have hoq2 := hid hoq
   clear hoq HOqw3
   have cx := dS.out.facts.2.2.2.2.2.2.2.2.1
   have fx := dS.out.thaw.2.2.2.2.2.2.2.2.1
   go_upto_region 11 with (fail)
   have hxp := oQ.out.set (k := w1.heap.size) (i := 8) (.slice Aq (rooted s r).length cq) jr.out
   have hxr := bD.out.set (k := w1.heap.size) (i := 8) (.slice Aq (rooted s r).length cq) aO.out
   have hxu := dS.out.path (.slice Aq (rooted s r).length cq)
   have hb := dD.out.setCell (p := ⟨w1.heap.size, 8, none⟩) dN.out (.slice Aq (rooted s r).length cq)
   have hoq := hoq2.out
   clear oQ bD dS dD
   clear cx fx hoq2
   generalize World.setCell w3 _ _ = w4 at hxp hxr hxu hb hoq ⊢
   have oU : Hid (PB w4 (w.heap.size) (⟨s, r, q, f, hq, hf⟩)) := hxp
   clear hxp
   have bg : Hid (UB w4 ((w.heap.size + 1)) (U0) (.slice none 0 0)) := hxr
   clear hxr
   have bV : Hid (UB w4 (w1.heap.size) ({ U0 with au := s, port := -1 }) (.slice Aq (rooted s r).length cq)) := hxu
   clear hxu
   have bZ := hid hb
   have GI := hid hoq
   clear hb hoq
   obtain ⟨c0, c1, c2', c3, c4, c5, c6, c7, c8, c9, c10, c11, c12⟩ := bV.out.facts
   go_wp2_with (refine ak bg.out ({ U0 with au := s, port := -1 }) Aq (rooted s r).length cq (.tmp 2) (.tmp 56) rfl rfl rfl rfl ?_)
   try simp only [Exit.inBlock, Exit.then]
   have hpo : ∀ k, k ≠ (w.heap.size + 1) → (World.setRow w4 ((w.heap.size + 1)) (cells ({ U0 with au := s, port := -1 }) (.slice Aq (rooted s r).length cq))).heap[k]? = w4.heap[k]? := fun k hk => setRow_other _ _ _ _ hk
   have ho := ay (eF.aB GI.out hpo fK.out) (by have h1 := bG.out; have h2 := fK.out; omega : w.heap.size ≤ _)
   exact bodyPost_ret (w := World.setRow w4 (w.heap.size + 1) (cells ({ U0 with au := s, port := -1 }) (.slice Aq (rooted s r).length cq))) (res2 (u := { U0 with au := s, port := -1 }) (p := .slice Aq (rooted s r).length cq) rfl (bg.out.row ({ U0 with au := s, port := -1 }) _) true _ rfl rfl) rfl (dJ (u := { U0 with au := s, port := -1, aF := rooted s r }) iH.out (below_setRow bZ.out bG.out _) ho)
  | false =>
   have iH : Hid (O = some { U0 with au := s, port := -1, opq := true, txt := if sb = true ∧ (hq || hf) = true then TS ++ [37, 50, 48] else E }) := by show _ = _; rw [jQ.out, if_neg (by simp)]
   clear jQ
   clear p0 p1 p2 p3 p4 p5
   have cx6 := fF.out.facts.2.2.2.2.2.2.1
   have fx6 := fF.out.thaw.2.2.2.2.2.2.1
   go_upto_region 3 with (fail)
   have hxp := (jS.out.set (k := w1.heap.size) (i := 6) (.bool true) jr.out)
   have hxr := (bT.out.set (k := w1.heap.size) (i := 6) (.bool true) aO.out)
   have hxu := (fF.out.opq true)
   have hb := (dY.out.setCell (p := ⟨w1.heap.size, 6, none⟩) dN.out (.bool true))
   clear jS bT fF dY
   clear cx6 fx6
   generalize (World.setCell w2 ⟨w1.heap.size, 6, none⟩ (.bool true)) = w3 at hxp hxr hxu hb ⊢
   have oQ : Hid (PB w3 (w.heap.size) (⟨s, r, q, f, hq, hf⟩)) := hxp
   clear hxp
   have bD : Hid (UB w3 ((w.heap.size + 1)) (U0) (.slice none 0 0)) := hxr
   clear hxr
   have dS : Hid (UB w3 (w1.heap.size) ({ U0 with au := s, port := -1, opq := true }) (.slice none 0 0)) := hxu
   clear hxu
   have dD := hid hb
   clear hb
   obtain ⟨p0, p1, p2, p3, p4, p5⟩ := oQ.out.facts
   have hcv := fun (w : World) s => run_bytes_of_string (P := Tryz.prog) w 9 61 5 s Tryz.underlying9 Tryz.underlying61 Tryz.underlying5
   go_wp2_with fail
   clear hcv
   refine (JB.out _ _ _ _ (gB (strOf r) _ _ _) (dI (by omega))).mono ?_
   rintro e w4 ⟨rfl, hb0⟩
   have hbx : Below w3.heap.size w3 w4 := bel (((Below.refl w3.heap.size w3).alloc (Nat.le_refl _) _).drew) hb0
   clear hb0
   have oU := hid (oQ.out.below hbx)
   have bg := hid (bD.out.below hbx)
   have bV := hid (dS.out.below hbx)
   have bZ := hid (bel dD.out hbx)
   clear oQ bD dS dD
   clear hbx
   clear p0 p1 p2 p3 p4 p5
   have cx7 := bV.out.facts.2.2.2.2.2.2.2.1
   have fx7 := bV.out.thaw.2.2.2.2.2.2.2.1
   go_upto_region 4 with (fail)
   have hxp := (oU.out.set (k := w1.heap.size) (i := 7) (.string (strOf E)) jr.out)
   have hxr := (bg.out.set (k := w1.heap.size) (i := 7) (.string (strOf E)) aO.out)
   have hxu := (bV.out.txt E)
   have hb := (bZ.out.setCell (p := ⟨w1.heap.size, 7, none⟩) dN.out (.string (strOf E)))
   clear oU bg bV bZ
   clear cx7 fx7
   generalize (World.setCell w4 ⟨w1.heap.size, 7, none⟩ (.string (strOf E))) = w5 at hxp hxr hxu hb ⊢
   have oV : Hid (PB w5 (w.heap.size) (⟨s, r, q, f, hq, hf⟩)) := hxp
   clear hxp
   have bf : Hid (UB w5 ((w.heap.size + 1)) (U0) (.slice none 0 0)) := hxr
   clear hxr
   have aX : Hid (UB w5 (w1.heap.size) ({ U0 with au := s, port := -1, opq := true, txt := E }) (.slice none 0 0)) := hxu
   clear hxu
   have dQ := hid hb
   clear hb
   have cx7 := aX.out.facts.2.2.2.2.2.2.2.1
   go_wp2_with fail
   refine (HCS.out _).mono ?_
   rintro e wx ⟨rfl, hwx⟩
   obtain rfl : w5 = wx := by first | exact hwx | exact hwx.symm
   clear hwx
   cases sb with
   | false =>
    go_upto_region 11 with (fail)
    clear cx7
    have l9 : Hid (O = some { U0 with au := s, port := -1, opq := true, txt := E }) := by show _ = _; rw [iH.out]; first | done | rfl | simp
    obtain ⟨c0, c1, c2', c3, c4, c5, c6, c7, c8, c9, c10, c11, c12⟩ := aX.out.facts
    go_wp2_with (refine ak bf.out { U0 with au := s, port := -1, opq := true, txt := E } none 0 0 (.tmp 2) (.tmp 56) rfl rfl rfl rfl ?_)
    try simp only [Exit.inBlock, Exit.then]
    exact bodyPost_ret (w := World.setRow w5 (w.heap.size + 1) (cells { U0 with au := s, port := -1, opq := true, txt := E } (.slice none 0 0))) (res2 (u := { U0 with au := s, port := -1, opq := true, txt := E }) (p := .slice none 0 0) rfl (bf.out.row { U0 with au := s, port := -1, opq := true, txt := E } _) true _ rfl rfl) rfl (dJ (u := { U0 with au := s, port := -1, opq := true, txt := E }) l9.out (below_setRow dQ.out bG.out _) (vW _ _ rfl))
   | true =>
    cases hq with
    | true =>
     obtain ⟨p0, p1, p2, p3, p4, p5⟩ := oV.out.facts
     have had := HAD.out
     clear cx7
     have cx7 := aX.out.facts.2.2.2.2.2.2.2.1
     have fx7 := aX.out.thaw.2.2.2.2.2.2.2.1
     go_upto_region 11 with (fail)
     have hxp := (oV.out.set (k := w1.heap.size) (i := 7) (.string (strOf (TS ++ [37, 50, 48]))) jr.out)
     have hxr := (bf.out.set (k := w1.heap.size) (i := 7) (.string (strOf (TS ++ [37, 50, 48]))) aO.out)
     have hxu := (aX.out.txt (TS ++ [37, 50, 48]))
     have hb := (dQ.out.setCell (p := ⟨w1.heap.size, 7, none⟩) dN.out (.string (strOf (TS ++ [37, 50, 48]))))
     clear oV bf aX dQ
     clear cx7 fx7
     generalize (World.setCell w5 ⟨w1.heap.size, 7, none⟩ (.string (strOf (TS ++ [37, 50, 48])))) = w6 at hxp hxr hxu hb ⊢
     have Cc : Hid (PB w6 (w.heap.size) (⟨s, r, q, f, true, hf⟩)) := hxp
     clear hxp
     have bF : Hid (UB w6 ((w.heap.size + 1)) (U0) (.slice none 0 0)) := hxr
     clear hxr
     have aV : Hid (UB w6 (w1.heap.size) ({ U0 with au := s, port := -1, opq := true, txt := TS ++ [37, 50, 48] }) (.slice none 0 0)) := hxu
     clear hxu
     have dZ := hid hb
     clear hb
     clear p0 p1 p2 p3 p4 p5
     clear had
     have l9 : Hid (O = some { U0 with au := s, port := -1, opq := true, txt := TS ++ [37, 50, 48] }) := by show _ = _; rw [iH.out]; first | done | rfl | simp
     obtain ⟨c0, c1, c2', c3, c4, c5, c6, c7, c8, c9, c10, c11, c12⟩ := aV.out.facts
     go_wp2_with (refine ak bF.out { U0 with au := s, port := -1, opq := true, txt := TS ++ [37, 50, 48] } none 0 0 (.tmp 2) (.tmp 56) rfl rfl rfl rfl ?_)
     try simp only [Exit.inBlock, Exit.then]
     exact bodyPost_ret (w := World.setRow w6 (w.heap.size + 1) (cells { U0 with au := s, port := -1, opq := true, txt := TS ++ [37, 50, 48] } (.slice none 0 0))) (res2 (u := { U0 with au := s, port := -1, opq := true, txt := TS ++ [37, 50, 48] }) (p := .slice none 0 0) rfl (bF.out.row { U0 with au := s, port := -1, opq := true, txt := TS ++ [37, 50, 48] } _) true _ rfl rfl) rfl (dJ (u := { U0 with au := s, port := -1, opq := true, txt := TS ++ [37, 50, 48] }) l9.out (below_setRow dZ.out bG.out _) (vW _ _ rfl))
    | false =>
     cases hf with
     | true =>
      obtain ⟨p0, p1, p2, p3, p4, p5⟩ := oV.out.facts
      have had := HAD.out
      clear cx7
      have cx7 := aX.out.facts.2.2.2.2.2.2.2.1
      have fx7 := aX.out.thaw.2.2.2.2.2.2.2.1
      go_upto_region 11 with (fail)
      have hxp := (oV.out.set (k := w1.heap.size) (i := 7) (.string (strOf (TS ++ [37, 50, 48]))) jr.out)
      have hxr := (bf.out.set (k := w1.heap.size) (i := 7) (.string (strOf (TS ++ [37, 50, 48]))) aO.out)
      have hxu := (aX.out.txt (TS ++ [37, 50, 48]))
      have hb := (dQ.out.setCell (p := ⟨w1.heap.size, 7, none⟩) dN.out (.string (strOf (TS ++ [37, 50, 48]))))
      clear oV bf aX dQ
      clear cx7 fx7
      generalize (World.setCell w5 ⟨w1.heap.size, 7, none⟩ (.string (strOf (TS ++ [37, 50, 48])))) = w6 at hxp hxr hxu hb ⊢
      have Cc : Hid (PB w6 (w.heap.size) (⟨s, r, q, f, false, true⟩)) := hxp
      clear hxp
      have bF : Hid (UB w6 ((w.heap.size + 1)) (U0) (.slice none 0 0)) := hxr
      clear hxr
      have aV : Hid (UB w6 (w1.heap.size) ({ U0 with au := s, port := -1, opq := true, txt := TS ++ [37, 50, 48] }) (.slice none 0 0)) := hxu
      clear hxu
      have dZ := hid hb
      clear hb
      clear p0 p1 p2 p3 p4 p5
      clear had
      have l9 : Hid (O = some { U0 with au := s, port := -1, opq := true, txt := TS ++ [37, 50, 48] }) := by show _ = _; rw [iH.out]; first | done | rfl | simp
      obtain ⟨c0, c1, c2', c3, c4, c5, c6, c7, c8, c9, c10, c11, c12⟩ := aV.out.facts
      go_wp2_with (refine ak bF.out { U0 with au := s, port := -1, opq := true, txt := TS ++ [37, 50, 48] } none 0 0 (.tmp 2) (.tmp 56) rfl rfl rfl rfl ?_)
      try simp only [Exit.inBlock, Exit.then]
      exact bodyPost_ret (w := World.setRow w6 (w.heap.size + 1) (cells { U0 with au := s, port := -1, opq := true, txt := TS ++ [37, 50, 48] } (.slice none 0 0))) (res2 (u := { U0 with au := s, port := -1, opq := true, txt := TS ++ [37, 50, 48] }) (p := .slice none 0 0) rfl (bF.out.row { U0 with au := s, port := -1, opq := true, txt := TS ++ [37, 50, 48] } _) true _ rfl rfl) rfl (dJ (u := { U0 with au := s, port := -1, opq := true, txt := TS ++ [37, 50, 48] }) l9.out (below_setRow dZ.out bG.out _) (vW _ _ rfl))
     | false =>
      obtain ⟨p0, p1, p2, p3, p4, p5⟩ := oV.out.facts
      go_upto_region 11 with (fail)
      clear cx7
      clear p0 p1 p2 p3 p4 p5
      have l9 : Hid (O = some { U0 with au := s, port := -1, opq := true, txt := E }) := by show _ = _; rw [iH.out]; first | done | rfl | simp
      obtain ⟨c0, c1, c2', c3, c4, c5, c6, c7, c8, c9, c10, c11, c12⟩ := aX.out.facts
      go_wp2_with (refine ak bf.out { U0 with au := s, port := -1, opq := true, txt := E } none 0 0 (.tmp 2) (.tmp 56) rfl rfl rfl rfl ?_)
      try simp only [Exit.inBlock, Exit.then]
      exact bodyPost_ret (w := World.setRow w5 (w.heap.size + 1) (cells { U0 with au := s, port := -1, opq := true, txt := E } (.slice none 0 0))) (res2 (u := { U0 with au := s, port := -1, opq := true, txt := E }) (p := .slice none 0 0) rfl (bf.out.row { U0 with au := s, port := -1, opq := true, txt := E } _) true _ rfl rfl) rfl (dJ (u := { U0 with au := s, port := -1, opq := true, txt := E }) l9.out (below_setRow dQ.out bG.out _) (vW _ _ rfl))
end Go.Proofs.YtmdofbccebkbiaaGreatDoor.PrsI
