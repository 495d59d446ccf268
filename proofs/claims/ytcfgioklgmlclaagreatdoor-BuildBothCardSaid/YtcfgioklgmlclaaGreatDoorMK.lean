/- Texts that belong together: Un, PrsK, PrsI, PrsJ. -/
import Derived.Test.YtcfgioklgmlclaaGreatDoorMI
import Derived.Test.YtcfgioklgmlclaaGreatDoorMG
import Derived.Test.YtcfgioklgmlclaaGreatDoorMA
set_option linter.unusedSimpArgs false
set_option linter.unusedVariables false
set_option maxRecDepth 100000
set_option maxHeartbeats 64000000
namespace Go.Proofs.YtcfgioklgmlclaaGreatDoor.Un
open Go.RowKit Base fZ aP eX fE pU AO qM ng aH xX tq Ej tZ Pbx AL Em kX Fh
theorem KQ (T : List UInt8) (w : World) (hs : T.length ≤ 1000000) (hM : Max w) : Calls Tryz.prog 44 #[.string (strOf T)] w fun e w' => e = .returned (.agg (cu (aH.apart T))) ∧ Below w.heap.size w w' := by
 obtain ⟨O, hO⟩ : ∃ O, O = aH.apart T := ⟨_, rfl⟩
 rw [← hO]
 obtain ⟨F1, F2, fb, hHF⟩ : ∃ a b c, dV 35 T = (a, b, c) := ⟨_, _, _, rfl⟩
 obtain ⟨Q1, Q2, qb, hHQ⟩ : ∃ a b c, dV 63 F1 = (a, b, c) := ⟨_, _, _, rfl⟩
 obtain ⟨C1, C2, cb, hHC⟩ : ∃ a b c, dV 58 Q1 = (a, b, c) := ⟨_, _, _, rfl⟩
 have hl1 := o8 35 T
 have hl2 := o8 63 F1
 have hl3 := o8 58 Q1
 rw [hHF] at hl1
 rw [hHQ] at hl2
 rw [hHC] at hl3
 simp only at hl1 hl2 hl3
 unfold aH.apart at hO
 rw [hHF] at hO
 simp only at hO
 rw [hHQ] at hO
 simp only at hO
 rw [hHC] at hO
 simp only at hO
 have HF : ∀ w : World, Max w → Calls Tryz.prog 28 #[.string (strOf T), .string ⟨#[35]⟩] w fun e w' => e = .returned (.tuple #[.string (strOf F1), .string (strOf F2), .bool fb]) ∧ Below w.heap.size w w' := fun w ⟨m, hm⟩ => (Tryz.strings_Cut (strOf T) ⟨#[35]⟩ m w (by rw [ah]; omega) hm).mono fun e w' ⟨h1, q, h2⟩ => ⟨by rw [h1, show (strOf T).data.toList = T from rfl, show (⟨#[35]⟩ : ByteArray).data.toList = [35] from rfl, uH, hHF]; rfl, by rw [h2]; exact Base.below_drewN (Below.refl _ _) _⟩
 have HQ : ∀ w : World, Max w → Calls Tryz.prog 28 #[.string (strOf F1), .string ⟨#[63]⟩] w fun e w' => e = .returned (.tuple #[.string (strOf Q1), .string (strOf Q2), .bool qb]) ∧ Below w.heap.size w w' := fun w ⟨m, hm⟩ => (Tryz.strings_Cut (strOf F1) ⟨#[63]⟩ m w (by rw [ah]; omega) hm).mono fun e w' ⟨h1, q, h2⟩ => ⟨by rw [h1, show (strOf F1).data.toList = F1 from rfl, show (⟨#[63]⟩ : ByteArray).data.toList = [63] from rfl, uH, hHQ]; rfl, by rw [h2]; exact Base.below_drewN (Below.refl _ _) _⟩
 have HC : ∀ w : World, Max w → Calls Tryz.prog 28 #[.string (strOf Q1), .string ⟨#[58]⟩] w fun e w' => e = .returned (.tuple #[.string (strOf C1), .string (strOf C2), .bool cb]) ∧ Below w.heap.size w w' := fun w ⟨m, hm⟩ => (Tryz.strings_Cut (strOf Q1) ⟨#[58]⟩ m w (by rw [ah]; omega) hm).mono fun e w' ⟨h1, q, h2⟩ => ⟨by rw [h1, show (strOf Q1).data.toList = Q1 from rfl, show (⟨#[58]⟩ : ByteArray).data.toList = [58] from rfl, uH, hHC]; rfl, by rw [h2]; exact Base.below_drewN (Below.refl _ _) _⟩
 have HF9 := hid HF
 have HQ9 := hid HQ
 have HC9 := hid HC
 have HIS : Hid (∀ w : World, Calls Tryz.prog 89 #[.string (strOf C1)] w fun e w' => e = .returned (.bool (kZ C1)) ∧ w' = w) := fun w => Ox (strOf C1) w (fC (by omega))
 have Yf : Hid (∀ w : World, Calls Tryz.prog 75 #[.string (strOf C1)] w fun e w' => e = .returned (.string (strOf (lower C1))) ∧ Below w.heap.size w w') := fun w => gq (strOf C1) w (by rw [ah]; unfold maxLen; omega)
 have HO := hid hO
 have HM := hid hM
 clear HF HQ HC hHF hHQ hHC hO hM hl1 hl2 hl3
 go_enter Tryz.func44, Tryz.ntmps44
 go_upto_region 1 with (fail)
 generalize hw : World.alloc w _ = w1
 have h1 : PB w1 (w.heap.size) (P0) ∧ Below w.heap.size w w1 := by
  subst hw
  exact laid1 w _ _
 clear hw
 have bU : Hid (w.heap.size ≤ w.heap.size) := (Below.refl w.heap.size w).size
 have dn := hid (bel (Below.refl w.heap.size w) h1.2)
 have bJ := hid h1.1
 clear h1
 go_upto_region 2 with (fail)
 generalize hw : World.alloc w1 _ = w2
 have h1 : PB w2 (w1.heap.size) (P0) ∧ Below w1.heap.size w1 w2 := by
  subst hw
  exact laid1 w1 _ _
 clear hw
 have hlr := bJ.out.lt
 have aU : Hid (w.heap.size ≠ w1.heap.size) := by show _ ≠ _; omega
 have nU : Hid (w1.heap.size ≠ w.heap.size) := by show _ ≠ _; omega
 clear hlr
 have dU : Hid (w.heap.size ≤ w1.heap.size) := dn.out.size
 have dh := hid (bJ.out.below h1.2)
 have eY := hid (bel dn.out h1.2)
 have fK := hid h1.1
 clear bJ dn
 clear h1
 go_wp2_with fail
 refine (HF9.out _ (HM.out.below eY.out)).mono ?_
 rintro e w3 ⟨rfl, hbx⟩
 have bQ := hid (dh.out.below hbx)
 have eG := hid (fK.out.below hbx)
 have dL := hid (bel eY.out hbx)
 clear dh fK eY
 clear hbx
 have cx3 := eG.out.facts.2.2.2.1
 have fx3 := eG.out.thaw.2.2.2.1
 have cx5 := eG.out.facts.2.2.2.2.2
 have fx5 := eG.out.thaw.2.2.2.2.2
 go_upto_region 3 with (fail)
 have hxr := ((bQ.out.set (k := w1.heap.size) (i := 3) (.string (strOf F2)) aU.out).set (k := w1.heap.size) (i := 5) (.bool fb) aU.out)
 have hxu := ((eG.out.fG F2).hf fb)
 have hb := ((dL.out.setCell (p := ⟨w1.heap.size, 3, none⟩) dU.out (.string (strOf F2))).setCell (p := ⟨w1.heap.size, 5, none⟩) dU.out (.bool fb))
 clear bQ eG dL
 clear cx3 fx3 cx5 fx5
 generalize (World.setCell (World.setCell w3 ⟨w1.heap.size, 3, none⟩ (.string (strOf F2))) ⟨w1.heap.size, 5, none⟩ (.bool fb)) = w4 at hxr hxu hb ⊢
 have bP : Hid (PB w4 (w.heap.size) (P0)) := hxr
 clear hxr
 have dA : Hid (PB w4 (w1.heap.size) ({ P0 with fG := F2, hf := fb })) := hxu
 clear hxu
 have dH := hid hb
 clear hb
 go_wp2_with fail
 refine (HQ9.out _ (HM.out.below dH.out)).mono ?_
 rintro e w5 ⟨rfl, hbx⟩
 have bM := hid (bP.out.below hbx)
 have bG := hid (dA.out.below hbx)
 have dZ := hid (bel dH.out hbx)
 clear bP dA dH
 clear hbx
 have cx2 := bG.out.facts.2.2.1
 have fx2 := bG.out.thaw.2.2.1
 have cx4 := bG.out.facts.2.2.2.2.1
 have fx4 := bG.out.thaw.2.2.2.2.1
 go_upto_region 4 with (fail)
 have hxr := ((bM.out.set (k := w1.heap.size) (i := 2) (.string (strOf Q2)) aU.out).set (k := w1.heap.size) (i := 4) (.bool qb) aU.out)
 have hxu := ((bG.out.eF Q2).hq qb)
 have hb := ((dZ.out.setCell (p := ⟨w1.heap.size, 2, none⟩) dU.out (.string (strOf Q2))).setCell (p := ⟨w1.heap.size, 4, none⟩) dU.out (.bool qb))
 clear bM bG dZ
 clear cx2 fx2 cx4 fx4
 generalize (World.setCell (World.setCell w5 ⟨w1.heap.size, 2, none⟩ (.string (strOf Q2))) ⟨w1.heap.size, 4, none⟩ (.bool qb)) = w6 at hxr hxu hb ⊢
 have bT : Hid (PB w6 (w.heap.size) (P0)) := hxr
 clear hxr
 have bD : Hid (PB w6 (w1.heap.size) ({ P0 with fG := F2, hf := fb, eF := Q2, hq := qb })) := hxu
 clear hxu
 have fA := hid hb
 clear hb
 have cx1 := bD.out.facts.2.1
 have fx1 := bD.out.thaw.2.1
 go_upto_region 5 with (fail)
 have hxr := (bT.out.set (k := w1.heap.size) (i := 1) (.string (strOf Q1)) aU.out)
 have hxu := (bD.out.rest Q1)
 have hb := (fA.out.setCell (p := ⟨w1.heap.size, 1, none⟩) dU.out (.string (strOf Q1)))
 clear bT bD fA
 clear cx1 fx1
 generalize (World.setCell w6 ⟨w1.heap.size, 1, none⟩ (.string (strOf Q1))) = w7 at hxr hxu hb ⊢
 have dI : Hid (PB w7 (w.heap.size) (P0)) := hxr
 clear hxr
 have dJ : Hid (PB w7 (w1.heap.size) ({ P0 with fG := F2, hf := fb, eF := Q2, hq := qb, rest := Q1 })) := hxu
 clear hxu
 have gQ := hid hb
 clear hb
 go_wp2_with fail
 refine (HC9.out _ (HM.out.below gQ.out)).mono ?_
 rintro e w8 ⟨rfl, hbx⟩
 have fQ := hid (dI.out.below hbx)
 have iD := hid (dJ.out.below hbx)
 have nM := hid (bel gQ.out hbx)
 clear dI dJ gQ
 clear hbx
 cases cb with
 | false =>
  have ig : Hid (O = ⟨[], Q1, Q2, F2, qb, fb⟩) := by show _ = _; rw [HO.out]; first | done | rfl | simp
  clear HO
  obtain ⟨p0, p1, p2, p3, p4, p5⟩ := iD.out.facts
  go_wp2_with (refine zf fQ.out ({ P0 with fG := F2, hf := fb, eF := Q2, hq := qb, rest := Q1 }) (.tmp 2) (.tmp 41) rfl rfl rfl rfl ?_)
  try simp only [Exit.inBlock, Exit.then]
  exact bodyPost_ret (w := World.setRow w8 (w.heap.size) (cu ({ P0 with fG := F2, hf := fb, eF := Q2, hq := qb, rest := Q1 }))) (resP (p := { P0 with fG := F2, hf := fb, eF := Q2, hq := qb, rest := Q1 }) rfl (fQ.out.row ({ P0 with fG := F2, hf := fb, eF := Q2, hq := qb, rest := Q1 })) _ rfl) rfl ⟨by rw [ig.out]; first | done | rfl, below_setRow nM.out bU.out _⟩
 | true =>
  cases hi : kZ C1 with
  | false =>
   have ig : Hid (O = ⟨[], Q1, Q2, F2, qb, fb⟩) := by show _ = _; rw [HO.out, hi]; first | done | rfl | simp
   rw [hi] at HIS
   clear HO hi
   go_wp2_with fail
   refine (HIS.out _).mono ?_
   rintro e wx ⟨rfl, hwx⟩
   obtain rfl : w8 = wx := by first | exact hwx | exact hwx.symm
   clear hwx
   obtain ⟨p0, p1, p2, p3, p4, p5⟩ := iD.out.facts
   go_wp2_with (refine zf fQ.out ({ P0 with fG := F2, hf := fb, eF := Q2, hq := qb, rest := Q1 }) (.tmp 2) (.tmp 41) rfl rfl rfl rfl ?_)
   try simp only [Exit.inBlock, Exit.then]
   exact bodyPost_ret (w := World.setRow w8 (w.heap.size) (cu ({ P0 with fG := F2, hf := fb, eF := Q2, hq := qb, rest := Q1 }))) (resP (p := { P0 with fG := F2, hf := fb, eF := Q2, hq := qb, rest := Q1 }) rfl (fQ.out.row ({ P0 with fG := F2, hf := fb, eF := Q2, hq := qb, rest := Q1 })) _ rfl) rfl ⟨by rw [ig.out]; first | done | rfl, below_setRow nM.out bU.out _⟩
  | true =>
   have ig : Hid (O = ⟨lower C1, C2, Q2, F2, qb, fb⟩) := by show _ = _; rw [HO.out, hi]; first | done | rfl | simp
   rw [hi] at HIS
   clear HO hi
   go_wp2_with fail
   refine (HIS.out _).mono ?_
   rintro e wx ⟨rfl, hwx⟩
   obtain rfl : w8 = wx := by first | exact hwx | exact hwx.symm
   clear hwx
   go_wp2_with fail
   refine (Yf.out _).mono ?_
   rintro e w9 ⟨rfl, hbx⟩
   have mW := hid (fQ.out.below hbx)
   have mX := hid (iD.out.below hbx)
   have nN := hid (bel nM.out hbx)
   clear fQ iD nM
   clear hbx
   have cx0 := mX.out.facts.1
   have fx0 := mX.out.thaw.1
   have cx1 := mX.out.facts.2.1
   have fx1 := mX.out.thaw.2.1
   go_upto_region 8 with (fail)
   have hxr := ((mW.out.set (k := w1.heap.size) (i := 0) (.string (strOf (lower C1))) aU.out).set (k := w1.heap.size) (i := 1) (.string (strOf C2)) aU.out)
   have hxu := ((mX.out.aj (lower C1)).rest C2)
   have hb := ((nN.out.setCell (p := ⟨w1.heap.size, 0, none⟩) dU.out (.string (strOf (lower C1)))).setCell (p := ⟨w1.heap.size, 1, none⟩) dU.out (.string (strOf C2)))
   clear mW mX nN
   clear cx0 fx0 cx1 fx1
   generalize (World.setCell (World.setCell w9 ⟨w1.heap.size, 0, none⟩ (.string (strOf (lower C1)))) ⟨w1.heap.size, 1, none⟩ (.string (strOf C2))) = w10 at hxr hxu hb ⊢
   have mV : Hid (PB w10 (w.heap.size) (P0)) := hxr
   clear hxr
   have iY : Hid (PB w10 (w1.heap.size) ({ P0 with fG := F2, hf := fb, eF := Q2, hq := qb, rest := C2, aj := lower C1 })) := hxu
   clear hxu
   have uh := hid hb
   clear hb
   obtain ⟨p0, p1, p2, p3, p4, p5⟩ := iY.out.facts
   go_wp2_with (refine zf mV.out ({ P0 with fG := F2, hf := fb, eF := Q2, hq := qb, rest := C2, aj := lower C1 }) (.tmp 2) (.tmp 41) rfl rfl rfl rfl ?_)
   try simp only [Exit.inBlock, Exit.then]
   exact bodyPost_ret (w := World.setRow w10 (w.heap.size) (cu ({ P0 with fG := F2, hf := fb, eF := Q2, hq := qb, rest := C2, aj := lower C1 }))) (resP (p := { P0 with fG := F2, hf := fb, eF := Q2, hq := qb, rest := C2, aj := lower C1 }) rfl (mV.out.row ({ P0 with fG := F2, hf := fb, eF := Q2, hq := qb, rest := C2, aj := lower C1 })) _ rfl) rfl ⟨by rw [ig.out]; first | done | rfl, below_setRow uh.out bU.out _⟩
theorem Ie (u : U) (p : Parts) (A : Option Addr) (n c : Nat) (w : World) (h1 : p.eF.length ≤ 1000000) (h2 : p.fG.length ≤ 1000000) : Calls Tryz.prog 47 #[.agg (cells u (.slice A n c)), .agg (cu p)] w fun e w' => e = .returned (.agg (cells (aH.finish u p) (.slice A n c))) ∧ Below w.heap.size w w' := by
 obtain ⟨O, hO⟩ : ∃ O, O = aH.finish u p := ⟨_, rfl⟩
 rw [← hO]
 have Fe : Hid (∀ w : World, Calls Tryz.prog 97 #[.string (strOf u.aj)] w fun e w' => e = .returned (.bool (special u.aj)) ∧ w' = w) := fun w => jq (strOf u.aj) w
 obtain ⟨pv, hpv⟩ : ∃ q, q = Value.slice A n c := ⟨_, rfl⟩
 obtain ⟨s, r, q, f, hq, hf⟩ := p
 have HO := hid hO
 clear hO
 simp only at h1 h2
 go_enter Tryz.func47, Tryz.ntmps47
 go_upto_region 1 with (fail)
 generalize hw : World.alloc (World.alloc (World.alloc w _) _) _ = w1
 have h1 : UB w1 (w.heap.size) (u) (.slice A n c) ∧ PB w1 ((w.heap.size + 1)) (⟨s, r, q, f, hq, hf⟩) ∧ UB w1 ((w.heap.size + 1 + 1)) (U0) (.slice none 0 0) ∧ Below w.heap.size w w1 := by
  subst hw
  exact acT w _ _ _ _ _ _
 clear hw
 have Nr : Hid (w.heap.size ≠ (w.heap.size + 1)) := by show _ ≠ _; omega
 have nU : Hid (w.heap.size ≠ (w.heap.size + 1 + 1)) := by show _ ≠ _; omega
 have dU : Hid (w.heap.size ≤ w.heap.size) := by show _ ≤ _; omega
 have jw : Hid ((w.heap.size + 1) ≠ w.heap.size) := by show _ ≠ _; omega
 have Nl : Hid ((w.heap.size + 1) ≠ (w.heap.size + 1 + 1)) := by show _ ≠ _; omega
 have Yi : Hid (w.heap.size ≤ (w.heap.size + 1)) := by show _ ≤ _; omega
 have aU : Hid ((w.heap.size + 1 + 1) ≠ w.heap.size) := by show _ ≠ _; omega
 have Np : Hid ((w.heap.size + 1 + 1) ≠ (w.heap.size + 1)) := by show _ ≠ _; omega
 have bU : Hid (w.heap.size ≤ (w.heap.size + 1 + 1)) := by show _ ≤ _; omega
 have rP := hid h1.1
 have dQ := hid h1.2.1
 have bJ := hid h1.2.2.1
 have dn := hid h1.2.2.2
 clear h1
 cases hq with
 | false =>
  have jI : Hid (O = if hf = true then { u with hf := true, fG := aJ.enc 1 f } else u) := by show _ = _; rw [HO.out]; unfold aH.finish; first | done | rfl | simp
  obtain ⟨p0, p1, p2, p3, p4, p5⟩ := dQ.out.facts
  go_upto_region 6 with (fail)
  clear p0 p1 p2 p3 p4 p5
  cases hf with
  | false =>
   have ig : Hid (O = u) := by show _ = _; rw [jI.out]; first | done | rfl | simp
   obtain ⟨p0, p1, p2, p3, p4, p5⟩ := dQ.out.facts
   obtain ⟨c0, c1, c2', c3, c4, c5, c6, c7, c8, c9, c10, c11, c12⟩ := rP.out.facts
   go_wp2_with (refine au bJ.out (u) A n c (.tmp 4) (.tmp 26) rfl rfl rfl rfl ?_)
   try simp only [Exit.inBlock, Exit.then]
   exact bodyPost_ret (w := World.setRow w1 (w.heap.size + 1 + 1) (cells (u) (.slice A n c))) (res1 (u := u) (p := .slice A n c) rfl (bJ.out.row (u) _) _ rfl) rfl ⟨by rw [ig.out]; first | done | rfl, below_setRow dn.out bU.out _⟩
  | true =>
   have ig : Hid (O = { u with hf := true, fG := aJ.enc 1 f }) := by show _ = _; rw [jI.out]; first | done | rfl | simp
   obtain ⟨p0, p1, p2, p3, p4, p5⟩ := dQ.out.facts
   have hcv := fun (w : World) s => run_bytes_of_string (P := Tryz.prog) w 9 30 5 s Tryz.underlying9 Tryz.underlying30 Tryz.underlying5
   go_wp2_with fail
   clear hcv
   refine (aJ.fM 1 _ _ _ f _ (iy (strOf f) _ _ _) (fC (by omega))).mono ?_
   rintro e w2 ⟨rfl, hb0⟩
   have hbx : Below w1.heap.size w1 w2 := bel (((Below.refl w1.heap.size w1).alloc (Nat.le_refl _) _).drew) hb0
   clear hb0
   have fK := hid (rP.out.below hbx)
   have jY := hid (dQ.out.below hbx)
   have dh := hid (bJ.out.below hbx)
   have eY := hid (bel dn.out hbx)
   clear rP dQ bJ dn
   clear hbx
   clear p0 p1 p2 p3 p4 p5
   have abp := fK.out.facts.2.2.2.2.2.2.2.2.2.2.1
   have abW := fK.out.thaw.2.2.2.2.2.2.2.2.2.2.1
   have abq := fK.out.facts.2.2.2.2.2.2.2.2.2.2.2.2
   have abX := fK.out.thaw.2.2.2.2.2.2.2.2.2.2.2.2
   go_upto_region 8 with (fail)
   have hxu := ((fK.out.hf true).fG (aJ.enc 1 f))
   have hxp := ((jY.out.set (k := w.heap.size) (i := 10) (.bool true) jw.out).set (k := w.heap.size) (i := 12) (.string (strOf (aJ.enc 1 f))) jw.out)
   have hxr := ((dh.out.set (k := w.heap.size) (i := 10) (.bool true) aU.out).set (k := w.heap.size) (i := 12) (.string (strOf (aJ.enc 1 f))) aU.out)
   have hb := ((eY.out.setCell (p := ⟨w.heap.size, 10, none⟩) dU.out (.bool true)).setCell (p := ⟨w.heap.size, 12, none⟩) dU.out (.string (strOf (aJ.enc 1 f))))
   clear fK jY dh eY
   clear abp abW abq abX
   generalize (World.setCell (World.setCell w2 ⟨w.heap.size, 10, none⟩ (.bool true)) ⟨w.heap.size, 12, none⟩ (.string (strOf (aJ.enc 1 f)))) = w3 at hxu hxp hxr hb ⊢
   have eG : Hid (UB w3 (w.heap.size) ({ u with hf := true, fG := aJ.enc 1 f }) (.slice A n c)) := hxu
   clear hxu
   have oQ : Hid (PB w3 ((w.heap.size + 1)) (⟨s, r, q, f, false, true⟩)) := hxp
   clear hxp
   have bQ : Hid (UB w3 ((w.heap.size + 1 + 1)) (U0) (.slice none 0 0)) := hxr
   clear hxr
   have dL := hid hb
   clear hb
   obtain ⟨c0, c1, c2', c3, c4, c5, c6, c7, c8, c9, c10, c11, c12⟩ := eG.out.facts
   go_wp2_with (refine au bQ.out ({ u with hf := true, fG := aJ.enc 1 f }) A n c (.tmp 4) (.tmp 26) rfl rfl rfl rfl ?_)
   try simp only [Exit.inBlock, Exit.then]
   exact bodyPost_ret (w := World.setRow w3 (w.heap.size + 1 + 1) (cells ({ u with hf := true, fG := aJ.enc 1 f }) (.slice A n c))) (res1 (u := { u with hf := true, fG := aJ.enc 1 f }) (p := .slice A n c) rfl (bQ.out.row ({ u with hf := true, fG := aJ.enc 1 f }) _) _ rfl) rfl ⟨by rw [ig.out]; first | done | rfl, below_setRow dL.out bU.out _⟩
 | true =>
  cases hs : special u.aj with
  | false =>
   have jI : Hid (O = if hf = true then { { u with hq := true, eF := aJ.enc 2 q } with hf := true, fG := aJ.enc 1 f } else { u with hq := true, eF := aJ.enc 2 q }) := by show _ = _; rw [HO.out]; unfold aH.finish; simp only [hs]; first | done | rfl | simp
   rw [hs] at Fe
   clear hs
   obtain ⟨p0, p1, p2, p3, p4, p5⟩ := dQ.out.facts
   have cs0 := rP.out.facts.1
   go_wp2_with fail
   refine (Fe.out _).mono ?_
   rintro e wx ⟨rfl, hwx⟩
   obtain rfl : w1 = wx := by first | exact hwx | exact hwx.symm
   clear hwx
   have hcv := fun (w : World) s => run_bytes_of_string (P := Tryz.prog) w 9 30 5 s Tryz.underlying9 Tryz.underlying30 Tryz.underlying5
   go_wp2_with fail
   clear hcv
   refine (aJ.fM 2 _ _ _ q _ (iy (strOf q) _ _ _) (fC (by omega))).mono ?_
   rintro e w2 ⟨rfl, hb0⟩
   have hbx : Below w1.heap.size w1 w2 := bel (((Below.refl w1.heap.size w1).alloc (Nat.le_refl _) _).drew) hb0
   clear hb0
   have fK := hid (rP.out.below hbx)
   have jY := hid (dQ.out.below hbx)
   have dh := hid (bJ.out.below hbx)
   have eY := hid (bel dn.out hbx)
   clear rP dQ bJ dn
   clear hbx
   clear p0 p1 p2 p3 p4 p5
   clear cs0
   have cx9 := fK.out.facts.2.2.2.2.2.2.2.2.2.1
   have fx9 := fK.out.thaw.2.2.2.2.2.2.2.2.2.1
   have cx11 := fK.out.facts.2.2.2.2.2.2.2.2.2.2.2.1
   have fx11 := fK.out.thaw.2.2.2.2.2.2.2.2.2.2.2.1
   go_upto_region 6 with (fail)
   have hxu := ((fK.out.hq true).eF (aJ.enc 2 q))
   have hxp := ((jY.out.set (k := w.heap.size) (i := 9) (.bool true) jw.out).set (k := w.heap.size) (i := 11) (.string (strOf (aJ.enc 2 q))) jw.out)
   have hxr := ((dh.out.set (k := w.heap.size) (i := 9) (.bool true) aU.out).set (k := w.heap.size) (i := 11) (.string (strOf (aJ.enc 2 q))) aU.out)
   have hb := ((eY.out.setCell (p := ⟨w.heap.size, 9, none⟩) dU.out (.bool true)).setCell (p := ⟨w.heap.size, 11, none⟩) dU.out (.string (strOf (aJ.enc 2 q))))
   clear fK jY dh eY
   clear cx9 fx9 cx11 fx11
   generalize (World.setCell (World.setCell w2 ⟨w.heap.size, 9, none⟩ (.bool true)) ⟨w.heap.size, 11, none⟩ (.string (strOf (aJ.enc 2 q)))) = w3 at hxu hxp hxr hb ⊢
   have eG : Hid (UB w3 (w.heap.size) ({ u with hq := true, eF := aJ.enc 2 q }) (.slice A n c)) := hxu
   clear hxu
   have oQ : Hid (PB w3 ((w.heap.size + 1)) (⟨s, r, q, f, true, hf⟩)) := hxp
   clear hxp
   have bQ : Hid (UB w3 ((w.heap.size + 1 + 1)) (U0) (.slice none 0 0)) := hxr
   clear hxr
   have dL := hid hb
   clear hb
   cases hf with
   | false =>
    have ig : Hid (O = { u with hq := true, eF := aJ.enc 2 q }) := by show _ = _; rw [jI.out]; first | done | rfl | simp
    obtain ⟨p0, p1, p2, p3, p4, p5⟩ := oQ.out.facts
    obtain ⟨c0, c1, c2', c3, c4, c5, c6, c7, c8, c9, c10, c11, c12⟩ := eG.out.facts
    go_wp2_with (refine au bQ.out ({ u with hq := true, eF := aJ.enc 2 q }) A n c (.tmp 4) (.tmp 26) rfl rfl rfl rfl ?_)
    try simp only [Exit.inBlock, Exit.then]
    exact bodyPost_ret (w := World.setRow w3 (w.heap.size + 1 + 1) (cells ({ u with hq := true, eF := aJ.enc 2 q }) (.slice A n c))) (res1 (u := { u with hq := true, eF := aJ.enc 2 q }) (p := .slice A n c) rfl (bQ.out.row ({ u with hq := true, eF := aJ.enc 2 q }) _) _ rfl) rfl ⟨by rw [ig.out]; first | done | rfl, below_setRow dL.out bU.out _⟩
   | true =>
    have ig : Hid (O = { u with hq := true, eF := aJ.enc 2 q, hf := true, fG := aJ.enc 1 f }) := by show _ = _; rw [jI.out]; first | done | rfl | simp
    obtain ⟨p0, p1, p2, p3, p4, p5⟩ := oQ.out.facts
    have hcv := fun (w : World) s => run_bytes_of_string (P := Tryz.prog) w 9 30 5 s Tryz.underlying9 Tryz.underlying30 Tryz.underlying5
    go_wp2_with fail
    clear hcv
    refine (aJ.fM 1 _ _ _ f _ (iy (strOf f) _ _ _) (fC (by omega))).mono ?_
    rintro e w4 ⟨rfl, hb0⟩
    have hbx : Below w3.heap.size w3 w4 := bel (((Below.refl w3.heap.size w3).alloc (Nat.le_refl _) _).drew) hb0
    clear hb0
    have dA := hid (eG.out.below hbx)
    have oU := hid (oQ.out.below hbx)
    have bP := hid (bQ.out.below hbx)
    have dH := hid (bel dL.out hbx)
    clear eG oQ bQ dL
    clear hbx
    clear p0 p1 p2 p3 p4 p5
    have abp := dA.out.facts.2.2.2.2.2.2.2.2.2.2.1
    have abW := dA.out.thaw.2.2.2.2.2.2.2.2.2.2.1
    have abq := dA.out.facts.2.2.2.2.2.2.2.2.2.2.2.2
    have abX := dA.out.thaw.2.2.2.2.2.2.2.2.2.2.2.2
    go_upto_region 8 with (fail)
    have hxu := ((dA.out.hf true).fG (aJ.enc 1 f))
    have hxp := ((oU.out.set (k := w.heap.size) (i := 10) (.bool true) jw.out).set (k := w.heap.size) (i := 12) (.string (strOf (aJ.enc 1 f))) jw.out)
    have hxr := ((bP.out.set (k := w.heap.size) (i := 10) (.bool true) aU.out).set (k := w.heap.size) (i := 12) (.string (strOf (aJ.enc 1 f))) aU.out)
    have hb := ((dH.out.setCell (p := ⟨w.heap.size, 10, none⟩) dU.out (.bool true)).setCell (p := ⟨w.heap.size, 12, none⟩) dU.out (.string (strOf (aJ.enc 1 f))))
    clear dA oU bP dH
    clear abp abW abq abX
    generalize (World.setCell (World.setCell w4 ⟨w.heap.size, 10, none⟩ (.bool true)) ⟨w.heap.size, 12, none⟩ (.string (strOf (aJ.enc 1 f)))) = w5 at hxu hxp hxr hb ⊢
    have bG : Hid (UB w5 (w.heap.size) ({ u with hq := true, eF := aJ.enc 2 q, hf := true, fG := aJ.enc 1 f }) (.slice A n c)) := hxu
    clear hxu
    have oV : Hid (PB w5 ((w.heap.size + 1)) (⟨s, r, q, f, true, true⟩)) := hxp
    clear hxp
    have bM : Hid (UB w5 ((w.heap.size + 1 + 1)) (U0) (.slice none 0 0)) := hxr
    clear hxr
    have dZ := hid hb
    clear hb
    obtain ⟨c0, c1, c2', c3, c4, c5, c6, c7, c8, c9, c10, c11, c12⟩ := bG.out.facts
    go_wp2_with (refine au bM.out ({ u with hq := true, eF := aJ.enc 2 q, hf := true, fG := aJ.enc 1 f }) A n c (.tmp 4) (.tmp 26) rfl rfl rfl rfl ?_)
    try simp only [Exit.inBlock, Exit.then]
    exact bodyPost_ret (w := World.setRow w5 (w.heap.size + 1 + 1) (cells ({ u with hq := true, eF := aJ.enc 2 q, hf := true, fG := aJ.enc 1 f }) (.slice A n c))) (res1 (u := { u with hq := true, eF := aJ.enc 2 q, hf := true, fG := aJ.enc 1 f }) (p := .slice A n c) rfl (bM.out.row ({ u with hq := true, eF := aJ.enc 2 q, hf := true, fG := aJ.enc 1 f }) _) _ rfl) rfl ⟨by rw [ig.out]; first | done | rfl, below_setRow dZ.out bU.out _⟩
  | true =>
   have jI : Hid (O = if hf = true then { { u with hq := true, eF := aJ.enc 3 q } with hf := true, fG := aJ.enc 1 f } else { u with hq := true, eF := aJ.enc 3 q }) := by show _ = _; rw [HO.out]; unfold aH.finish; simp only [hs]; first | done | rfl | simp
   rw [hs] at Fe
   clear hs
   obtain ⟨p0, p1, p2, p3, p4, p5⟩ := dQ.out.facts
   have cs0 := rP.out.facts.1
   go_wp2_with fail
   refine (Fe.out _).mono ?_
   rintro e wx ⟨rfl, hwx⟩
   obtain rfl : w1 = wx := by first | exact hwx | exact hwx.symm
   clear hwx
   have hcv := fun (w : World) s => run_bytes_of_string (P := Tryz.prog) w 9 30 5 s Tryz.underlying9 Tryz.underlying30 Tryz.underlying5
   go_wp2_with fail
   clear hcv
   refine (aJ.fM 3 _ _ _ q _ (iy (strOf q) _ _ _) (fC (by omega))).mono ?_
   rintro e w2 ⟨rfl, hb0⟩
   have hbx : Below w1.heap.size w1 w2 := bel (((Below.refl w1.heap.size w1).alloc (Nat.le_refl _) _).drew) hb0
   clear hb0
   have fK := hid (rP.out.below hbx)
   have jY := hid (dQ.out.below hbx)
   have dh := hid (bJ.out.below hbx)
   have eY := hid (bel dn.out hbx)
   clear rP dQ bJ dn
   clear hbx
   clear p0 p1 p2 p3 p4 p5
   clear cs0
   have cx9 := fK.out.facts.2.2.2.2.2.2.2.2.2.1
   have fx9 := fK.out.thaw.2.2.2.2.2.2.2.2.2.1
   have cx11 := fK.out.facts.2.2.2.2.2.2.2.2.2.2.2.1
   have fx11 := fK.out.thaw.2.2.2.2.2.2.2.2.2.2.2.1
   go_upto_region 6 with (fail)
   have hxu := ((fK.out.hq true).eF (aJ.enc 3 q))
   have hxp := ((jY.out.set (k := w.heap.size) (i := 9) (.bool true) jw.out).set (k := w.heap.size) (i := 11) (.string (strOf (aJ.enc 3 q))) jw.out)
   have hxr := ((dh.out.set (k := w.heap.size) (i := 9) (.bool true) aU.out).set (k := w.heap.size) (i := 11) (.string (strOf (aJ.enc 3 q))) aU.out)
   have hb := ((eY.out.setCell (p := ⟨w.heap.size, 9, none⟩) dU.out (.bool true)).setCell (p := ⟨w.heap.size, 11, none⟩) dU.out (.string (strOf (aJ.enc 3 q))))
   clear fK jY dh eY
   clear cx9 fx9 cx11 fx11
   generalize (World.setCell (World.setCell w2 ⟨w.heap.size, 9, none⟩ (.bool true)) ⟨w.heap.size, 11, none⟩ (.string (strOf (aJ.enc 3 q)))) = w3 at hxu hxp hxr hb ⊢
   have eG : Hid (UB w3 (w.heap.size) ({ u with hq := true, eF := aJ.enc 3 q }) (.slice A n c)) := hxu
   clear hxu
   have oQ : Hid (PB w3 ((w.heap.size + 1)) (⟨s, r, q, f, true, hf⟩)) := hxp
   clear hxp
   have bQ : Hid (UB w3 ((w.heap.size + 1 + 1)) (U0) (.slice none 0 0)) := hxr
   clear hxr
   have dL := hid hb
   clear hb
   cases hf with
   | false =>
    have ig : Hid (O = { u with hq := true, eF := aJ.enc 3 q }) := by show _ = _; rw [jI.out]; first | done | rfl | simp
    obtain ⟨p0, p1, p2, p3, p4, p5⟩ := oQ.out.facts
    obtain ⟨c0, c1, c2', c3, c4, c5, c6, c7, c8, c9, c10, c11, c12⟩ := eG.out.facts
    go_wp2_with (refine au bQ.out ({ u with hq := true, eF := aJ.enc 3 q }) A n c (.tmp 4) (.tmp 26) rfl rfl rfl rfl ?_)
    try simp only [Exit.inBlock, Exit.then]
    exact bodyPost_ret (w := World.setRow w3 (w.heap.size + 1 + 1) (cells ({ u with hq := true, eF := aJ.enc 3 q }) (.slice A n c))) (res1 (u := { u with hq := true, eF := aJ.enc 3 q }) (p := .slice A n c) rfl (bQ.out.row ({ u with hq := true, eF := aJ.enc 3 q }) _) _ rfl) rfl ⟨by rw [ig.out]; first | done | rfl, below_setRow dL.out bU.out _⟩
   | true =>
    have ig : Hid (O = { u with hq := true, eF := aJ.enc 3 q, hf := true, fG := aJ.enc 1 f }) := by show _ = _; rw [jI.out]; first | done | rfl | simp
    obtain ⟨p0, p1, p2, p3, p4, p5⟩ := oQ.out.facts
    have hcv := fun (w : World) s => run_bytes_of_string (P := Tryz.prog) w 9 30 5 s Tryz.underlying9 Tryz.underlying30 Tryz.underlying5
    go_wp2_with fail
    clear hcv
    refine (aJ.fM 1 _ _ _ f _ (iy (strOf f) _ _ _) (fC (by omega))).mono ?_
    rintro e w4 ⟨rfl, hb0⟩
    have hbx : Below w3.heap.size w3 w4 := bel (((Below.refl w3.heap.size w3).alloc (Nat.le_refl _) _).drew) hb0
    clear hb0
    have dA := hid (eG.out.below hbx)
    have oU := hid (oQ.out.below hbx)
    have bP := hid (bQ.out.below hbx)
    have dH := hid (bel dL.out hbx)
    clear eG oQ bQ dL
    clear hbx
    clear p0 p1 p2 p3 p4 p5
    have abp := dA.out.facts.2.2.2.2.2.2.2.2.2.2.1
    have abW := dA.out.thaw.2.2.2.2.2.2.2.2.2.2.1
    have abq := dA.out.facts.2.2.2.2.2.2.2.2.2.2.2.2
    have abX := dA.out.thaw.2.2.2.2.2.2.2.2.2.2.2.2
    go_upto_region 8 with (fail)
    have hxu := ((dA.out.hf true).fG (aJ.enc 1 f))
    have hxp := ((oU.out.set (k := w.heap.size) (i := 10) (.bool true) jw.out).set (k := w.heap.size) (i := 12) (.string (strOf (aJ.enc 1 f))) jw.out)
    have hxr := ((bP.out.set (k := w.heap.size) (i := 10) (.bool true) aU.out).set (k := w.heap.size) (i := 12) (.string (strOf (aJ.enc 1 f))) aU.out)
    have hb := ((dH.out.setCell (p := ⟨w.heap.size, 10, none⟩) dU.out (.bool true)).setCell (p := ⟨w.heap.size, 12, none⟩) dU.out (.string (strOf (aJ.enc 1 f))))
    clear dA oU bP dH
    clear abp abW abq abX
    generalize (World.setCell (World.setCell w4 ⟨w.heap.size, 10, none⟩ (.bool true)) ⟨w.heap.size, 12, none⟩ (.string (strOf (aJ.enc 1 f)))) = w5 at hxu hxp hxr hb ⊢
    have bG : Hid (UB w5 (w.heap.size) ({ u with hq := true, eF := aJ.enc 3 q, hf := true, fG := aJ.enc 1 f }) (.slice A n c)) := hxu
    clear hxu
    have oV : Hid (PB w5 ((w.heap.size + 1)) (⟨s, r, q, f, true, true⟩)) := hxp
    clear hxp
    have bM : Hid (UB w5 ((w.heap.size + 1 + 1)) (U0) (.slice none 0 0)) := hxr
    clear hxr
    have dZ := hid hb
    clear hb
    obtain ⟨c0, c1, c2', c3, c4, c5, c6, c7, c8, c9, c10, c11, c12⟩ := bG.out.facts
    go_wp2_with (refine au bM.out ({ u with hq := true, eF := aJ.enc 3 q, hf := true, fG := aJ.enc 1 f }) A n c (.tmp 4) (.tmp 26) rfl rfl rfl rfl ?_)
    try simp only [Exit.inBlock, Exit.then]
    exact bodyPost_ret (w := World.setRow w5 (w.heap.size + 1 + 1) (cells ({ u with hq := true, eF := aJ.enc 3 q, hf := true, fG := aJ.enc 1 f }) (.slice A n c))) (res1 (u := { u with hq := true, eF := aJ.enc 3 q, hf := true, fG := aJ.enc 1 f }) (p := .slice A n c) rfl (bM.out.row ({ u with hq := true, eF := aJ.enc 3 q, hf := true, fG := aJ.enc 1 f }) _) _ rfl) rfl ⟨by rw [ig.out]; first | done | rfl, below_setRow dZ.out bU.out _⟩
end Go.Proofs.YtcfgioklgmlclaaGreatDoor.Un
namespace Go.Proofs.YtcfgioklgmlclaaGreatDoor.fZ
open Go.RowKit Base aP aH tZ AL
def Wj (o : Option U) (B : Nat) : Keep := ⟨fun v w => ∃ A n c, v = .tuple #[.agg (cells (o.getD U0) (.slice A n c)), .bool o.isSome] ∧ w.ownsRow B 9 1 (.slice A n c) n ((o.getD U0).aN.map Value.string), fun _ _ _ hb ⟨A, n, c, h1, h2⟩ => ⟨A, n, c, h1, aI h2 hb⟩⟩
def TF (o : Option U) (B : Nat) : Keep := ⟨fun v w => ∃ A n c, v = .agg (cells (o.getD U0) (.slice A n c)) ∧ w.ownsRow B 9 1 (.slice A n c) n ((o.getD U0).aN.map Value.string), fun _ _ _ hb ⟨A, n, c, h1, h2⟩ => ⟨A, n, c, h1, aI h2 hb⟩⟩
theorem nX {w w' : World} {o : Option U} {e : Ending} (h : mG w o e w') : Below w.heap.size w w' ∧ ∃ A n c, e = .returned (.tuple #[.agg (cells (o.getD U0) (.slice A n c)), .bool o.isSome]) ∧ w'.ownsRow w.heap.size 9 1 (.slice A n c) n ((o.getD U0).aN.map Value.string) := by
 obtain ⟨hb, u, A, n, c, ok, rfl, hown, h1 | h1⟩ := h
 ·obtain ⟨rfl, rfl⟩ := h1
  exact ⟨hb, A, n, c, rfl, hown⟩
 ·obtain ⟨rfl, rfl, rfl⟩ := h1
  exact ⟨hb, A, n, c, rfl, hown⟩
theorem oC {w w' : World} {o : Option U} {A : Option Addr} {n c : Nat} (hb : Below w.heap.size w w') (h : w'.ownsRow w.heap.size 9 1 (.slice A n c) n ((o.getD U0).aN.map Value.string)) : mG w o (.returned (.tuple #[.agg (cells (o.getD U0) (.slice A n c)), .bool o.isSome])) w' := by
 cases o with
 | none => exact ⟨hb, U0, A, n, c, false, rfl, h, .inr ⟨rfl, rfl, rfl⟩⟩
 | some u => exact ⟨hb, u, A, n, c, true, rfl, h, .inl ⟨rfl, rfl⟩⟩
end Go.Proofs.YtcfgioklgmlclaaGreatDoor.fZ
namespace Go.Proofs.YtcfgioklgmlclaaGreatDoor.PrsI
open Go.RowKit Base fZ aP eX fE pU AO qM ng aH xX tq Ej tZ Pbx AL Em kX AA Fh Un
theorem pre_len {r : List UInt8} (h : Lib.hasPrefix r [47, 47] = true) : 2 ≤ r.length := by
 unfold Lib.hasPrefix at h
 match r, h with
 | [], h => cases h
 | [a], h => simp [List.isPrefixOf] at h
 | a :: b :: t, _ => simp
theorem ad4 (E : List UInt8) : (Lib.trimSuffix E [32]).length ≤ E.length := by
 unfold Lib.trimSuffix
 split
 ·simp
 ·exact Nat.le_refl _
theorem LW (p : Parts) (w : World) (hs : p.rest.length ≤ 900000) (hL : pR w) (hT : Tab.Pow w) (hM : Max w) : Calls Tryz.prog 102 #[.agg (cu p)] w (mG w (aH.plain p)) := by
 obtain ⟨s, r, q, f, hq, hf⟩ := p
 simp only at hs
 obtain ⟨O, hO⟩ : ∃ O, O = aH.plain ⟨s, r, q, f, hq, hf⟩ := ⟨_, rfl⟩
 rw [← hO]
 obtain ⟨a2, ha2⟩ : ∃ x, x = Lib.hasPrefix r [47, 47] := ⟨_, rfl⟩
 obtain ⟨a1, ha1⟩ : ∃ x, x = Lib.hasPrefix r [47] := ⟨_, rfl⟩
 unfold aH.plain at hO
 simp only at hO
 rw [← ha2, ← ha1] at hO
 have h2l : a2 = true → 2 ≤ r.length := fun h => by rw [h] at ha2; exact pre_len ha2.symm
 have H2L := hid h2l
 have HP2 : Hid (∀ w : World, Calls Tryz.prog 81 #[.string (strOf r), .string ⟨#[47, 47]⟩] w fun e w' => e = .returned (.bool a2) ∧ w' = w) := fun w => by rw [ha2]; exact Tryz.strings_HasPrefix (strOf r) ⟨#[47, 47]⟩ w
 have HP1 : Hid (∀ w : World, Calls Tryz.prog 81 #[.string (strOf r), .string ⟨#[47]⟩] w fun e w' => e = .returned (.bool a1) ∧ w' = w) := fun w => by rw [ha1]; exact Tryz.strings_HasPrefix (strOf r) ⟨#[47]⟩ w
 have HAU : Hid (∀ (L : List UInt8) (w : World), L.length ≤ 900000 → pR w → Tab.Pow w → Max w → Calls Tryz.prog 99 #[.string (strOf s), .string (strOf L)] w (mG w (authority s L))) := fun L w h a c d => oG s L w h a c d
 have Ce : Hid (∀ w : World, Calls Tryz.prog 154 #[.string (strOf s), .string (strOf r)] w (jT w.heap.size w (rooted s r))) := fun w => wM (strOf s) (strOf r) w (fC (by omega))
 obtain ⟨E, hE⟩ : ∃ E, E = aJ.enc 0 r := ⟨_, rfl⟩
 have hEl : E.length ≤ 3000000 := by rw [hE]; have := aJ.iL 0 r; omega
 have HEN : Hid (∀ (A : Option Addr) (n c : Nat) (w : World), dS w A n (ak r) → n ≤ 1073741824 → Calls Tryz.prog 104 #[.int .i64 0, .slice A n c] w fun e w' => e = .returned (.string (strOf E)) ∧ Below w.heap.size w w') := fun A n c w h1 h2 => by rw [hE]; exact aJ.fM 0 A n c r w h1 h2
 have hop : aH.opq (hq || hf) r = if Lib.hasSuffix E [32] = true ∧ (hq || hf) = true then Lib.trimSuffix E [32] ++ [37, 50, 48] else E := by rw [hE]; rfl
 rw [hop] at hO
 obtain ⟨sb, hsb⟩ : ∃ x, x = Lib.hasSuffix E [32] := ⟨_, rfl⟩
 obtain ⟨TS, hTS⟩ : ∃ x, x = Lib.trimSuffix E [32] := ⟨_, rfl⟩
 have hTSl : TS.length ≤ 3000000 := by rw [hTS]; have := ad4 E; omega
 have TR : Hid (∀ w : World, Calls Tryz.prog 76 #[.string (strOf E), .string ⟨#[32]⟩] w fun e w' => e = .returned (.tuple #[.string (strOf TS), .bool sb]) ∧ w' = w) := fun w => by rw [hTS, hsb]; exact Tryz.strings_CutSuffix (strOf E) ⟨#[32]⟩ w (by rw [ah]; omega)
 have HAD : Hid (∀ w : World, (Op.stringOp .add (strOf TS) ⟨#[37, 50, 48]⟩).run Tryz.prog w = .ok (.string (strOf (TS ++ [37, 50, 48]))) w) := fun w => bf (strOf TS) ⟨#[37, 50, 48]⟩ w (by rw [ah]; show _ + 3 ≤ _; omega)
 rw [← hsb, ← hTS] at hO
 have HO := hid hO
 have HL := hid hL
 have HT := hid hT
 have HM := hid hM
 clear hO ha2 ha1 h2l hop hsb hTS hE hL hT hM
 go_enter Tryz.func102, Tryz.ntmps102
 go_upto_region 1 with (fail)
 generalize hw : World.alloc (World.alloc w _) _ = w1
 have h1 : PB w1 (w.heap.size) (⟨s, r, q, f, hq, hf⟩) ∧ UB w1 ((w.heap.size + 1)) (U0) (.slice none 0 0) ∧ Below w.heap.size w w1 := by
  subst hw
  exact laid2 w _ _ _ _
 clear hw
 have Nl : Hid (w.heap.size ≠ (w.heap.size + 1)) := by show _ ≠ _; omega
 have Np : Hid ((w.heap.size + 1) ≠ w.heap.size) := by show _ ≠ _; omega
 have Yi : Hid (w.heap.size ≤ w.heap.size) := Nat.le_refl _
 have bU : Hid (w.heap.size ≤ (w.heap.size + 1)) := Nat.le_succ _
 have dQ := hid h1.1
 have bJ := hid h1.2.1
 have dn := hid h1.2.2
 clear h1
 obtain ⟨p0, p1, p2, p3, p4, p5⟩ := dQ.out.facts
 go_upto_region 7 with (fail)
 generalize hw : World.alloc w1 _ = w2
 have h1 : UB w2 (w1.heap.size) ({ U0 with aj := s, port := -1 }) (.slice none 0 0) ∧ Below w1.heap.size w1 w2 := by
  subst hw
  exact laid1 w1 _ _
 clear hw
 have hlp := dQ.out.lt
 have jw : Hid (w.heap.size ≠ w1.heap.size) := by show _ ≠ _; omega
 have Nr : Hid (w1.heap.size ≠ w.heap.size) := by show _ ≠ _; omega
 clear hlp
 have hlr := bJ.out.lt
 have aU : Hid ((w.heap.size + 1) ≠ w1.heap.size) := by show _ ≠ _; omega
 have nU : Hid (w1.heap.size ≠ (w.heap.size + 1)) := by show _ ≠ _; omega
 clear hlr
 have dU : Hid (w.heap.size ≤ w1.heap.size) := dn.out.size
 have jY := hid (dQ.out.below h1.2)
 have dh := hid (bJ.out.below h1.2)
 have eY := hid (bel dn.out h1.2)
 have fK := hid h1.1
 clear dQ bJ dn
 clear h1
 clear p0 p1 p2 p3 p4 p5
 obtain ⟨p0, p1, p2, p3, p4, p5⟩ := jY.out.facts
 go_wp2_with fail
 refine (HP2.out _).mono ?_
 rintro e wx ⟨rfl, hwx⟩
 obtain rfl : w2 = wx := by first | exact hwx | exact hwx.symm
 clear hwx
 cases a2 with
 | true =>
  have hl2 := H2L.out (by simp)
  have ig : Hid (O = authority s (r.drop 2)) := by show _ = _; rw [HO.out, if_pos (by simp)]
  obtain ⟨T2, hT2⟩ : ∃ x, x = r.drop 2 := ⟨_, rfl⟩
  have hx2 : (strOf r).extract 2 (strOf r).size = strOf T2 := by rw [kP, hT2]; rfl
  have iG := hid hx2
  have hkI : (2 : Int) ≤ ((strOf r).size : Int) := by rw [ah]; omega
  rw [← hT2] at ig
  have Ol : T2.length ≤ 900000 := by rw [hT2, List.length_drop]; omega
  have fV : Hid ((w.heap.size + 1) < w2.heap.size) := dh.out.lt
  have HF := hid jY.out.facts
  obtain ⟨OA, hOA⟩ : ∃ x, x = authority s T2 := ⟨_, rfl⟩
  have HAU2 : Hid (∀ w : World, pR w → Tab.Pow w → Max w → Calls Tryz.prog 99 #[.string (strOf s), .string (strOf T2)] w (mG w OA)) := fun w a b c => by rw [hOA]; exact HAU.out T2 w (by omega) a b c
  rw [← hOA] at ig
  clear hT2 hl2 hx2 hOA
  clear p0 p1 p2 p3 p4 p5
  go_upto_region 8 with (fail)
  refine dG (by kernel_rfl) 8 [is (.pointer (some ⟨w.heap.size, 0, none⟩)), is (.string (strOf s)), is (.pointer (some ⟨w.heap.size, 1, none⟩)), is (.string (strOf r)), is (.string (strOf T2)), Wj OA w2.heap.size, TF OA w2.heap.size, is (.bool OA.isSome)] [[], [0], [], [2], [2, 3], [0, 1, 2, 3, 4], [0, 1, 2, 3, 4, 5], [0, 1, 2, 3, 4, 5], [0, 1, 2, 3, 4, 5, 6, 7]] (by kernel_rfl) ?_ ?_
  ·refine ⟨?_, ?_, ?_, ?_, ?_, ?_, ?_, ?_, trivial⟩
   all_goals (intro t wq hbq hh K hK; simp only [filled, bH, upd, Have, is, any, row, pick, Act.put, List.setIfInBounds_toArray, List.set_cons_zero, List.set_cons_succ, Nat.reduceAdd, Nat.reduceEqDiff, reduceIte, List.tail_cons, List.headD_cons] at hh hK ⊢)
   ·(try clear hh); go_simp; exact hK _ _ (Below.refl _ _) rfl
   ·simp only [hh] at hK ⊢; clear hh; have hc := HF.out.1; have hc2 := (hbq.cell (p := ⟨w.heap.size, 0, none⟩) (by have := fV.out; show w.heap.size < _; omega)).trans hc; go_simp; exact hK _ _ (Below.refl _ _) rfl
   ·(try clear hh); go_simp; exact hK _ _ (Below.refl _ _) rfl
   ·simp only [hh] at hK ⊢; clear hh; have hc := HF.out.2.1; have hc2 := (hbq.cell (p := ⟨w.heap.size, 1, none⟩) (by have := fV.out; show w.heap.size < _; omega)).trans hc; go_simp; exact hK _ _ (Below.refl _ _) rfl
   ·simp only [hh] at hK ⊢; clear hh; have hx := iG.out; go_simp; exact hK _ _ (Below.refl _ _) rfl
   ·simp only [hh] at hK ⊢; clear hh; go_simp; refine (HAU2.out _ (HL.out.below (bel eY.out hbq)) (cO HT.out (bel eY.out hbq)) (HM.out.below (bel eY.out hbq))).mono ?_; intro e w9 ha; obtain ⟨nP, A9, n9, c9, rfl, JY⟩ := fZ.nX ha; exact hK _ _ nP ⟨A9, n9, c9, rfl, aF JY hbq.size⟩
   ·have e5 := hh.2.2.2.2.2.1; (try clear hh); obtain ⟨A5, n5, c5, e5, Ot⟩ := e5; simp only [e5] at hK ⊢; go_simp; exact hK _ _ (Below.refl _ _) ⟨_, _, _, rfl, Ot⟩
   ·have e5 := hh.2.2.2.2.2.1; (try clear hh); obtain ⟨A5, n5, c5, e5, Ot⟩ := e5; simp only [e5] at hK ⊢; go_simp; exact hK _ _ (Below.refl _ _) rfl
  ·intro t wq hbq hh
   have f6 := aS hh 6 (by decide)
   simp only [pick] at f6
   have f7 := aS hh 7 (by decide)
   simp only [pick] at f7
   replace f7 : t 7 = (.bool OA.isSome) := f7
   clear hh
   simp only [filled, bH, upd, Have, is, any, row, pick, Act.put, List.setIfInBounds_toArray, List.set_cons_zero, List.set_cons_succ, Nat.reduceAdd, Nat.reduceEqDiff, reduceIte]
   obtain ⟨A6, n6, c6, f6, Xj⟩ := f6
   simp only [f6, f7]
   have uo := hid (dh.out.below hbq)
   have Yc := hid (bel eY.out hbq)
   have Ua := hid Xj
   clear Xj hbq
   refine au uo.out ((OA).getD U0) A6 n6 c6 (.tmp 2) (.tmp 44) rfl rfl rfl rfl ?_
   go_wp2
   try simp only [Exit.inBlock, Exit.then]
   have ho := aF (fH.aC (w' := World.setRow wq (w.heap.size + 1) (cells ((OA).getD U0) (.slice A6 n6 c6))) (gb := (w.heap.size + 1)) (Ua.out) (fun k hk => setRow_other _ _ _ _ hk) fV.out) (by have h1 := bU.out; have h2 := fV.out; omega : w.heap.size ≤ _)
   refine bodyPost_ret (w := World.setRow wq (w.heap.size + 1) (cells ((OA).getD U0) (.slice A6 n6 c6))) (res2 (u := (OA).getD U0) (p := .slice A6 n6 c6) rfl (uo.out.row _ _) (OA).isSome _ rfl rfl) rfl ?_
   rw [ig.out]
   exact fZ.oC (below_setRow Yc.out bU.out _) ho
 | false =>
  have jI : Hid (O = if a1 = true then some { U0 with aj := s, port := -1, aN := rooted s r } else some { U0 with aj := s, port := -1, opq := true, txt := if sb = true ∧ (hq || hf) = true then TS ++ [37, 50, 48] else E }) := by show _ = _; rw [HO.out, if_neg (by simp)]
  clear HO H2L HAU
  go_wp2_with fail
  refine (HP1.out _).mono ?_
  rintro e wx ⟨rfl, hwx⟩
  obtain rfl : w2 = wx := by first | exact hwx | exact hwx.symm
  clear hwx
  cases a1 with
  | true =>
   have ig : Hid (O = some { U0 with aj := s, port := -1, aN := rooted s r }) := by show _ = _; rw [jI.out, if_pos (by simp)]
   go_wp2_with fail
   clear p0 p1 p2 p3 p4 p5
   refine (Ce.out _).mono ?_
   rintro e w3 ⟨q1, rfl, hown, hbx⟩
   obtain ⟨Aq, cq, rfl, hq1⟩ := bY (u := { U0 with aN := rooted s r }) hown
   clear hq1
   replace hown := aF hown (Nat.le_refl _)
   have sZ : Hid (w1.heap.size < w2.heap.size) := fK.out.lt
   have fV : Hid ((w.heap.size + 1) < w2.heap.size) := dh.out.lt
   have oQ := hid (jY.out.below hbx)
   have bQ := hid (dh.out.below hbx)
   have eG := hid (fK.out.below hbx)
   have dL := hid (bel eY.out hbx)
   have HOqw3 := hid hown
   clear hown
   clear jY dh fK eY
   clear hbx
   have hoq := fH.aC (w' := w3.setCell ⟨w1.heap.size, 8, none⟩ (.slice Aq (rooted s r).length cq)) (gb := w1.heap.size) HOqw3.out (fun k hk => heap_setCell_other _ _ _ _ hk) sZ.out
   have hoq2 := hid hoq
   clear hoq HOqw3
   have cx := eG.out.facts.2.2.2.2.2.2.2.2.1
   have fx := eG.out.thaw.2.2.2.2.2.2.2.2.1
   go_upto_region 11 with (fail)
   have hxp := oQ.out.set (k := w1.heap.size) (i := 8) (.slice Aq (rooted s r).length cq) jw.out
   have hxr := bQ.out.set (k := w1.heap.size) (i := 8) (.slice Aq (rooted s r).length cq) aU.out
   have hxu := eG.out.path (.slice Aq (rooted s r).length cq)
   have hb := dL.out.setCell (p := ⟨w1.heap.size, 8, none⟩) dU.out (.slice Aq (rooted s r).length cq)
   have hoq := hoq2.out
   clear oQ bQ eG dL
   clear cx fx hoq2
   generalize World.setCell w3 _ _ = w4 at hxp hxr hxu hb hoq ⊢
   have oU : Hid (PB w4 (w.heap.size) (⟨s, r, q, f, hq, hf⟩)) := hxp
   clear hxp
   have bP : Hid (UB w4 ((w.heap.size + 1)) (U0) (.slice none 0 0)) := hxr
   clear hxr
   have dA : Hid (UB w4 (w1.heap.size) ({ U0 with aj := s, port := -1 }) (.slice Aq (rooted s r).length cq)) := hxu
   clear hxu
   have dH := hid hb
   have GU := hid hoq
   clear hb hoq
   obtain ⟨c0, c1, c2', c3, c4, c5, c6, c7, c8, c9, c10, c11, c12⟩ := dA.out.facts
   go_wp2_with (refine au bP.out ({ U0 with aj := s, port := -1 }) Aq (rooted s r).length cq (.tmp 2) (.tmp 56) rfl rfl rfl rfl ?_)
   try simp only [Exit.inBlock, Exit.then]
   have hpo : ∀ k, k ≠ (w.heap.size + 1) → (World.setRow w4 ((w.heap.size + 1)) (cells ({ U0 with aj := s, port := -1 }) (.slice Aq (rooted s r).length cq))).heap[k]? = w4.heap[k]? := fun k hk => setRow_other _ _ _ _ hk
   have ho := aF (fH.aC GU.out hpo fV.out) (by have h1 := bU.out; have h2 := fV.out; omega : w.heap.size ≤ _)
   exact bodyPost_ret (w := World.setRow w4 (w.heap.size + 1) (cells ({ U0 with aj := s, port := -1 }) (.slice Aq (rooted s r).length cq))) (res2 (u := { U0 with aj := s, port := -1 }) (p := .slice Aq (rooted s r).length cq) rfl (bP.out.row ({ U0 with aj := s, port := -1 }) _) true _ rfl rfl) rfl (dP (u := { U0 with aj := s, port := -1, aN := rooted s r }) ig.out (below_setRow dH.out bU.out _) ho)
  | false =>
   have ig : Hid (O = some { U0 with aj := s, port := -1, opq := true, txt := if sb = true ∧ (hq || hf) = true then TS ++ [37, 50, 48] else E }) := by show _ = _; rw [jI.out, if_neg (by simp)]
   clear jI
   clear p0 p1 p2 p3 p4 p5
   have cx6 := fK.out.facts.2.2.2.2.2.2.1
   have fx6 := fK.out.thaw.2.2.2.2.2.2.1
   go_upto_region 3 with (fail)
   have hxp := (jY.out.set (k := w1.heap.size) (i := 6) (.bool true) jw.out)
   have hxr := (dh.out.set (k := w1.heap.size) (i := 6) (.bool true) aU.out)
   have hxu := (fK.out.opq true)
   have hb := (eY.out.setCell (p := ⟨w1.heap.size, 6, none⟩) dU.out (.bool true))
   clear jY dh fK eY
   clear cx6 fx6
   generalize (World.setCell w2 ⟨w1.heap.size, 6, none⟩ (.bool true)) = w3 at hxp hxr hxu hb ⊢
   have oQ : Hid (PB w3 (w.heap.size) (⟨s, r, q, f, hq, hf⟩)) := hxp
   clear hxp
   have bQ : Hid (UB w3 ((w.heap.size + 1)) (U0) (.slice none 0 0)) := hxr
   clear hxr
   have eG : Hid (UB w3 (w1.heap.size) ({ U0 with aj := s, port := -1, opq := true }) (.slice none 0 0)) := hxu
   clear hxu
   have dL := hid hb
   clear hb
   obtain ⟨p0, p1, p2, p3, p4, p5⟩ := oQ.out.facts
   have hcv := fun (w : World) s => run_bytes_of_string (P := Tryz.prog) w 9 30 5 s Tryz.underlying9 Tryz.underlying30 Tryz.underlying5
   go_wp2_with fail
   clear hcv
   refine (HEN.out _ _ _ _ (iy (strOf r) _ _ _) (fC (by omega))).mono ?_
   rintro e w4 ⟨rfl, hb0⟩
   have hbx : Below w3.heap.size w3 w4 := bel (((Below.refl w3.heap.size w3).alloc (Nat.le_refl _) _).drew) hb0
   clear hb0
   have oU := hid (oQ.out.below hbx)
   have bP := hid (bQ.out.below hbx)
   have dA := hid (eG.out.below hbx)
   have dH := hid (bel dL.out hbx)
   clear oQ bQ eG dL
   clear hbx
   clear p0 p1 p2 p3 p4 p5
   have cx7 := dA.out.facts.2.2.2.2.2.2.2.1
   have fx7 := dA.out.thaw.2.2.2.2.2.2.2.1
   go_upto_region 4 with (fail)
   have hxp := (oU.out.set (k := w1.heap.size) (i := 7) (.string (strOf E)) jw.out)
   have hxr := (bP.out.set (k := w1.heap.size) (i := 7) (.string (strOf E)) aU.out)
   have hxu := (dA.out.txt E)
   have hb := (dH.out.setCell (p := ⟨w1.heap.size, 7, none⟩) dU.out (.string (strOf E)))
   clear oU bP dA dH
   clear cx7 fx7
   generalize (World.setCell w4 ⟨w1.heap.size, 7, none⟩ (.string (strOf E))) = w5 at hxp hxr hxu hb ⊢
   have oV : Hid (PB w5 (w.heap.size) (⟨s, r, q, f, hq, hf⟩)) := hxp
   clear hxp
   have bM : Hid (UB w5 ((w.heap.size + 1)) (U0) (.slice none 0 0)) := hxr
   clear hxr
   have bG : Hid (UB w5 (w1.heap.size) ({ U0 with aj := s, port := -1, opq := true, txt := E }) (.slice none 0 0)) := hxu
   clear hxu
   have dZ := hid hb
   clear hb
   have cx7 := bG.out.facts.2.2.2.2.2.2.2.1
   go_wp2_with fail
   refine (TR.out _).mono ?_
   rintro e wx ⟨rfl, hwx⟩
   obtain rfl : w5 = wx := by first | exact hwx | exact hwx.symm
   clear hwx
   cases sb with
   | false =>
    go_upto_region 11 with (fail)
    clear cx7
    have kW : Hid (O = some { U0 with aj := s, port := -1, opq := true, txt := E }) := by show _ = _; rw [ig.out]; first | done | rfl | simp
    obtain ⟨c0, c1, c2', c3, c4, c5, c6, c7, c8, c9, c10, c11, c12⟩ := bG.out.facts
    go_wp2_with (refine au bM.out { U0 with aj := s, port := -1, opq := true, txt := E } none 0 0 (.tmp 2) (.tmp 56) rfl rfl rfl rfl ?_)
    try simp only [Exit.inBlock, Exit.then]
    exact bodyPost_ret (w := World.setRow w5 (w.heap.size + 1) (cells { U0 with aj := s, port := -1, opq := true, txt := E } (.slice none 0 0))) (res2 (u := { U0 with aj := s, port := -1, opq := true, txt := E }) (p := .slice none 0 0) rfl (bM.out.row { U0 with aj := s, port := -1, opq := true, txt := E } _) true _ rfl rfl) rfl (dP (u := { U0 with aj := s, port := -1, opq := true, txt := E }) kW.out (below_setRow dZ.out bU.out _) (wG _ _ rfl))
   | true =>
    cases hq with
    | true =>
     obtain ⟨p0, p1, p2, p3, p4, p5⟩ := oV.out.facts
     have had := HAD.out
     clear cx7
     have cx7 := bG.out.facts.2.2.2.2.2.2.2.1
     have fx7 := bG.out.thaw.2.2.2.2.2.2.2.1
     go_upto_region 11 with (fail)
     have hxp := (oV.out.set (k := w1.heap.size) (i := 7) (.string (strOf (TS ++ [37, 50, 48]))) jw.out)
     have hxr := (bM.out.set (k := w1.heap.size) (i := 7) (.string (strOf (TS ++ [37, 50, 48]))) aU.out)
     have hxu := (bG.out.txt (TS ++ [37, 50, 48]))
     have hb := (dZ.out.setCell (p := ⟨w1.heap.size, 7, none⟩) dU.out (.string (strOf (TS ++ [37, 50, 48]))))
     clear oV bM bG dZ
     clear cx7 fx7
     generalize (World.setCell w5 ⟨w1.heap.size, 7, none⟩ (.string (strOf (TS ++ [37, 50, 48])))) = w6 at hxp hxr hxu hb ⊢
     have Cj : Hid (PB w6 (w.heap.size) (⟨s, r, q, f, true, hf⟩)) := hxp
     clear hxp
     have bT : Hid (UB w6 ((w.heap.size + 1)) (U0) (.slice none 0 0)) := hxr
     clear hxr
     have bD : Hid (UB w6 (w1.heap.size) ({ U0 with aj := s, port := -1, opq := true, txt := TS ++ [37, 50, 48] }) (.slice none 0 0)) := hxu
     clear hxu
     have fA := hid hb
     clear hb
     clear p0 p1 p2 p3 p4 p5
     clear had
     have kW : Hid (O = some { U0 with aj := s, port := -1, opq := true, txt := TS ++ [37, 50, 48] }) := by show _ = _; rw [ig.out]; first | done | rfl | simp
     obtain ⟨c0, c1, c2', c3, c4, c5, c6, c7, c8, c9, c10, c11, c12⟩ := bD.out.facts
     go_wp2_with (refine au bT.out { U0 with aj := s, port := -1, opq := true, txt := TS ++ [37, 50, 48] } none 0 0 (.tmp 2) (.tmp 56) rfl rfl rfl rfl ?_)
     try simp only [Exit.inBlock, Exit.then]
     exact bodyPost_ret (w := World.setRow w6 (w.heap.size + 1) (cells { U0 with aj := s, port := -1, opq := true, txt := TS ++ [37, 50, 48] } (.slice none 0 0))) (res2 (u := { U0 with aj := s, port := -1, opq := true, txt := TS ++ [37, 50, 48] }) (p := .slice none 0 0) rfl (bT.out.row { U0 with aj := s, port := -1, opq := true, txt := TS ++ [37, 50, 48] } _) true _ rfl rfl) rfl (dP (u := { U0 with aj := s, port := -1, opq := true, txt := TS ++ [37, 50, 48] }) kW.out (below_setRow fA.out bU.out _) (wG _ _ rfl))
    | false =>
     cases hf with
     | true =>
      obtain ⟨p0, p1, p2, p3, p4, p5⟩ := oV.out.facts
      have had := HAD.out
      clear cx7
      have cx7 := bG.out.facts.2.2.2.2.2.2.2.1
      have fx7 := bG.out.thaw.2.2.2.2.2.2.2.1
      go_upto_region 11 with (fail)
      have hxp := (oV.out.set (k := w1.heap.size) (i := 7) (.string (strOf (TS ++ [37, 50, 48]))) jw.out)
      have hxr := (bM.out.set (k := w1.heap.size) (i := 7) (.string (strOf (TS ++ [37, 50, 48]))) aU.out)
      have hxu := (bG.out.txt (TS ++ [37, 50, 48]))
      have hb := (dZ.out.setCell (p := ⟨w1.heap.size, 7, none⟩) dU.out (.string (strOf (TS ++ [37, 50, 48]))))
      clear oV bM bG dZ
      clear cx7 fx7
      generalize (World.setCell w5 ⟨w1.heap.size, 7, none⟩ (.string (strOf (TS ++ [37, 50, 48])))) = w6 at hxp hxr hxu hb ⊢
      have Cj : Hid (PB w6 (w.heap.size) (⟨s, r, q, f, false, true⟩)) := hxp
      clear hxp
      have bT : Hid (UB w6 ((w.heap.size + 1)) (U0) (.slice none 0 0)) := hxr
      clear hxr
      have bD : Hid (UB w6 (w1.heap.size) ({ U0 with aj := s, port := -1, opq := true, txt := TS ++ [37, 50, 48] }) (.slice none 0 0)) := hxu
      clear hxu
      have fA := hid hb
      clear hb
      clear p0 p1 p2 p3 p4 p5
      clear had
      have kW : Hid (O = some { U0 with aj := s, port := -1, opq := true, txt := TS ++ [37, 50, 48] }) := by show _ = _; rw [ig.out]; first | done | rfl | simp
      obtain ⟨c0, c1, c2', c3, c4, c5, c6, c7, c8, c9, c10, c11, c12⟩ := bD.out.facts
      go_wp2_with (refine au bT.out { U0 with aj := s, port := -1, opq := true, txt := TS ++ [37, 50, 48] } none 0 0 (.tmp 2) (.tmp 56) rfl rfl rfl rfl ?_)
      try simp only [Exit.inBlock, Exit.then]
      exact bodyPost_ret (w := World.setRow w6 (w.heap.size + 1) (cells { U0 with aj := s, port := -1, opq := true, txt := TS ++ [37, 50, 48] } (.slice none 0 0))) (res2 (u := { U0 with aj := s, port := -1, opq := true, txt := TS ++ [37, 50, 48] }) (p := .slice none 0 0) rfl (bT.out.row { U0 with aj := s, port := -1, opq := true, txt := TS ++ [37, 50, 48] } _) true _ rfl rfl) rfl (dP (u := { U0 with aj := s, port := -1, opq := true, txt := TS ++ [37, 50, 48] }) kW.out (below_setRow fA.out bU.out _) (wG _ _ rfl))
     | false =>
      obtain ⟨p0, p1, p2, p3, p4, p5⟩ := oV.out.facts
      go_upto_region 11 with (fail)
      clear cx7
      clear p0 p1 p2 p3 p4 p5
      have kW : Hid (O = some { U0 with aj := s, port := -1, opq := true, txt := E }) := by show _ = _; rw [ig.out]; first | done | rfl | simp
      obtain ⟨c0, c1, c2', c3, c4, c5, c6, c7, c8, c9, c10, c11, c12⟩ := bG.out.facts
      go_wp2_with (refine au bM.out { U0 with aj := s, port := -1, opq := true, txt := E } none 0 0 (.tmp 2) (.tmp 56) rfl rfl rfl rfl ?_)
      try simp only [Exit.inBlock, Exit.then]
      exact bodyPost_ret (w := World.setRow w5 (w.heap.size + 1) (cells { U0 with aj := s, port := -1, opq := true, txt := E } (.slice none 0 0))) (res2 (u := { U0 with aj := s, port := -1, opq := true, txt := E }) (p := .slice none 0 0) rfl (bM.out.row { U0 with aj := s, port := -1, opq := true, txt := E } _) true _ rfl rfl) rfl (dP (u := { U0 with aj := s, port := -1, opq := true, txt := E }) kW.out (below_setRow dZ.out bU.out _) (wG _ _ rfl))
end Go.Proofs.YtcfgioklgmlclaaGreatDoor.PrsI
