/- Texts that belong together: PrsH, PrsK, PrsI, PrsJ. -/
import Derived.Test.YtmdofbccebkbiaaGreatDoorMI
import Derived.Test.YtmdofbccebkbiaaGreatDoorMG
import Derived.Test.YtmdofbccebkbiaaGreatDoorMA
set_option linter.unusedSimpArgs false
set_option linter.unusedVariables false
namespace Go.Proofs.YtmdofbccebkbiaaGreatDoor.PrsH
open Go.RowKit Base Regs Base2 UtfA UtfL PthG PthH PthJ UrlA PrsP PrsA PrsQ PrsB Ubx Pbx PrsC PrsD SixG Spl
set_option maxRecDepth 100000 in
set_option maxHeartbeats 16000000 in
theorem apart_any (T : List UInt8) (w : World) (hs : T.length ≤ 1000000) (hM : Max w) : Calls Tryz.prog 40 #[.string (strOf T)] w fun e w' => e = .returned (.agg (pcells (PrsP.apart T))) ∧ Below w.heap.size w w' := by
 obtain ⟨O, hO⟩ : ∃ O, O = PrsP.apart T := ⟨_, rfl⟩
 rw [← hO]
 obtain ⟨F1, F2, fb, hHF⟩ : ∃ a b c, cutB 35 T = (a, b, c) := ⟨_, _, _, rfl⟩
 obtain ⟨Q1, Q2, qb, hHQ⟩ : ∃ a b c, cutB 63 F1 = (a, b, c) := ⟨_, _, _, rfl⟩
 obtain ⟨C1, C2, cb, hHC⟩ : ∃ a b c, cutB 58 Q1 = (a, b, c) := ⟨_, _, _, rfl⟩
 have hl1 := cutB_len 35 T
 have hl2 := cutB_len 63 F1
 have hl3 := cutB_len 58 Q1
 rw [hHF] at hl1
 rw [hHQ] at hl2
 rw [hHC] at hl3
 simp only at hl1 hl2 hl3
 unfold PrsP.apart at hO
 rw [hHF] at hO
 simp only at hO
 rw [hHQ] at hO
 simp only at hO
 rw [hHC] at hO
 simp only at hO
 have HF : ∀ w : World, Max w → Calls Tryz.prog 80 #[.string (strOf T), .string ⟨#[35]⟩] w fun e w' => e = .returned (.tuple #[.string (strOf F1), .string (strOf F2), .bool fb]) ∧ Below w.heap.size w w' := fun w ⟨m, hm⟩ => (Tryz.strings_Cut (strOf T) ⟨#[35]⟩ m w (by rw [size_strOf]; omega) hm).mono fun e w' ⟨h1, q, h2⟩ => ⟨by rw [h1, show (strOf T).data.toList = T from rfl, show (⟨#[35]⟩ : ByteArray).data.toList = [35] from rfl, cut_cutB, hHF]; rfl, by rw [h2]; exact Base.below_drewN (Below.refl _ _) _⟩
 have HQ : ∀ w : World, Max w → Calls Tryz.prog 80 #[.string (strOf F1), .string ⟨#[63]⟩] w fun e w' => e = .returned (.tuple #[.string (strOf Q1), .string (strOf Q2), .bool qb]) ∧ Below w.heap.size w w' := fun w ⟨m, hm⟩ => (Tryz.strings_Cut (strOf F1) ⟨#[63]⟩ m w (by rw [size_strOf]; omega) hm).mono fun e w' ⟨h1, q, h2⟩ => ⟨by rw [h1, show (strOf F1).data.toList = F1 from rfl, show (⟨#[63]⟩ : ByteArray).data.toList = [63] from rfl, cut_cutB, hHQ]; rfl, by rw [h2]; exact Base.below_drewN (Below.refl _ _) _⟩
 have HC : ∀ w : World, Max w → Calls Tryz.prog 80 #[.string (strOf Q1), .string ⟨#[58]⟩] w fun e w' => e = .returned (.tuple #[.string (strOf C1), .string (strOf C2), .bool cb]) ∧ Below w.heap.size w w' := fun w ⟨m, hm⟩ => (Tryz.strings_Cut (strOf Q1) ⟨#[58]⟩ m w (by rw [size_strOf]; omega) hm).mono fun e w' ⟨h1, q, h2⟩ => ⟨by rw [h1, show (strOf Q1).data.toList = Q1 from rfl, show (⟨#[58]⟩ : ByteArray).data.toList = [58] from rfl, cut_cutB, hHC]; rfl, by rw [h2]; exact Base.below_drewN (Below.refl _ _) _⟩
 have HF9 := hid HF
 have HQ9 := hid HQ
 have HC9 := hid HC
 have HIS : Hid (∀ w : World, Calls Tryz.prog 81 #[.string (strOf C1)] w fun e w' => e = .returned (.bool (isSch C1)) ∧ w' = w) := fun w => isScheme_any (strOf C1) w (size_of (by omega))
 have HLO : Hid (∀ w : World, Calls Tryz.prog 82 #[.string (strOf C1)] w fun e w' => e = .returned (.string (strOf (lower C1))) ∧ Below w.heap.size w w') := fun w => lower_any (strOf C1) w (by rw [size_strOf]; unfold maxLen; omega)
 have HO := hid hO
 have HM := hid hM
 clear HF HQ HC hHF hHQ hHC hO hM hl1 hl2 hl3
 go_enter Tryz.func40, Tryz.ntmps40
 go_upto_region 1 with (fail)
 generalize hw : World.alloc w _ = w1
 have h1 : PB w1 (w.heap.size) (P0) ∧ Below w.heap.size w w1 := by
  subst hw
  exact laid1 w _ _
 clear hw
 have LE_r : Hid (w.heap.size ≤ w.heap.size) := (Below.refl w.heap.size w).size
 have HBw1 := hid (bel (Below.refl w.heap.size w) h1.2)
 have HXrw1 := hid h1.1
 clear h1
 go_upto_region 2 with (fail)
 generalize hw : World.alloc w1 _ = w2
 have h1 : PB w2 (w1.heap.size) (P0) ∧ Below w1.heap.size w1 w2 := by
  subst hw
  exact laid1 w1 _ _
 clear hw
 have hlr := HXrw1.out.lt
 have NE_r_u : Hid (w.heap.size ≠ w1.heap.size) := by show _ ≠ _; omega
 have NE_u_r : Hid (w1.heap.size ≠ w.heap.size) := by show _ ≠ _; omega
 clear hlr
 have LE_u : Hid (w.heap.size ≤ w1.heap.size) := HBw1.out.size
 have HXrw2 := hid (HXrw1.out.below h1.2)
 have HBw2 := hid (bel HBw1.out h1.2)
 have HXuw2 := hid h1.1
 clear HXrw1 HBw1
 clear h1
 go_wp2_with fail
 refine (HF9.out _ (HM.out.below HBw2.out)).mono ?_
 rintro e w3 ⟨rfl, hbx⟩
 have HXrw3 := hid (HXrw2.out.below hbx)
 have HXuw3 := hid (HXuw2.out.below hbx)
 have HBw3 := hid (bel HBw2.out hbx)
 clear HXrw2 HXuw2 HBw2
 clear hbx
 have cx3 := HXuw3.out.facts.2.2.2.1
 have fx3 := HXuw3.out.thaw.2.2.2.1
 have cx5 := HXuw3.out.facts.2.2.2.2.2
 have fx5 := HXuw3.out.thaw.2.2.2.2.2
 go_upto_region 3 with (fail)
 have hxr := ((HXrw3.out.set (k := w1.heap.size) (i := 3) (.string (strOf F2)) NE_r_u.out).set (k := w1.heap.size) (i := 5) (.bool fb) NE_r_u.out)
 have hxu := ((HXuw3.out.frg F2).hf fb)
 have hb := ((HBw3.out.setCell (p := ⟨w1.heap.size, 3, none⟩) LE_u.out (.string (strOf F2))).setCell (p := ⟨w1.heap.size, 5, none⟩) LE_u.out (.bool fb))
 clear HXrw3 HXuw3 HBw3
 clear cx3 fx3 cx5 fx5
 generalize (World.setCell (World.setCell w3 ⟨w1.heap.size, 3, none⟩ (.string (strOf F2))) ⟨w1.heap.size, 5, none⟩ (.bool fb)) = w4 at hxr hxu hb ⊢
 have HXrw4 : Hid (PB w4 (w.heap.size) (P0)) := hxr
 clear hxr
 have HXuw4 : Hid (PB w4 (w1.heap.size) ({ P0 with frg := F2, hf := fb })) := hxu
 clear hxu
 have HBw4 := hid hb
 clear hb
 go_wp2_with fail
 refine (HQ9.out _ (HM.out.below HBw4.out)).mono ?_
 rintro e w5 ⟨rfl, hbx⟩
 have HXrw5 := hid (HXrw4.out.below hbx)
 have HXuw5 := hid (HXuw4.out.below hbx)
 have HBw5 := hid (bel HBw4.out hbx)
 clear HXrw4 HXuw4 HBw4
 clear hbx
 have cx2 := HXuw5.out.facts.2.2.1
 have fx2 := HXuw5.out.thaw.2.2.1
 have cx4 := HXuw5.out.facts.2.2.2.2.1
 have fx4 := HXuw5.out.thaw.2.2.2.2.1
 go_upto_region 4 with (fail)
 have hxr := ((HXrw5.out.set (k := w1.heap.size) (i := 2) (.string (strOf Q2)) NE_r_u.out).set (k := w1.heap.size) (i := 4) (.bool qb) NE_r_u.out)
 have hxu := ((HXuw5.out.qry Q2).hq qb)
 have hb := ((HBw5.out.setCell (p := ⟨w1.heap.size, 2, none⟩) LE_u.out (.string (strOf Q2))).setCell (p := ⟨w1.heap.size, 4, none⟩) LE_u.out (.bool qb))
 clear HXrw5 HXuw5 HBw5
 clear cx2 fx2 cx4 fx4
 generalize (World.setCell (World.setCell w5 ⟨w1.heap.size, 2, none⟩ (.string (strOf Q2))) ⟨w1.heap.size, 4, none⟩ (.bool qb)) = w6 at hxr hxu hb ⊢
 have HXrw6 : Hid (PB w6 (w.heap.size) (P0)) := hxr
 clear hxr
 have HXuw6 : Hid (PB w6 (w1.heap.size) ({ P0 with frg := F2, hf := fb, qry := Q2, hq := qb })) := hxu
 clear hxu
 have HBw6 := hid hb
 clear hb
 have cx1 := HXuw6.out.facts.2.1
 have fx1 := HXuw6.out.thaw.2.1
 go_upto_region 5 with (fail)
 have hxr := (HXrw6.out.set (k := w1.heap.size) (i := 1) (.string (strOf Q1)) NE_r_u.out)
 have hxu := (HXuw6.out.rest Q1)
 have hb := (HBw6.out.setCell (p := ⟨w1.heap.size, 1, none⟩) LE_u.out (.string (strOf Q1)))
 clear HXrw6 HXuw6 HBw6
 clear cx1 fx1
 generalize (World.setCell w6 ⟨w1.heap.size, 1, none⟩ (.string (strOf Q1))) = w7 at hxr hxu hb ⊢
 have HXrw7 : Hid (PB w7 (w.heap.size) (P0)) := hxr
 clear hxr
 have HXuw7 : Hid (PB w7 (w1.heap.size) ({ P0 with frg := F2, hf := fb, qry := Q2, hq := qb, rest := Q1 })) := hxu
 clear hxu
 have HBw7 := hid hb
 clear hb
 go_wp2_with fail
 refine (HC9.out _ (HM.out.below HBw7.out)).mono ?_
 rintro e w8 ⟨rfl, hbx⟩
 have HXrw8 := hid (HXrw7.out.below hbx)
 have HXuw8 := hid (HXuw7.out.below hbx)
 have HBw8 := hid (bel HBw7.out hbx)
 clear HXrw7 HXuw7 HBw7
 clear hbx
 cases cb with
 | false =>
  have HO3 : Hid (O = ⟨[], Q1, Q2, F2, qb, fb⟩) := by show _ = _; rw [HO.out]; first | done | rfl | simp
  clear HO
  obtain ⟨p0, p1, p2, p3, p4, p5⟩ := HXuw8.out.facts
  go_wp2_with (refine store_parts HXrw8.out ({ P0 with frg := F2, hf := fb, qry := Q2, hq := qb, rest := Q1 }) (.tmp 2) (.tmp 41) rfl rfl rfl rfl ?_)
  try simp only [Exit.inBlock, Exit.then]
  exact bodyPost_ret (w := World.setRow w8 (w.heap.size) (pcells ({ P0 with frg := F2, hf := fb, qry := Q2, hq := qb, rest := Q1 }))) (resP (p := { P0 with frg := F2, hf := fb, qry := Q2, hq := qb, rest := Q1 }) rfl (HXrw8.out.row ({ P0 with frg := F2, hf := fb, qry := Q2, hq := qb, rest := Q1 })) _ rfl) rfl ⟨by rw [HO3.out]; first | done | rfl, below_setRow HBw8.out LE_r.out _⟩
 | true =>
  cases hi : isSch C1 with
  | false =>
   have HO3 : Hid (O = ⟨[], Q1, Q2, F2, qb, fb⟩) := by show _ = _; rw [HO.out, hi]; first | done | rfl | simp
   rw [hi] at HIS
   clear HO hi
   go_wp2_with fail
   refine (HIS.out _).mono ?_
   rintro e wx ⟨rfl, hwx⟩
   obtain rfl : w8 = wx := by first | exact hwx | exact hwx.symm
   clear hwx
   obtain ⟨p0, p1, p2, p3, p4, p5⟩ := HXuw8.out.facts
   go_wp2_with (refine store_parts HXrw8.out ({ P0 with frg := F2, hf := fb, qry := Q2, hq := qb, rest := Q1 }) (.tmp 2) (.tmp 41) rfl rfl rfl rfl ?_)
   try simp only [Exit.inBlock, Exit.then]
   exact bodyPost_ret (w := World.setRow w8 (w.heap.size) (pcells ({ P0 with frg := F2, hf := fb, qry := Q2, hq := qb, rest := Q1 }))) (resP (p := { P0 with frg := F2, hf := fb, qry := Q2, hq := qb, rest := Q1 }) rfl (HXrw8.out.row ({ P0 with frg := F2, hf := fb, qry := Q2, hq := qb, rest := Q1 })) _ rfl) rfl ⟨by rw [HO3.out]; first | done | rfl, below_setRow HBw8.out LE_r.out _⟩
  | true =>
   have HO3 : Hid (O = ⟨lower C1, C2, Q2, F2, qb, fb⟩) := by show _ = _; rw [HO.out, hi]; first | done | rfl | simp
   rw [hi] at HIS
   clear HO hi
   go_wp2_with fail
   refine (HIS.out _).mono ?_
   rintro e wx ⟨rfl, hwx⟩
   obtain rfl : w8 = wx := by first | exact hwx | exact hwx.symm
   clear hwx
   go_wp2_with fail
   refine (HLO.out _).mono ?_
   rintro e w9 ⟨rfl, hbx⟩
   have HXrw9 := hid (HXrw8.out.below hbx)
   have HXuw9 := hid (HXuw8.out.below hbx)
   have HBw9 := hid (bel HBw8.out hbx)
   clear HXrw8 HXuw8 HBw8
   clear hbx
   have cx0 := HXuw9.out.facts.1
   have fx0 := HXuw9.out.thaw.1
   have cx1 := HXuw9.out.facts.2.1
   have fx1 := HXuw9.out.thaw.2.1
   go_upto_region 8 with (fail)
   have hxr := ((HXrw9.out.set (k := w1.heap.size) (i := 0) (.string (strOf (lower C1))) NE_r_u.out).set (k := w1.heap.size) (i := 1) (.string (strOf C2)) NE_r_u.out)
   have hxu := ((HXuw9.out.sch (lower C1)).rest C2)
   have hb := ((HBw9.out.setCell (p := ⟨w1.heap.size, 0, none⟩) LE_u.out (.string (strOf (lower C1)))).setCell (p := ⟨w1.heap.size, 1, none⟩) LE_u.out (.string (strOf C2)))
   clear HXrw9 HXuw9 HBw9
   clear cx0 fx0 cx1 fx1
   generalize (World.setCell (World.setCell w9 ⟨w1.heap.size, 0, none⟩ (.string (strOf (lower C1)))) ⟨w1.heap.size, 1, none⟩ (.string (strOf C2))) = w10 at hxr hxu hb ⊢
   have HXrw10 : Hid (PB w10 (w.heap.size) (P0)) := hxr
   clear hxr
   have HXuw10 : Hid (PB w10 (w1.heap.size) ({ P0 with frg := F2, hf := fb, qry := Q2, hq := qb, rest := C2, sch := lower C1 })) := hxu
   clear hxu
   have HBw10 := hid hb
   clear hb
   obtain ⟨p0, p1, p2, p3, p4, p5⟩ := HXuw10.out.facts
   go_wp2_with (refine store_parts HXrw10.out ({ P0 with frg := F2, hf := fb, qry := Q2, hq := qb, rest := C2, sch := lower C1 }) (.tmp 2) (.tmp 41) rfl rfl rfl rfl ?_)
   try simp only [Exit.inBlock, Exit.then]
   exact bodyPost_ret (w := World.setRow w10 (w.heap.size) (pcells ({ P0 with frg := F2, hf := fb, qry := Q2, hq := qb, rest := C2, sch := lower C1 }))) (resP (p := { P0 with frg := F2, hf := fb, qry := Q2, hq := qb, rest := C2, sch := lower C1 }) rfl (HXrw10.out.row ({ P0 with frg := F2, hf := fb, qry := Q2, hq := qb, rest := C2, sch := lower C1 })) _ rfl) rfl ⟨by rw [HO3.out]; first | done | rfl, below_setRow HBw10.out LE_r.out _⟩
set_option maxRecDepth 100000 in
set_option maxHeartbeats 16000000 in
theorem finish_any (u : U) (p : Parts) (A : Option Addr) (n c : Nat) (w : World) (h1 : p.qry.length ≤ 1000000) (h2 : p.frg.length ≤ 1000000) : Calls Tryz.prog 42 #[.agg (cells u (.slice A n c)), .agg (pcells p)] w fun e w' => e = .returned (.agg (cells (PrsP.finish u p) (.slice A n c))) ∧ Below w.heap.size w w' := by
 obtain ⟨O, hO⟩ : ∃ O, O = PrsP.finish u p := ⟨_, rfl⟩
 rw [← hO]
 have HSP : Hid (∀ w : World, Calls Tryz.prog 84 #[.string (strOf u.sch)] w fun e w' => e = .returned (.bool (special u.sch)) ∧ w' = w) := fun w => special_any (strOf u.sch) w
 obtain ⟨pv, hpv⟩ : ∃ q, q = Value.slice A n c := ⟨_, rfl⟩
 obtain ⟨s, r, q, f, hq, hf⟩ := p
 have HO := hid hO
 clear hO
 simp only at h1 h2
 go_enter Tryz.func42, Tryz.ntmps42
 go_upto_region 1 with (fail)
 generalize hw : World.alloc (World.alloc (World.alloc w _) _) _ = w1
 have h1 : UB w1 (w.heap.size) (u) (.slice A n c) ∧ PB w1 ((w.heap.size + 1)) (⟨s, r, q, f, hq, hf⟩) ∧ UB w1 ((w.heap.size + 1 + 1)) (U0) (.slice none 0 0) ∧ Below w.heap.size w w1 := by
  subst hw
  exact laid3 w _ _ _ _ _ _
 clear hw
 have NE_u_p : Hid (w.heap.size ≠ (w.heap.size + 1)) := by show _ ≠ _; omega
 have NE_u_r : Hid (w.heap.size ≠ (w.heap.size + 1 + 1)) := by show _ ≠ _; omega
 have LE_u : Hid (w.heap.size ≤ w.heap.size) := by show _ ≤ _; omega
 have NE_p_u : Hid ((w.heap.size + 1) ≠ w.heap.size) := by show _ ≠ _; omega
 have NE_p_r : Hid ((w.heap.size + 1) ≠ (w.heap.size + 1 + 1)) := by show _ ≠ _; omega
 have LE_p : Hid (w.heap.size ≤ (w.heap.size + 1)) := by show _ ≤ _; omega
 have NE_r_u : Hid ((w.heap.size + 1 + 1) ≠ w.heap.size) := by show _ ≠ _; omega
 have NE_r_p : Hid ((w.heap.size + 1 + 1) ≠ (w.heap.size + 1)) := by show _ ≠ _; omega
 have LE_r : Hid (w.heap.size ≤ (w.heap.size + 1 + 1)) := by show _ ≤ _; omega
 have HXuw1 := hid h1.1
 have HXpw1 := hid h1.2.1
 have HXrw1 := hid h1.2.2.1
 have HBw1 := hid h1.2.2.2
 clear h1
 cases hq with
 | false =>
  have HO2 : Hid (O = if hf = true then { u with hf := true, frg := EscE.enc 1 f } else u) := by show _ = _; rw [HO.out]; unfold PrsP.finish; first | done | rfl | simp
  obtain ⟨p0, p1, p2, p3, p4, p5⟩ := HXpw1.out.facts
  go_upto_region 6 with (fail)
  clear p0 p1 p2 p3 p4 p5
  cases hf with
  | false =>
   have HO3 : Hid (O = u) := by show _ = _; rw [HO2.out]; first | done | rfl | simp
   obtain ⟨p0, p1, p2, p3, p4, p5⟩ := HXpw1.out.facts
   obtain ⟨c0, c1, c2', c3, c4, c5, c6, c7, c8, c9, c10, c11, c12⟩ := HXuw1.out.facts
   go_wp2_with (refine store_box HXrw1.out (u) A n c (.tmp 4) (.tmp 26) rfl rfl rfl rfl ?_)
   try simp only [Exit.inBlock, Exit.then]
   exact bodyPost_ret (w := World.setRow w1 (w.heap.size + 1 + 1) (cells (u) (.slice A n c))) (res1 (u := u) (p := .slice A n c) rfl (HXrw1.out.row (u) _) _ rfl) rfl ⟨by rw [HO3.out]; first | done | rfl, below_setRow HBw1.out LE_r.out _⟩
  | true =>
   have HO3 : Hid (O = { u with hf := true, frg := EscE.enc 1 f }) := by show _ = _; rw [HO2.out]; first | done | rfl | simp
   obtain ⟨p0, p1, p2, p3, p4, p5⟩ := HXpw1.out.facts
   have hcv := fun (w : World) s => run_bytes_of_string (P := Tryz.prog) w 9 61 5 s Tryz.underlying9 Tryz.underlying61 Tryz.underlying5
   go_wp2_with fail
   clear hcv
   refine (EscE.encode_any 1 _ _ _ f _ (rds_made (strOf f) _ _ _) (size_of (by omega))).mono ?_
   rintro e w2 ⟨rfl, hb0⟩
   have hbx : Below w1.heap.size w1 w2 := bel (((Below.refl w1.heap.size w1).alloc (Nat.le_refl _) _).drew) hb0
   clear hb0
   have HXuw2 := hid (HXuw1.out.below hbx)
   have HXpw2 := hid (HXpw1.out.below hbx)
   have HXrw2 := hid (HXrw1.out.below hbx)
   have HBw2 := hid (bel HBw1.out hbx)
   clear HXuw1 HXpw1 HXrw1 HBw1
   clear hbx
   clear p0 p1 p2 p3 p4 p5
   have cx10 := HXuw2.out.facts.2.2.2.2.2.2.2.2.2.2.1
   have fx10 := HXuw2.out.thaw.2.2.2.2.2.2.2.2.2.2.1
   have cx12 := HXuw2.out.facts.2.2.2.2.2.2.2.2.2.2.2.2
   have fx12 := HXuw2.out.thaw.2.2.2.2.2.2.2.2.2.2.2.2
   go_upto_region 8 with (fail)
   have hxu := ((HXuw2.out.hf true).frg (EscE.enc 1 f))
   have hxp := ((HXpw2.out.set (k := w.heap.size) (i := 10) (.bool true) NE_p_u.out).set (k := w.heap.size) (i := 12) (.string (strOf (EscE.enc 1 f))) NE_p_u.out)
   have hxr := ((HXrw2.out.set (k := w.heap.size) (i := 10) (.bool true) NE_r_u.out).set (k := w.heap.size) (i := 12) (.string (strOf (EscE.enc 1 f))) NE_r_u.out)
   have hb := ((HBw2.out.setCell (p := ⟨w.heap.size, 10, none⟩) LE_u.out (.bool true)).setCell (p := ⟨w.heap.size, 12, none⟩) LE_u.out (.string (strOf (EscE.enc 1 f))))
   clear HXuw2 HXpw2 HXrw2 HBw2
   clear cx10 fx10 cx12 fx12
   generalize (World.setCell (World.setCell w2 ⟨w.heap.size, 10, none⟩ (.bool true)) ⟨w.heap.size, 12, none⟩ (.string (strOf (EscE.enc 1 f)))) = w3 at hxu hxp hxr hb ⊢
   have HXuw3 : Hid (UB w3 (w.heap.size) ({ u with hf := true, frg := EscE.enc 1 f }) (.slice A n c)) := hxu
   clear hxu
   have HXpw3 : Hid (PB w3 ((w.heap.size + 1)) (⟨s, r, q, f, false, true⟩)) := hxp
   clear hxp
   have HXrw3 : Hid (UB w3 ((w.heap.size + 1 + 1)) (U0) (.slice none 0 0)) := hxr
   clear hxr
   have HBw3 := hid hb
   clear hb
   obtain ⟨c0, c1, c2', c3, c4, c5, c6, c7, c8, c9, c10, c11, c12⟩ := HXuw3.out.facts
   go_wp2_with (refine store_box HXrw3.out ({ u with hf := true, frg := EscE.enc 1 f }) A n c (.tmp 4) (.tmp 26) rfl rfl rfl rfl ?_)
   try simp only [Exit.inBlock, Exit.then]
   exact bodyPost_ret (w := World.setRow w3 (w.heap.size + 1 + 1) (cells ({ u with hf := true, frg := EscE.enc 1 f }) (.slice A n c))) (res1 (u := { u with hf := true, frg := EscE.enc 1 f }) (p := .slice A n c) rfl (HXrw3.out.row ({ u with hf := true, frg := EscE.enc 1 f }) _) _ rfl) rfl ⟨by rw [HO3.out]; first | done | rfl, below_setRow HBw3.out LE_r.out _⟩
 | true =>
  cases hs : special u.sch with
  | false =>
   have HO2 : Hid (O = if hf = true then { { u with hq := true, qry := EscE.enc 2 q } with hf := true, frg := EscE.enc 1 f } else { u with hq := true, qry := EscE.enc 2 q }) := by show _ = _; rw [HO.out]; unfold PrsP.finish; simp only [hs]; first | done | rfl | simp
   rw [hs] at HSP
   clear hs
   obtain ⟨p0, p1, p2, p3, p4, p5⟩ := HXpw1.out.facts
   have cs0 := HXuw1.out.facts.1
   go_wp2_with fail
   refine (HSP.out _).mono ?_
   rintro e wx ⟨rfl, hwx⟩
   obtain rfl : w1 = wx := by first | exact hwx | exact hwx.symm
   clear hwx
   have hcv := fun (w : World) s => run_bytes_of_string (P := Tryz.prog) w 9 61 5 s Tryz.underlying9 Tryz.underlying61 Tryz.underlying5
   go_wp2_with fail
   clear hcv
   refine (EscE.encode_any 2 _ _ _ q _ (rds_made (strOf q) _ _ _) (size_of (by omega))).mono ?_
   rintro e w2 ⟨rfl, hb0⟩
   have hbx : Below w1.heap.size w1 w2 := bel (((Below.refl w1.heap.size w1).alloc (Nat.le_refl _) _).drew) hb0
   clear hb0
   have HXuw2 := hid (HXuw1.out.below hbx)
   have HXpw2 := hid (HXpw1.out.below hbx)
   have HXrw2 := hid (HXrw1.out.below hbx)
   have HBw2 := hid (bel HBw1.out hbx)
   clear HXuw1 HXpw1 HXrw1 HBw1
   clear hbx
   clear p0 p1 p2 p3 p4 p5
   clear cs0
   have cx9 := HXuw2.out.facts.2.2.2.2.2.2.2.2.2.1
   have fx9 := HXuw2.out.thaw.2.2.2.2.2.2.2.2.2.1
   have cx11 := HXuw2.out.facts.2.2.2.2.2.2.2.2.2.2.2.1
   have fx11 := HXuw2.out.thaw.2.2.2.2.2.2.2.2.2.2.2.1
   go_upto_region 6 with (fail)
   have hxu := ((HXuw2.out.hq true).qry (EscE.enc 2 q))
   have hxp := ((HXpw2.out.set (k := w.heap.size) (i := 9) (.bool true) NE_p_u.out).set (k := w.heap.size) (i := 11) (.string (strOf (EscE.enc 2 q))) NE_p_u.out)
   have hxr := ((HXrw2.out.set (k := w.heap.size) (i := 9) (.bool true) NE_r_u.out).set (k := w.heap.size) (i := 11) (.string (strOf (EscE.enc 2 q))) NE_r_u.out)
   have hb := ((HBw2.out.setCell (p := ⟨w.heap.size, 9, none⟩) LE_u.out (.bool true)).setCell (p := ⟨w.heap.size, 11, none⟩) LE_u.out (.string (strOf (EscE.enc 2 q))))
   clear HXuw2 HXpw2 HXrw2 HBw2
   clear cx9 fx9 cx11 fx11
   generalize (World.setCell (World.setCell w2 ⟨w.heap.size, 9, none⟩ (.bool true)) ⟨w.heap.size, 11, none⟩ (.string (strOf (EscE.enc 2 q)))) = w3 at hxu hxp hxr hb ⊢
   have HXuw3 : Hid (UB w3 (w.heap.size) ({ u with hq := true, qry := EscE.enc 2 q }) (.slice A n c)) := hxu
   clear hxu
   have HXpw3 : Hid (PB w3 ((w.heap.size + 1)) (⟨s, r, q, f, true, hf⟩)) := hxp
   clear hxp
   have HXrw3 : Hid (UB w3 ((w.heap.size + 1 + 1)) (U0) (.slice none 0 0)) := hxr
   clear hxr
   have HBw3 := hid hb
   clear hb
   cases hf with
   | false =>
    have HO3 : Hid (O = { u with hq := true, qry := EscE.enc 2 q }) := by show _ = _; rw [HO2.out]; first | done | rfl | simp
    obtain ⟨p0, p1, p2, p3, p4, p5⟩ := HXpw3.out.facts
    obtain ⟨c0, c1, c2', c3, c4, c5, c6, c7, c8, c9, c10, c11, c12⟩ := HXuw3.out.facts
    go_wp2_with (refine store_box HXrw3.out ({ u with hq := true, qry := EscE.enc 2 q }) A n c (.tmp 4) (.tmp 26) rfl rfl rfl rfl ?_)
    try simp only [Exit.inBlock, Exit.then]
    exact bodyPost_ret (w := World.setRow w3 (w.heap.size + 1 + 1) (cells ({ u with hq := true, qry := EscE.enc 2 q }) (.slice A n c))) (res1 (u := { u with hq := true, qry := EscE.enc 2 q }) (p := .slice A n c) rfl (HXrw3.out.row ({ u with hq := true, qry := EscE.enc 2 q }) _) _ rfl) rfl ⟨by rw [HO3.out]; first | done | rfl, below_setRow HBw3.out LE_r.out _⟩
   | true =>
    have HO3 : Hid (O = { u with hq := true, qry := EscE.enc 2 q, hf := true, frg := EscE.enc 1 f }) := by show _ = _; rw [HO2.out]; first | done | rfl | simp
    obtain ⟨p0, p1, p2, p3, p4, p5⟩ := HXpw3.out.facts
    have hcv := fun (w : World) s => run_bytes_of_string (P := Tryz.prog) w 9 61 5 s Tryz.underlying9 Tryz.underlying61 Tryz.underlying5
    go_wp2_with fail
    clear hcv
    refine (EscE.encode_any 1 _ _ _ f _ (rds_made (strOf f) _ _ _) (size_of (by omega))).mono ?_
    rintro e w4 ⟨rfl, hb0⟩
    have hbx : Below w3.heap.size w3 w4 := bel (((Below.refl w3.heap.size w3).alloc (Nat.le_refl _) _).drew) hb0
    clear hb0
    have HXuw4 := hid (HXuw3.out.below hbx)
    have HXpw4 := hid (HXpw3.out.below hbx)
    have HXrw4 := hid (HXrw3.out.below hbx)
    have HBw4 := hid (bel HBw3.out hbx)
    clear HXuw3 HXpw3 HXrw3 HBw3
    clear hbx
    clear p0 p1 p2 p3 p4 p5
    have cx10 := HXuw4.out.facts.2.2.2.2.2.2.2.2.2.2.1
    have fx10 := HXuw4.out.thaw.2.2.2.2.2.2.2.2.2.2.1
    have cx12 := HXuw4.out.facts.2.2.2.2.2.2.2.2.2.2.2.2
    have fx12 := HXuw4.out.thaw.2.2.2.2.2.2.2.2.2.2.2.2
    go_upto_region 8 with (fail)
    have hxu := ((HXuw4.out.hf true).frg (EscE.enc 1 f))
    have hxp := ((HXpw4.out.set (k := w.heap.size) (i := 10) (.bool true) NE_p_u.out).set (k := w.heap.size) (i := 12) (.string (strOf (EscE.enc 1 f))) NE_p_u.out)
    have hxr := ((HXrw4.out.set (k := w.heap.size) (i := 10) (.bool true) NE_r_u.out).set (k := w.heap.size) (i := 12) (.string (strOf (EscE.enc 1 f))) NE_r_u.out)
    have hb := ((HBw4.out.setCell (p := ⟨w.heap.size, 10, none⟩) LE_u.out (.bool true)).setCell (p := ⟨w.heap.size, 12, none⟩) LE_u.out (.string (strOf (EscE.enc 1 f))))
    clear HXuw4 HXpw4 HXrw4 HBw4
    clear cx10 fx10 cx12 fx12
    generalize (World.setCell (World.setCell w4 ⟨w.heap.size, 10, none⟩ (.bool true)) ⟨w.heap.size, 12, none⟩ (.string (strOf (EscE.enc 1 f)))) = w5 at hxu hxp hxr hb ⊢
    have HXuw5 : Hid (UB w5 (w.heap.size) ({ u with hq := true, qry := EscE.enc 2 q, hf := true, frg := EscE.enc 1 f }) (.slice A n c)) := hxu
    clear hxu
    have HXpw5 : Hid (PB w5 ((w.heap.size + 1)) (⟨s, r, q, f, true, true⟩)) := hxp
    clear hxp
    have HXrw5 : Hid (UB w5 ((w.heap.size + 1 + 1)) (U0) (.slice none 0 0)) := hxr
    clear hxr
    have HBw5 := hid hb
    clear hb
    obtain ⟨c0, c1, c2', c3, c4, c5, c6, c7, c8, c9, c10, c11, c12⟩ := HXuw5.out.facts
    go_wp2_with (refine store_box HXrw5.out ({ u with hq := true, qry := EscE.enc 2 q, hf := true, frg := EscE.enc 1 f }) A n c (.tmp 4) (.tmp 26) rfl rfl rfl rfl ?_)
    try simp only [Exit.inBlock, Exit.then]
    exact bodyPost_ret (w := World.setRow w5 (w.heap.size + 1 + 1) (cells ({ u with hq := true, qry := EscE.enc 2 q, hf := true, frg := EscE.enc 1 f }) (.slice A n c))) (res1 (u := { u with hq := true, qry := EscE.enc 2 q, hf := true, frg := EscE.enc 1 f }) (p := .slice A n c) rfl (HXrw5.out.row ({ u with hq := true, qry := EscE.enc 2 q, hf := true, frg := EscE.enc 1 f }) _) _ rfl) rfl ⟨by rw [HO3.out]; first | done | rfl, below_setRow HBw5.out LE_r.out _⟩
  | true =>
   have HO2 : Hid (O = if hf = true then { { u with hq := true, qry := EscE.enc 3 q } with hf := true, frg := EscE.enc 1 f } else { u with hq := true, qry := EscE.enc 3 q }) := by show _ = _; rw [HO.out]; unfold PrsP.finish; simp only [hs]; first | done | rfl | simp
   rw [hs] at HSP
   clear hs
   obtain ⟨p0, p1, p2, p3, p4, p5⟩ := HXpw1.out.facts
   have cs0 := HXuw1.out.facts.1
   go_wp2_with fail
   refine (HSP.out _).mono ?_
   rintro e wx ⟨rfl, hwx⟩
   obtain rfl : w1 = wx := by first | exact hwx | exact hwx.symm
   clear hwx
   have hcv := fun (w : World) s => run_bytes_of_string (P := Tryz.prog) w 9 61 5 s Tryz.underlying9 Tryz.underlying61 Tryz.underlying5
   go_wp2_with fail
   clear hcv
   refine (EscE.encode_any 3 _ _ _ q _ (rds_made (strOf q) _ _ _) (size_of (by omega))).mono ?_
   rintro e w2 ⟨rfl, hb0⟩
   have hbx : Below w1.heap.size w1 w2 := bel (((Below.refl w1.heap.size w1).alloc (Nat.le_refl _) _).drew) hb0
   clear hb0
   have HXuw2 := hid (HXuw1.out.below hbx)
   have HXpw2 := hid (HXpw1.out.below hbx)
   have HXrw2 := hid (HXrw1.out.below hbx)
   have HBw2 := hid (bel HBw1.out hbx)
   clear HXuw1 HXpw1 HXrw1 HBw1
   clear hbx
   clear p0 p1 p2 p3 p4 p5
   clear cs0
   have cx9 := HXuw2.out.facts.2.2.2.2.2.2.2.2.2.1
   have fx9 := HXuw2.out.thaw.2.2.2.2.2.2.2.2.2.1
   have cx11 := HXuw2.out.facts.2.2.2.2.2.2.2.2.2.2.2.1
   have fx11 := HXuw2.out.thaw.2.2.2.2.2.2.2.2.2.2.2.1
   go_upto_region 6 with (fail)
   have hxu := ((HXuw2.out.hq true).qry (EscE.enc 3 q))
   have hxp := ((HXpw2.out.set (k := w.heap.size) (i := 9) (.bool true) NE_p_u.out).set (k := w.heap.size) (i := 11) (.string (strOf (EscE.enc 3 q))) NE_p_u.out)
   have hxr := ((HXrw2.out.set (k := w.heap.size) (i := 9) (.bool true) NE_r_u.out).set (k := w.heap.size) (i := 11) (.string (strOf (EscE.enc 3 q))) NE_r_u.out)
   have hb := ((HBw2.out.setCell (p := ⟨w.heap.size, 9, none⟩) LE_u.out (.bool true)).setCell (p := ⟨w.heap.size, 11, none⟩) LE_u.out (.string (strOf (EscE.enc 3 q))))
   clear HXuw2 HXpw2 HXrw2 HBw2
   clear cx9 fx9 cx11 fx11
   generalize (World.setCell (World.setCell w2 ⟨w.heap.size, 9, none⟩ (.bool true)) ⟨w.heap.size, 11, none⟩ (.string (strOf (EscE.enc 3 q)))) = w3 at hxu hxp hxr hb ⊢
   have HXuw3 : Hid (UB w3 (w.heap.size) ({ u with hq := true, qry := EscE.enc 3 q }) (.slice A n c)) := hxu
   clear hxu
   have HXpw3 : Hid (PB w3 ((w.heap.size + 1)) (⟨s, r, q, f, true, hf⟩)) := hxp
   clear hxp
   have HXrw3 : Hid (UB w3 ((w.heap.size + 1 + 1)) (U0) (.slice none 0 0)) := hxr
   clear hxr
   have HBw3 := hid hb
   clear hb
   cases hf with
   | false =>
    have HO3 : Hid (O = { u with hq := true, qry := EscE.enc 3 q }) := by show _ = _; rw [HO2.out]; first | done | rfl | simp
    obtain ⟨p0, p1, p2, p3, p4, p5⟩ := HXpw3.out.facts
    obtain ⟨c0, c1, c2', c3, c4, c5, c6, c7, c8, c9, c10, c11, c12⟩ := HXuw3.out.facts
    go_wp2_with (refine store_box HXrw3.out ({ u with hq := true, qry := EscE.enc 3 q }) A n c (.tmp 4) (.tmp 26) rfl rfl rfl rfl ?_)
    try simp only [Exit.inBlock, Exit.then]
    exact bodyPost_ret (w := World.setRow w3 (w.heap.size + 1 + 1) (cells ({ u with hq := true, qry := EscE.enc 3 q }) (.slice A n c))) (res1 (u := { u with hq := true, qry := EscE.enc 3 q }) (p := .slice A n c) rfl (HXrw3.out.row ({ u with hq := true, qry := EscE.enc 3 q }) _) _ rfl) rfl ⟨by rw [HO3.out]; first | done | rfl, below_setRow HBw3.out LE_r.out _⟩
   | true =>
    have HO3 : Hid (O = { u with hq := true, qry := EscE.enc 3 q, hf := true, frg := EscE.enc 1 f }) := by show _ = _; rw [HO2.out]; first | done | rfl | simp
    obtain ⟨p0, p1, p2, p3, p4, p5⟩ := HXpw3.out.facts
    have hcv := fun (w : World) s => run_bytes_of_string (P := Tryz.prog) w 9 61 5 s Tryz.underlying9 Tryz.underlying61 Tryz.underlying5
    go_wp2_with fail
    clear hcv
    refine (EscE.encode_any 1 _ _ _ f _ (rds_made (strOf f) _ _ _) (size_of (by omega))).mono ?_
    rintro e w4 ⟨rfl, hb0⟩
    have hbx : Below w3.heap.size w3 w4 := bel (((Below.refl w3.heap.size w3).alloc (Nat.le_refl _) _).drew) hb0
    clear hb0
    have HXuw4 := hid (HXuw3.out.below hbx)
    have HXpw4 := hid (HXpw3.out.below hbx)
    have HXrw4 := hid (HXrw3.out.below hbx)
    have HBw4 := hid (bel HBw3.out hbx)
    clear HXuw3 HXpw3 HXrw3 HBw3
    clear hbx
    clear p0 p1 p2 p3 p4 p5
    have cx10 := HXuw4.out.facts.2.2.2.2.2.2.2.2.2.2.1
    have fx10 := HXuw4.out.thaw.2.2.2.2.2.2.2.2.2.2.1
    have cx12 := HXuw4.out.facts.2.2.2.2.2.2.2.2.2.2.2.2
    have fx12 := HXuw4.out.thaw.2.2.2.2.2.2.2.2.2.2.2.2
    go_upto_region 8 with (fail)
    have hxu := ((HXuw4.out.hf true).frg (EscE.enc 1 f))
    have hxp := ((HXpw4.out.set (k := w.heap.size) (i := 10) (.bool true) NE_p_u.out).set (k := w.heap.size) (i := 12) (.string (strOf (EscE.enc 1 f))) NE_p_u.out)
    have hxr := ((HXrw4.out.set (k := w.heap.size) (i := 10) (.bool true) NE_r_u.out).set (k := w.heap.size) (i := 12) (.string (strOf (EscE.enc 1 f))) NE_r_u.out)
    have hb := ((HBw4.out.setCell (p := ⟨w.heap.size, 10, none⟩) LE_u.out (.bool true)).setCell (p := ⟨w.heap.size, 12, none⟩) LE_u.out (.string (strOf (EscE.enc 1 f))))
    clear HXuw4 HXpw4 HXrw4 HBw4
    clear cx10 fx10 cx12 fx12
    generalize (World.setCell (World.setCell w4 ⟨w.heap.size, 10, none⟩ (.bool true)) ⟨w.heap.size, 12, none⟩ (.string (strOf (EscE.enc 1 f)))) = w5 at hxu hxp hxr hb ⊢
    have HXuw5 : Hid (UB w5 (w.heap.size) ({ u with hq := true, qry := EscE.enc 3 q, hf := true, frg := EscE.enc 1 f }) (.slice A n c)) := hxu
    clear hxu
    have HXpw5 : Hid (PB w5 ((w.heap.size + 1)) (⟨s, r, q, f, true, true⟩)) := hxp
    clear hxp
    have HXrw5 : Hid (UB w5 ((w.heap.size + 1 + 1)) (U0) (.slice none 0 0)) := hxr
    clear hxr
    have HBw5 := hid hb
    clear hb
    obtain ⟨c0, c1, c2', c3, c4, c5, c6, c7, c8, c9, c10, c11, c12⟩ := HXuw5.out.facts
    go_wp2_with (refine store_box HXrw5.out ({ u with hq := true, qry := EscE.enc 3 q, hf := true, frg := EscE.enc 1 f }) A n c (.tmp 4) (.tmp 26) rfl rfl rfl rfl ?_)
    try simp only [Exit.inBlock, Exit.then]
    exact bodyPost_ret (w := World.setRow w5 (w.heap.size + 1 + 1) (cells ({ u with hq := true, qry := EscE.enc 3 q, hf := true, frg := EscE.enc 1 f }) (.slice A n c))) (res1 (u := { u with hq := true, qry := EscE.enc 3 q, hf := true, frg := EscE.enc 1 f }) (p := .slice A n c) rfl (HXrw5.out.row ({ u with hq := true, qry := EscE.enc 3 q, hf := true, frg := EscE.enc 1 f }) _) _ rfl) rfl ⟨by rw [HO3.out]; first | done | rfl, below_setRow HBw5.out LE_r.out _⟩
end Go.Proofs.YtmdofbccebkbiaaGreatDoor.PrsH
namespace Go.Proofs.YtmdofbccebkbiaaGreatDoor.Regs
open Go.RowKit Base Base2 PrsP Ubx PrsC
def urlt (o : Option U) (B : Nat) : Keep := ⟨fun v w => ∃ A n c, v = .tuple #[.agg (cells (o.getD U0) (.slice A n c)), .bool o.isSome] ∧ w.ownsRow B 9 1 (.slice A n c) n ((o.getD U0).pth.map Value.string), fun _ _ _ hb ⟨A, n, c, h1, h2⟩ => ⟨A, n, c, h1, owns_below h2 hb⟩⟩
def urla (o : Option U) (B : Nat) : Keep := ⟨fun v w => ∃ A n c, v = .agg (cells (o.getD U0) (.slice A n c)) ∧ w.ownsRow B 9 1 (.slice A n c) n ((o.getD U0).pth.map Value.string), fun _ _ _ hb ⟨A, n, c, h1, h2⟩ => ⟨A, n, c, h1, owns_below h2 hb⟩⟩
theorem anso_urlt {w w' : World} {o : Option U} {e : Ending} (h : AnsO w o e w') : Below w.heap.size w w' ∧ ∃ A n c, e = .returned (.tuple #[.agg (cells (o.getD U0) (.slice A n c)), .bool o.isSome]) ∧ w'.ownsRow w.heap.size 9 1 (.slice A n c) n ((o.getD U0).pth.map Value.string) := by
 obtain ⟨hb, u, A, n, c, ok, rfl, hown, h1 | h1⟩ := h
 ·obtain ⟨rfl, rfl⟩ := h1
  exact ⟨hb, A, n, c, rfl, hown⟩
 ·obtain ⟨rfl, rfl, rfl⟩ := h1
  exact ⟨hb, A, n, c, rfl, hown⟩
theorem urlt_anso {w w' : World} {o : Option U} {A : Option Addr} {n c : Nat} (hb : Below w.heap.size w w') (h : w'.ownsRow w.heap.size 9 1 (.slice A n c) n ((o.getD U0).pth.map Value.string)) : AnsO w o (.returned (.tuple #[.agg (cells (o.getD U0) (.slice A n c)), .bool o.isSome])) w' := by
 cases o with
 | none => exact ⟨hb, U0, A, n, c, false, rfl, h, .inr ⟨rfl, rfl, rfl⟩⟩
 | some u => exact ⟨hb, u, A, n, c, true, rfl, h, .inl ⟨rfl, rfl⟩⟩
end Go.Proofs.YtmdofbccebkbiaaGreatDoor.Regs
namespace Go.Proofs.YtmdofbccebkbiaaGreatDoor.PrsI
open Go.RowKit Base Regs Base2 UtfA UtfL PthG PthH PthJ UrlA PrsP PrsA PrsQ PrsB Ubx Pbx PrsC PrsD SixG HstC Spl PrsH
theorem pre_len {r : List UInt8} (h : Lib.hasPrefix r [47, 47] = true) : 2 ≤ r.length := by
 unfold Lib.hasPrefix at h
 match r, h with
 | [], h => cases h
 | [a], h => simp [List.isPrefixOf] at h
 | a :: b :: t, _ => simp
theorem trim_len (E : List UInt8) : (Lib.trimSuffix E [32]).length ≤ E.length := by
 unfold Lib.trimSuffix
 split
 ·simp
 ·exact Nat.le_refl _
set_option maxRecDepth 100000 in
set_option maxHeartbeats 16000000 in
theorem plain_any (p : Parts) (w : World) (hs : p.rest.length ≤ 900000) (hL : Lad w) (hT : Tab.Pow w) (hM : Max w) : Calls Tryz.prog 89 #[.agg (pcells p)] w (AnsO w (PrsP.plain p)) := by
 obtain ⟨s, r, q, f, hq, hf⟩ := p
 simp only at hs
 obtain ⟨O, hO⟩ : ∃ O, O = PrsP.plain ⟨s, r, q, f, hq, hf⟩ := ⟨_, rfl⟩
 rw [← hO]
 obtain ⟨a2, ha2⟩ : ∃ x, x = Lib.hasPrefix r [47, 47] := ⟨_, rfl⟩
 obtain ⟨a1, ha1⟩ : ∃ x, x = Lib.hasPrefix r [47] := ⟨_, rfl⟩
 unfold PrsP.plain at hO
 simp only at hO
 rw [← ha2, ← ha1] at hO
 have h2l : a2 = true → 2 ≤ r.length := fun h => by rw [h] at ha2; exact pre_len ha2.symm
 have H2L := hid h2l
 have HP2 : Hid (∀ w : World, Calls Tryz.prog 66 #[.string (strOf r), .string ⟨#[47, 47]⟩] w fun e w' => e = .returned (.bool a2) ∧ w' = w) := fun w => by rw [ha2]; exact Tryz.strings_HasPrefix (strOf r) ⟨#[47, 47]⟩ w
 have HP1 : Hid (∀ w : World, Calls Tryz.prog 66 #[.string (strOf r), .string ⟨#[47]⟩] w fun e w' => e = .returned (.bool a1) ∧ w' = w) := fun w => by rw [ha1]; exact Tryz.strings_HasPrefix (strOf r) ⟨#[47]⟩ w
 have HAU : Hid (∀ (L : List UInt8) (w : World), L.length ≤ 900000 → Lad w → Tab.Pow w → Max w → Calls Tryz.prog 86 #[.string (strOf s), .string (strOf L)] w (AnsO w (authority s L))) := fun L w h a c d => authority_any s L w h a c d
 have HRT : Hid (∀ w : World, Calls Tryz.prog 158 #[.string (strOf s), .string (strOf r)] w (Owned w.heap.size w (rooted s r))) := fun w => rooted_any (strOf s) (strOf r) w (size_of (by omega))
 obtain ⟨E, hE⟩ : ∃ E, E = EscE.enc 0 r := ⟨_, rfl⟩
 have hEl : E.length ≤ 3000000 := by rw [hE]; have := EscE.enc_len 0 r; omega
 have HEN : Hid (∀ (A : Option Addr) (n c : Nat) (w : World), Rds w A n (bcells r) → n ≤ 1073741824 → Calls Tryz.prog 91 #[.int .i64 0, .slice A n c] w fun e w' => e = .returned (.string (strOf E)) ∧ Below w.heap.size w w') := fun A n c w h1 h2 => by rw [hE]; exact EscE.encode_any 0 A n c r w h1 h2
 have hop : PrsP.opq (hq || hf) r = if Lib.hasSuffix E [32] = true ∧ (hq || hf) = true then Lib.trimSuffix E [32] ++ [37, 50, 48] else E := by rw [hE]; rfl
 rw [hop] at hO
 obtain ⟨sb, hsb⟩ : ∃ x, x = Lib.hasSuffix E [32] := ⟨_, rfl⟩
 obtain ⟨TS, hTS⟩ : ∃ x, x = Lib.trimSuffix E [32] := ⟨_, rfl⟩
 have hTSl : TS.length ≤ 3000000 := by rw [hTS]; have := trim_len E; omega
 have HCS : Hid (∀ w : World, Calls Tryz.prog 168 #[.string (strOf E), .string ⟨#[32]⟩] w fun e w' => e = .returned (.tuple #[.string (strOf TS), .bool sb]) ∧ w' = w) := fun w => by rw [hTS, hsb]; exact Tryz.strings_CutSuffix (strOf E) ⟨#[32]⟩ w (by rw [size_strOf]; omega)
 have HAD : Hid (∀ w : World, (Op.stringOp .add (strOf TS) ⟨#[37, 50, 48]⟩).run Tryz.prog w = .ok (.string (strOf (TS ++ [37, 50, 48]))) w) := fun w => str_add' (strOf TS) ⟨#[37, 50, 48]⟩ w (by rw [size_strOf]; show _ + 3 ≤ _; omega)
 rw [← hsb, ← hTS] at hO
 have HO := hid hO
 have HL := hid hL
 have HT := hid hT
 have HM := hid hM
 clear hO ha2 ha1 h2l hop hsb hTS hE hL hT hM
 go_enter Tryz.func89, Tryz.ntmps89
 go_upto_region 1 with (fail)
 generalize hw : World.alloc (World.alloc w _) _ = w1
 have h1 : PB w1 (w.heap.size) (⟨s, r, q, f, hq, hf⟩) ∧ UB w1 ((w.heap.size + 1)) (U0) (.slice none 0 0) ∧ Below w.heap.size w w1 := by
  subst hw
  exact laid2 w _ _ _ _
 clear hw
 have NE_p_r : Hid (w.heap.size ≠ (w.heap.size + 1)) := by show _ ≠ _; omega
 have NE_r_p : Hid ((w.heap.size + 1) ≠ w.heap.size) := by show _ ≠ _; omega
 have LE_p : Hid (w.heap.size ≤ w.heap.size) := Nat.le_refl _
 have LE_r : Hid (w.heap.size ≤ (w.heap.size + 1)) := Nat.le_succ _
 have HXpw1 := hid h1.1
 have HXrw1 := hid h1.2.1
 have HBw1 := hid h1.2.2
 clear h1
 obtain ⟨p0, p1, p2, p3, p4, p5⟩ := HXpw1.out.facts
 go_upto_region 7 with (fail)
 generalize hw : World.alloc w1 _ = w2
 have h1 : UB w2 (w1.heap.size) ({ U0 with sch := s, port := -1 }) (.slice none 0 0) ∧ Below w1.heap.size w1 w2 := by
  subst hw
  exact laid1 w1 _ _
 clear hw
 have hlp := HXpw1.out.lt
 have NE_p_u : Hid (w.heap.size ≠ w1.heap.size) := by show _ ≠ _; omega
 have NE_u_p : Hid (w1.heap.size ≠ w.heap.size) := by show _ ≠ _; omega
 clear hlp
 have hlr := HXrw1.out.lt
 have NE_r_u : Hid ((w.heap.size + 1) ≠ w1.heap.size) := by show _ ≠ _; omega
 have NE_u_r : Hid (w1.heap.size ≠ (w.heap.size + 1)) := by show _ ≠ _; omega
 clear hlr
 have LE_u : Hid (w.heap.size ≤ w1.heap.size) := HBw1.out.size
 have HXpw2 := hid (HXpw1.out.below h1.2)
 have HXrw2 := hid (HXrw1.out.below h1.2)
 have HBw2 := hid (bel HBw1.out h1.2)
 have HXuw2 := hid h1.1
 clear HXpw1 HXrw1 HBw1
 clear h1
 clear p0 p1 p2 p3 p4 p5
 obtain ⟨p0, p1, p2, p3, p4, p5⟩ := HXpw2.out.facts
 go_wp2_with fail
 refine (HP2.out _).mono ?_
 rintro e wx ⟨rfl, hwx⟩
 obtain rfl : w2 = wx := by first | exact hwx | exact hwx.symm
 clear hwx
 cases a2 with
 | true =>
  have hl2 := H2L.out (by simp)
  have HO3 : Hid (O = authority s (r.drop 2)) := by show _ = _; rw [HO.out, if_pos (by simp)]
  obtain ⟨T2, hT2⟩ : ∃ x, x = r.drop 2 := ⟨_, rfl⟩
  have hx2 : (strOf r).extract 2 (strOf r).size = strOf T2 := by rw [str_right, hT2]; rfl
  have HX2 := hid hx2
  have hkI : (2 : Int) ≤ ((strOf r).size : Int) := by rw [size_strOf]; omega
  rw [← hT2] at HO3
  have hT2l : T2.length ≤ 900000 := by rw [hT2, List.length_drop]; omega
  have HLr : Hid ((w.heap.size + 1) < w2.heap.size) := HXrw2.out.lt
  have HF := hid HXpw2.out.facts
  obtain ⟨OA, hOA⟩ : ∃ x, x = authority s T2 := ⟨_, rfl⟩
  have HAU2 : Hid (∀ w : World, Lad w → Tab.Pow w → Max w → Calls Tryz.prog 86 #[.string (strOf s), .string (strOf T2)] w (AnsO w OA)) := fun w a b c => by rw [hOA]; exact HAU.out T2 w (by omega) a b c
  rw [← hOA] at HO3
  clear hT2 hl2 hx2 hOA
  clear p0 p1 p2 p3 p4 p5
  go_upto_region 8 with (fail)
  refine wp_region_rel_tail (by kernel_rfl) 8 [is (.pointer (some ⟨w.heap.size, 0, none⟩)), is (.string (strOf s)), is (.pointer (some ⟨w.heap.size, 1, none⟩)), is (.string (strOf r)), is (.string (strOf T2)), urlt OA w2.heap.size, urla OA w2.heap.size, is (.bool OA.isSome)] [[], [0], [], [2], [2, 3], [0, 1, 2, 3, 4], [0, 1, 2, 3, 4, 5], [0, 1, 2, 3, 4, 5], [0, 1, 2, 3, 4, 5, 6, 7]] (by kernel_rfl) ?_ ?_
  ·refine ⟨?_, ?_, ?_, ?_, ?_, ?_, ?_, ?_, trivial⟩
   ·intro t wq hbq hh K hK
    clear hh
    simp only [filled, filledN, upd, Have, is, any, row, pick, Act.put, List.setIfInBounds_toArray, List.set_cons_zero, List.set_cons_succ, Nat.reduceAdd, Nat.reduceEqDiff, reduceIte] at hK ⊢
    go_simp
    exact hK _ _ (Below.refl _ _) rfl
   ·intro t wq hbq hh K hK
    have e0 := hh.1
    simp only [pick] at e0
    replace e0 : t 0 = (.pointer (some ⟨w.heap.size, 0, none⟩)) := e0
    clear hh
    simp only [filled, filledN, upd, Have, is, any, row, pick, Act.put, List.setIfInBounds_toArray, List.set_cons_zero, List.set_cons_succ, Nat.reduceAdd, Nat.reduceEqDiff, reduceIte] at hK ⊢
    simp only [e0] at hK ⊢
    have hc := HF.out.1
    have hc2 := (hbq.cell (p := ⟨w.heap.size, 0, none⟩) (by have := HLr.out; show w.heap.size < _; omega)).trans hc
    go_simp
    exact hK _ _ (Below.refl _ _) rfl
   ·intro t wq hbq hh K hK
    clear hh
    simp only [filled, filledN, upd, Have, is, any, row, pick, Act.put, List.setIfInBounds_toArray, List.set_cons_zero, List.set_cons_succ, Nat.reduceAdd, Nat.reduceEqDiff, reduceIte] at hK ⊢
    go_simp
    exact hK _ _ (Below.refl _ _) rfl
   ·intro t wq hbq hh K hK
    have e2 := hh.1
    simp only [pick] at e2
    replace e2 : t 2 = (.pointer (some ⟨w.heap.size, 1, none⟩)) := e2
    clear hh
    simp only [filled, filledN, upd, Have, is, any, row, pick, Act.put, List.setIfInBounds_toArray, List.set_cons_zero, List.set_cons_succ, Nat.reduceAdd, Nat.reduceEqDiff, reduceIte] at hK ⊢
    simp only [e2] at hK ⊢
    have hc := HF.out.2.1
    have hc2 := (hbq.cell (p := ⟨w.heap.size, 1, none⟩) (by have := HLr.out; show w.heap.size < _; omega)).trans hc
    go_simp
    exact hK _ _ (Below.refl _ _) rfl
   ·intro t wq hbq hh K hK
    have e3 := hh.2.1
    simp only [pick] at e3
    replace e3 : t 3 = (.string (strOf r)) := e3
    clear hh
    simp only [filled, filledN, upd, Have, is, any, row, pick, Act.put, List.setIfInBounds_toArray, List.set_cons_zero, List.set_cons_succ, Nat.reduceAdd, Nat.reduceEqDiff, reduceIte] at hK ⊢
    simp only [e3] at hK ⊢
    have hx := HX2.out
    go_simp
    exact hK _ _ (Below.refl _ _) rfl
   ·intro t wq hbq hh K hK
    have e1 := hh.2.1
    simp only [pick] at e1
    replace e1 : t 1 = (.string (strOf s)) := e1
    have e4 := hh.2.2.2.2.1
    simp only [pick] at e4
    replace e4 : t 4 = (.string (strOf T2)) := e4
    clear hh
    simp only [filled, filledN, upd, Have, is, any, row, pick, Act.put, List.setIfInBounds_toArray, List.set_cons_zero, List.set_cons_succ, Nat.reduceAdd, Nat.reduceEqDiff, reduceIte] at hK ⊢
    simp only [e1, e4] at hK ⊢
    go_simp
    refine (HAU2.out _ (HL.out.below (bel HBw2.out hbq)) (pow_below HT.out (bel HBw2.out hbq)) (HM.out.below (bel HBw2.out hbq))).mono ?_
    intro e w9 ha
    obtain ⟨hb9, A9, n9, c9, rfl, ho9⟩ := Regs.anso_urlt ha
    exact hK _ _ hb9 ⟨A9, n9, c9, rfl, owns_base ho9 hbq.size⟩
   ·intro t wq hbq hh K hK
    have e5 := hh.2.2.2.2.2.1
    simp only [pick] at e5
    clear hh
    simp only [filled, filledN, upd, Have, is, any, row, pick, Act.put, List.setIfInBounds_toArray, List.set_cons_zero, List.set_cons_succ, Nat.reduceAdd, Nat.reduceEqDiff, reduceIte] at hK ⊢
    obtain ⟨A5, n5, c5, e5, ho5⟩ := e5
    simp only [e5] at hK ⊢
    go_simp
    exact hK _ _ (Below.refl _ _) ⟨_, _, _, rfl, ho5⟩
   ·intro t wq hbq hh K hK
    have e5 := hh.2.2.2.2.2.1
    simp only [pick] at e5
    clear hh
    simp only [filled, filledN, upd, Have, is, any, row, pick, Act.put, List.setIfInBounds_toArray, List.set_cons_zero, List.set_cons_succ, Nat.reduceAdd, Nat.reduceEqDiff, reduceIte] at hK ⊢
    obtain ⟨A5, n5, c5, e5, ho5⟩ := e5
    simp only [e5] at hK ⊢
    go_simp
    exact hK _ _ (Below.refl _ _) rfl
  ·intro t wq hbq hh
   have f6 := have_get hh 6 (by decide)
   simp only [pick] at f6
   have f7 := have_get hh 7 (by decide)
   simp only [pick] at f7
   replace f7 : t 7 = (.bool OA.isSome) := f7
   clear hh
   simp only [filled, filledN, upd, Have, is, any, row, pick, Act.put, List.setIfInBounds_toArray, List.set_cons_zero, List.set_cons_succ, Nat.reduceAdd, Nat.reduceEqDiff, reduceIte]
   obtain ⟨A6, n6, c6, f6, ho6⟩ := f6
   simp only [f6, f7]
   have HXrq := hid (HXrw2.out.below hbq)
   have HBq := hid (bel HBw2.out hbq)
   have HOQ := hid ho6
   clear ho6 hbq
   refine store_box HXrq.out ((OA).getD U0) A6 n6 c6 (.tmp 2) (.tmp 44) rfl rfl rfl rfl ?_
   go_wp2
   try simp only [Exit.inBlock, Exit.then]
   have ho := owns_base (SixC.owns_other (w' := World.setRow wq (w.heap.size + 1) (cells ((OA).getD U0) (.slice A6 n6 c6))) (gb := (w.heap.size + 1)) (HOQ.out) (fun k hk => setRow_other _ _ _ _ hk) HLr.out) (by have h1 := LE_r.out; have h2 := HLr.out; omega : w.heap.size ≤ _)
   refine bodyPost_ret (w := World.setRow wq (w.heap.size + 1) (cells ((OA).getD U0) (.slice A6 n6 c6))) (res2 (u := (OA).getD U0) (p := .slice A6 n6 c6) rfl (HXrq.out.row _ _) (OA).isSome _ rfl rfl) rfl ?_
   rw [HO3.out]
   exact Regs.urlt_anso (below_setRow HBq.out LE_r.out _) ho
 | false =>
  have HO2 : Hid (O = if a1 = true then some { U0 with sch := s, port := -1, pth := rooted s r } else some { U0 with sch := s, port := -1, opq := true, txt := if sb = true ∧ (hq || hf) = true then TS ++ [37, 50, 48] else E }) := by show _ = _; rw [HO.out, if_neg (by simp)]
  clear HO H2L HAU
  go_wp2_with fail
  refine (HP1.out _).mono ?_
  rintro e wx ⟨rfl, hwx⟩
  obtain rfl : w2 = wx := by first | exact hwx | exact hwx.symm
  clear hwx
  cases a1 with
  | true =>
   have HO3 : Hid (O = some { U0 with sch := s, port := -1, pth := rooted s r }) := by show _ = _; rw [HO2.out, if_pos (by simp)]
   go_wp2_with fail
   clear p0 p1 p2 p3 p4 p5
   refine (HRT.out _).mono ?_
   rintro e w3 ⟨q1, rfl, hown, hbx⟩
   obtain ⟨Aq, cq, rfl, hq1⟩ := pth_of_owned (u := { U0 with pth := rooted s r }) hown
   clear hq1
   replace hown := owns_base hown (Nat.le_refl _)
   have HLu : Hid (w1.heap.size < w2.heap.size) := HXuw2.out.lt
   have HLr : Hid ((w.heap.size + 1) < w2.heap.size) := HXrw2.out.lt
   have HXpw3 := hid (HXpw2.out.below hbx)
   have HXrw3 := hid (HXrw2.out.below hbx)
   have HXuw3 := hid (HXuw2.out.below hbx)
   have HBw3 := hid (bel HBw2.out hbx)
   have HOqw3 := hid hown
   clear hown
   clear HXpw2 HXrw2 HXuw2 HBw2
   clear hbx
   have hoq := SixC.owns_other (w' := w3.setCell ⟨w1.heap.size, 8, none⟩ (.slice Aq (rooted s r).length cq)) (gb := w1.heap.size) HOqw3.out (fun k hk => heap_setCell_other _ _ _ _ hk) HLu.out
   have hoq2 := hid hoq
   clear hoq HOqw3
   have cx := HXuw3.out.facts.2.2.2.2.2.2.2.2.1
   have fx := HXuw3.out.thaw.2.2.2.2.2.2.2.2.1
   go_upto_region 11 with (fail)
   have hxp := HXpw3.out.set (k := w1.heap.size) (i := 8) (.slice Aq (rooted s r).length cq) NE_p_u.out
   have hxr := HXrw3.out.set (k := w1.heap.size) (i := 8) (.slice Aq (rooted s r).length cq) NE_r_u.out
   have hxu := HXuw3.out.path (.slice Aq (rooted s r).length cq)
   have hb := HBw3.out.setCell (p := ⟨w1.heap.size, 8, none⟩) LE_u.out (.slice Aq (rooted s r).length cq)
   have hoq := hoq2.out
   clear HXpw3 HXrw3 HXuw3 HBw3
   clear cx fx hoq2
   generalize World.setCell w3 _ _ = w4 at hxp hxr hxu hb hoq ⊢
   have HXpw4 : Hid (PB w4 (w.heap.size) (⟨s, r, q, f, hq, hf⟩)) := hxp
   clear hxp
   have HXrw4 : Hid (UB w4 ((w.heap.size + 1)) (U0) (.slice none 0 0)) := hxr
   clear hxr
   have HXuw4 : Hid (UB w4 (w1.heap.size) ({ U0 with sch := s, port := -1 }) (.slice Aq (rooted s r).length cq)) := hxu
   clear hxu
   have HBw4 := hid hb
   have HOqw4 := hid hoq
   clear hb hoq
   obtain ⟨c0, c1, c2', c3, c4, c5, c6, c7, c8, c9, c10, c11, c12⟩ := HXuw4.out.facts
   go_wp2_with (refine store_box HXrw4.out ({ U0 with sch := s, port := -1 }) Aq (rooted s r).length cq (.tmp 2) (.tmp 56) rfl rfl rfl rfl ?_)
   try simp only [Exit.inBlock, Exit.then]
   have hpo : ∀ k, k ≠ (w.heap.size + 1) → (World.setRow w4 ((w.heap.size + 1)) (cells ({ U0 with sch := s, port := -1 }) (.slice Aq (rooted s r).length cq))).heap[k]? = w4.heap[k]? := fun k hk => setRow_other _ _ _ _ hk
   have ho := owns_base (SixC.owns_other HOqw4.out hpo HLr.out) (by have h1 := LE_r.out; have h2 := HLr.out; omega : w.heap.size ≤ _)
   exact bodyPost_ret (w := World.setRow w4 (w.heap.size + 1) (cells ({ U0 with sch := s, port := -1 }) (.slice Aq (rooted s r).length cq))) (res2 (u := { U0 with sch := s, port := -1 }) (p := .slice Aq (rooted s r).length cq) rfl (HXrw4.out.row ({ U0 with sch := s, port := -1 }) _) true _ rfl rfl) rfl (ans_some (u := { U0 with sch := s, port := -1, pth := rooted s r }) HO3.out (below_setRow HBw4.out LE_r.out _) ho)
  | false =>
   have HO3 : Hid (O = some { U0 with sch := s, port := -1, opq := true, txt := if sb = true ∧ (hq || hf) = true then TS ++ [37, 50, 48] else E }) := by show _ = _; rw [HO2.out, if_neg (by simp)]
   clear HO2
   clear p0 p1 p2 p3 p4 p5
   have cx6 := HXuw2.out.facts.2.2.2.2.2.2.1
   have fx6 := HXuw2.out.thaw.2.2.2.2.2.2.1
   go_upto_region 3 with (fail)
   have hxp := (HXpw2.out.set (k := w1.heap.size) (i := 6) (.bool true) NE_p_u.out)
   have hxr := (HXrw2.out.set (k := w1.heap.size) (i := 6) (.bool true) NE_r_u.out)
   have hxu := (HXuw2.out.opq true)
   have hb := (HBw2.out.setCell (p := ⟨w1.heap.size, 6, none⟩) LE_u.out (.bool true))
   clear HXpw2 HXrw2 HXuw2 HBw2
   clear cx6 fx6
   generalize (World.setCell w2 ⟨w1.heap.size, 6, none⟩ (.bool true)) = w3 at hxp hxr hxu hb ⊢
   have HXpw3 : Hid (PB w3 (w.heap.size) (⟨s, r, q, f, hq, hf⟩)) := hxp
   clear hxp
   have HXrw3 : Hid (UB w3 ((w.heap.size + 1)) (U0) (.slice none 0 0)) := hxr
   clear hxr
   have HXuw3 : Hid (UB w3 (w1.heap.size) ({ U0 with sch := s, port := -1, opq := true }) (.slice none 0 0)) := hxu
   clear hxu
   have HBw3 := hid hb
   clear hb
   obtain ⟨p0, p1, p2, p3, p4, p5⟩ := HXpw3.out.facts
   have hcv := fun (w : World) s => run_bytes_of_string (P := Tryz.prog) w 9 61 5 s Tryz.underlying9 Tryz.underlying61 Tryz.underlying5
   go_wp2_with fail
   clear hcv
   refine (HEN.out _ _ _ _ (rds_made (strOf r) _ _ _) (size_of (by omega))).mono ?_
   rintro e w4 ⟨rfl, hb0⟩
   have hbx : Below w3.heap.size w3 w4 := bel (((Below.refl w3.heap.size w3).alloc (Nat.le_refl _) _).drew) hb0
   clear hb0
   have HXpw4 := hid (HXpw3.out.below hbx)
   have HXrw4 := hid (HXrw3.out.below hbx)
   have HXuw4 := hid (HXuw3.out.below hbx)
   have HBw4 := hid (bel HBw3.out hbx)
   clear HXpw3 HXrw3 HXuw3 HBw3
   clear hbx
   clear p0 p1 p2 p3 p4 p5
   have cx7 := HXuw4.out.facts.2.2.2.2.2.2.2.1
   have fx7 := HXuw4.out.thaw.2.2.2.2.2.2.2.1
   go_upto_region 4 with (fail)
   have hxp := (HXpw4.out.set (k := w1.heap.size) (i := 7) (.string (strOf E)) NE_p_u.out)
   have hxr := (HXrw4.out.set (k := w1.heap.size) (i := 7) (.string (strOf E)) NE_r_u.out)
   have hxu := (HXuw4.out.txt E)
   have hb := (HBw4.out.setCell (p := ⟨w1.heap.size, 7, none⟩) LE_u.out (.string (strOf E)))
   clear HXpw4 HXrw4 HXuw4 HBw4
   clear cx7 fx7
   generalize (World.setCell w4 ⟨w1.heap.size, 7, none⟩ (.string (strOf E))) = w5 at hxp hxr hxu hb ⊢
   have HXpw5 : Hid (PB w5 (w.heap.size) (⟨s, r, q, f, hq, hf⟩)) := hxp
   clear hxp
   have HXrw5 : Hid (UB w5 ((w.heap.size + 1)) (U0) (.slice none 0 0)) := hxr
   clear hxr
   have HXuw5 : Hid (UB w5 (w1.heap.size) ({ U0 with sch := s, port := -1, opq := true, txt := E }) (.slice none 0 0)) := hxu
   clear hxu
   have HBw5 := hid hb
   clear hb
   have cx7 := HXuw5.out.facts.2.2.2.2.2.2.2.1
   go_wp2_with fail
   refine (HCS.out _).mono ?_
   rintro e wx ⟨rfl, hwx⟩
   obtain rfl : w5 = wx := by first | exact hwx | exact hwx.symm
   clear hwx
   cases sb with
   | false =>
    go_upto_region 11 with (fail)
    clear cx7
    have HO5 : Hid (O = some { U0 with sch := s, port := -1, opq := true, txt := E }) := by show _ = _; rw [HO3.out]; first | done | rfl | simp
    obtain ⟨c0, c1, c2', c3, c4, c5, c6, c7, c8, c9, c10, c11, c12⟩ := HXuw5.out.facts
    go_wp2_with (refine store_box HXrw5.out { U0 with sch := s, port := -1, opq := true, txt := E } none 0 0 (.tmp 2) (.tmp 56) rfl rfl rfl rfl ?_)
    try simp only [Exit.inBlock, Exit.then]
    exact bodyPost_ret (w := World.setRow w5 (w.heap.size + 1) (cells { U0 with sch := s, port := -1, opq := true, txt := E } (.slice none 0 0))) (res2 (u := { U0 with sch := s, port := -1, opq := true, txt := E }) (p := .slice none 0 0) rfl (HXrw5.out.row { U0 with sch := s, port := -1, opq := true, txt := E } _) true _ rfl rfl) rfl (ans_some (u := { U0 with sch := s, port := -1, opq := true, txt := E }) HO5.out (below_setRow HBw5.out LE_r.out _) (own_nil _ _ rfl))
   | true =>
    cases hq with
    | true =>
     obtain ⟨p0, p1, p2, p3, p4, p5⟩ := HXpw5.out.facts
     have had := HAD.out
     clear cx7
     have cx7 := HXuw5.out.facts.2.2.2.2.2.2.2.1
     have fx7 := HXuw5.out.thaw.2.2.2.2.2.2.2.1
     go_upto_region 11 with (fail)
     have hxp := (HXpw5.out.set (k := w1.heap.size) (i := 7) (.string (strOf (TS ++ [37, 50, 48]))) NE_p_u.out)
     have hxr := (HXrw5.out.set (k := w1.heap.size) (i := 7) (.string (strOf (TS ++ [37, 50, 48]))) NE_r_u.out)
     have hxu := (HXuw5.out.txt (TS ++ [37, 50, 48]))
     have hb := (HBw5.out.setCell (p := ⟨w1.heap.size, 7, none⟩) LE_u.out (.string (strOf (TS ++ [37, 50, 48]))))
     clear HXpw5 HXrw5 HXuw5 HBw5
     clear cx7 fx7
     generalize (World.setCell w5 ⟨w1.heap.size, 7, none⟩ (.string (strOf (TS ++ [37, 50, 48])))) = w6 at hxp hxr hxu hb ⊢
     have HXpw6 : Hid (PB w6 (w.heap.size) (⟨s, r, q, f, true, hf⟩)) := hxp
     clear hxp
     have HXrw6 : Hid (UB w6 ((w.heap.size + 1)) (U0) (.slice none 0 0)) := hxr
     clear hxr
     have HXuw6 : Hid (UB w6 (w1.heap.size) ({ U0 with sch := s, port := -1, opq := true, txt := TS ++ [37, 50, 48] }) (.slice none 0 0)) := hxu
     clear hxu
     have HBw6 := hid hb
     clear hb
     clear p0 p1 p2 p3 p4 p5
     clear had
     have HO5 : Hid (O = some { U0 with sch := s, port := -1, opq := true, txt := TS ++ [37, 50, 48] }) := by show _ = _; rw [HO3.out]; first | done | rfl | simp
     obtain ⟨c0, c1, c2', c3, c4, c5, c6, c7, c8, c9, c10, c11, c12⟩ := HXuw6.out.facts
     go_wp2_with (refine store_box HXrw6.out { U0 with sch := s, port := -1, opq := true, txt := TS ++ [37, 50, 48] } none 0 0 (.tmp 2) (.tmp 56) rfl rfl rfl rfl ?_)
     try simp only [Exit.inBlock, Exit.then]
     exact bodyPost_ret (w := World.setRow w6 (w.heap.size + 1) (cells { U0 with sch := s, port := -1, opq := true, txt := TS ++ [37, 50, 48] } (.slice none 0 0))) (res2 (u := { U0 with sch := s, port := -1, opq := true, txt := TS ++ [37, 50, 48] }) (p := .slice none 0 0) rfl (HXrw6.out.row { U0 with sch := s, port := -1, opq := true, txt := TS ++ [37, 50, 48] } _) true _ rfl rfl) rfl (ans_some (u := { U0 with sch := s, port := -1, opq := true, txt := TS ++ [37, 50, 48] }) HO5.out (below_setRow HBw6.out LE_r.out _) (own_nil _ _ rfl))
    | false =>
     cases hf with
     | true =>
      obtain ⟨p0, p1, p2, p3, p4, p5⟩ := HXpw5.out.facts
      have had := HAD.out
      clear cx7
      have cx7 := HXuw5.out.facts.2.2.2.2.2.2.2.1
      have fx7 := HXuw5.out.thaw.2.2.2.2.2.2.2.1
      go_upto_region 11 with (fail)
      have hxp := (HXpw5.out.set (k := w1.heap.size) (i := 7) (.string (strOf (TS ++ [37, 50, 48]))) NE_p_u.out)
      have hxr := (HXrw5.out.set (k := w1.heap.size) (i := 7) (.string (strOf (TS ++ [37, 50, 48]))) NE_r_u.out)
      have hxu := (HXuw5.out.txt (TS ++ [37, 50, 48]))
      have hb := (HBw5.out.setCell (p := ⟨w1.heap.size, 7, none⟩) LE_u.out (.string (strOf (TS ++ [37, 50, 48]))))
      clear HXpw5 HXrw5 HXuw5 HBw5
      clear cx7 fx7
      generalize (World.setCell w5 ⟨w1.heap.size, 7, none⟩ (.string (strOf (TS ++ [37, 50, 48])))) = w6 at hxp hxr hxu hb ⊢
      have HXpw6 : Hid (PB w6 (w.heap.size) (⟨s, r, q, f, false, true⟩)) := hxp
      clear hxp
      have HXrw6 : Hid (UB w6 ((w.heap.size + 1)) (U0) (.slice none 0 0)) := hxr
      clear hxr
      have HXuw6 : Hid (UB w6 (w1.heap.size) ({ U0 with sch := s, port := -1, opq := true, txt := TS ++ [37, 50, 48] }) (.slice none 0 0)) := hxu
      clear hxu
      have HBw6 := hid hb
      clear hb
      clear p0 p1 p2 p3 p4 p5
      clear had
      have HO5 : Hid (O = some { U0 with sch := s, port := -1, opq := true, txt := TS ++ [37, 50, 48] }) := by show _ = _; rw [HO3.out]; first | done | rfl | simp
      obtain ⟨c0, c1, c2', c3, c4, c5, c6, c7, c8, c9, c10, c11, c12⟩ := HXuw6.out.facts
      go_wp2_with (refine store_box HXrw6.out { U0 with sch := s, port := -1, opq := true, txt := TS ++ [37, 50, 48] } none 0 0 (.tmp 2) (.tmp 56) rfl rfl rfl rfl ?_)
      try simp only [Exit.inBlock, Exit.then]
      exact bodyPost_ret (w := World.setRow w6 (w.heap.size + 1) (cells { U0 with sch := s, port := -1, opq := true, txt := TS ++ [37, 50, 48] } (.slice none 0 0))) (res2 (u := { U0 with sch := s, port := -1, opq := true, txt := TS ++ [37, 50, 48] }) (p := .slice none 0 0) rfl (HXrw6.out.row { U0 with sch := s, port := -1, opq := true, txt := TS ++ [37, 50, 48] } _) true _ rfl rfl) rfl (ans_some (u := { U0 with sch := s, port := -1, opq := true, txt := TS ++ [37, 50, 48] }) HO5.out (below_setRow HBw6.out LE_r.out _) (own_nil _ _ rfl))
     | false =>
      obtain ⟨p0, p1, p2, p3, p4, p5⟩ := HXpw5.out.facts
      go_upto_region 11 with (fail)
      clear cx7
      clear p0 p1 p2 p3 p4 p5
      have HO5 : Hid (O = some { U0 with sch := s, port := -1, opq := true, txt := E }) := by show _ = _; rw [HO3.out]; first | done | rfl | simp
      obtain ⟨c0, c1, c2', c3, c4, c5, c6, c7, c8, c9, c10, c11, c12⟩ := HXuw5.out.facts
      go_wp2_with (refine store_box HXrw5.out { U0 with sch := s, port := -1, opq := true, txt := E } none 0 0 (.tmp 2) (.tmp 56) rfl rfl rfl rfl ?_)
      try simp only [Exit.inBlock, Exit.then]
      exact bodyPost_ret (w := World.setRow w5 (w.heap.size + 1) (cells { U0 with sch := s, port := -1, opq := true, txt := E } (.slice none 0 0))) (res2 (u := { U0 with sch := s, port := -1, opq := true, txt := E }) (p := .slice none 0 0) rfl (HXrw5.out.row { U0 with sch := s, port := -1, opq := true, txt := E } _) true _ rfl rfl) rfl (ans_some (u := { U0 with sch := s, port := -1, opq := true, txt := E }) HO5.out (below_setRow HBw5.out LE_r.out _) (own_nil _ _ rfl))
end Go.Proofs.YtmdofbccebkbiaaGreatDoor.PrsI
