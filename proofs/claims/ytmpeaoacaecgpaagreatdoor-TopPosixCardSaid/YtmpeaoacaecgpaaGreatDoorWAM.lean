/- Texts that belong together: WQ, OpqC, agU, Hz, J5, acK, PrsU, oN, acM. -/
import Derived.Test.YtmpeaoacaecgpaaGreatDoorWAL
import Derived.Test.YtmpeaoacaecgpaaGreatDoorWAK
import Derived.Test.YtmpeaoacaecgpaaGreatDoorWAE
import Derived.IntWalk
import Derived.Test.YtmpeaoacaecgpaaGreatDoorWAI
import Derived.Test.YtmpeaoacaecgpaaGreatDoorWAH
import Derived.Test.YtmpeaoacaecgpaaGreatDoorWAF
set_option linter.unusedSimpArgs false
set_option linter.unusedVariables false
set_option maxRecDepth 100000
set_option maxHeartbeats 64000000
namespace Go.Proofs.YtmpeaoacaecgpaaGreatDoor.WQ
open Go.RowKit Base Regs Base2 dI cO PthG PthH PthJ UrlA PrsP yw tN Fp mW Pbx tK yx jQ sU pO acr vZ TI akb
theorem Kv (C : List UInt8) : (PrsP.apart C).rest.length ≤ C.length ∧ (PrsP.apart C).dY.length ≤ C.length ∧ (PrsP.apart C).fB.length ≤ C.length := by
 have h1 := rH 35 C
 have h2 := rH 63 (fG 35 C).1
 have h3 := rH 58 (fG 63 (fG 35 C).1).1
 unfold PrsP.apart
 simp only
 split
 ·refine ⟨?_, ?_, ?_⟩ <;> simp only <;> omega
 ·refine ⟨?_, ?_, ?_⟩ <;> simp only <;> omega
theorem Gy (u : U) (p : Parts) : (PrsP.finish u p).aO = u.aO := by
 cases h1 : p.hq <;> cases h2 : p.hf <;> simp [PrsP.finish, h1, h2]
theorem aiw {fn : Func} {a b : Tmp} {w : World} {g : Nat} {u : U} {p : Value} (h : fn.results = #[.cell a 25, .tmp b]) (hU : UB w g u p) (z : Int) (tmps : Array Value) (h2 : tmps.getD a undef = .pointer (some ⟨g, 0, none⟩)) (h3 : tmps.getD b undef = .int .i64 z) :
  (results fn tmps).run Tryz.prog w = .ok (.tuple #[.agg (cells u p), .int .i64 z]) w := by
 have hp' : tmps[a]?.getD undef = .pointer (some ⟨g, 0, none⟩) := by simpa using h2
 have hq' : tmps[b]?.getD undef = .int .i64 z := by simpa using h3
 simp [results, h, hp', hq', asAddr, hU.load]
def xC (w : World) (o : Option U) (e : Ending) (w' : World) : Prop := Below w.heap.size w w' ∧ ∃ A n c, e = .returned (.tuple #[.agg (cells (o.getD U0) (.slice A n c)), .int .i64 (if o.isSome = true then 0 else 2)]) ∧ Own w w' (o.getD U0) A n c
theorem GY (T : List UInt8) (w : World) (hs : T.length ≤ 65536) (hL : oI w) (hT : Tab.Pow w) (hM : Max w) (hU : rD w) : Calls Tryz.prog 16 #[.string (strOf T), .pointer none] w (xC w (PrsP.url T none)) := by
 have hcl := yF T
 obtain ⟨C, hC⟩ : ∃ x, x = clean T := ⟨_, rfl⟩
 rw [← hC] at hcl
 obtain ⟨p, hp⟩ : ∃ x, x = PrsP.apart C := ⟨_, rfl⟩
 have hpl := Kv C
 rw [← hp] at hpl
 obtain ⟨OR, hOR⟩ : ∃ x, x = PrsP.resolve p none := ⟨_, rfl⟩
 obtain ⟨OU, hOU⟩ : ∃ x, x = PrsP.url T none := ⟨_, rfl⟩
 have HOU : Hid (OU = OR.map fun u => PrsP.finish u p) := by show _ = _; rw [hOU]; unfold PrsP.url; rw [← hC, ← hp, ← hOR]
 rw [← hOU]
 have HCL : Hid (∀ w : World, rD w → Calls Tryz.prog 19 #[.string (strOf T)] w fun e w' => e = .returned (.string (strOf C)) ∧ Below w.heap.size w w') := fun w h => by rw [hC]; exact clean_any T w (by omega) h
 have HAP : Hid (∀ w : World, Max w → Calls Tryz.prog 49 #[.string (strOf C)] w fun e w' => e = .returned (.agg (bQ p)) ∧ Below w.heap.size w w') := fun w h => by rw [hp]; exact qm C w (by omega) h
 have HRS : Hid (∀ w : World, oI w → Tab.Pow w → Max w → Calls Tryz.prog 50 #[.agg (bQ p), .pointer none] w (mO w OR)) := fun w a c d => by rw [hOR]; exact Yq p w (by omega) a c d
 have WC : Hid (∀ (u : U) (A : Option Addr) (n c : Nat) (w : World), Calls Tryz.prog 51 #[.agg (cells u (.slice A n c)), .agg (bQ p)] w fun e w' => e = .returned (.agg (cells (PrsP.finish u p) (.slice A n c))) ∧ Below w.heap.size w w') := fun u A n c w => Gx u p A n c w (by omega) (by omega)
 have hTI : ¬ ((strOf T).size : Int) > 65536 := by rw [size_strOf]; omega
 have hTI2 : ((strOf T).size : Int) ≤ 65536 := by omega
 have HL := hid hL
 have HT := hid hT
 have HM := hid hM
 have HUT := hid hU
 clear hOU hOR hp hC hL hT hM hU hpl hcl
 obtain ⟨s, rt, q, f, hq, hf⟩ := p
 go_enter Tryz.func16, Tryz.ntmps16
 go_upto_region 1 with (fail)
 generalize hw : World.alloc w _ = w1
 have h1 : UB w1 (w.heap.size) (U0) (.slice none 0 0) ∧ Below w.heap.size w w1 := by
  subst hw
  exact laid1 w _ _
 clear hw
 have bP : Hid (w.heap.size ≤ w.heap.size) := (Below.refl w.heap.size w).size
 have bM := hid (bel (Below.refl w.heap.size w) h1.2)
 have aW := hid h1.1
 clear h1
 go_wp2_with fail
 refine (HCL.out _ (HUT.out.below bM.out)).mono ?_
 rintro e w2 ⟨rfl, hbx⟩
 have bK := hid (aW.out.below hbx)
 have eX := hid (bel bM.out hbx)
 clear aW bM
 clear hbx
 go_wp2_with fail
 refine (HAP.out _ (HM.out.below eX.out)).mono ?_
 rintro e w3 ⟨rfl, hbx⟩
 have bD := hid (bK.out.below hbx)
 have cZ := hid (bel eX.out hbx)
 clear bK eX
 clear hbx
 rw [show Value.agg (bQ ⟨s, rt, q, f, hq, hf⟩) = .agg #[.string (strOf s), .string (strOf rt), .string (strOf q), .string (strOf f), .bool hq, .bool hf] from rfl]
 go_upto_region 4 with (fail)
 generalize hw : World.alloc w3 _ = w4
 have h1 : PB w4 (w3.heap.size) (⟨s, rt, q, f, hq, hf⟩) ∧ Below w3.heap.size w3 w4 := by
  subst hw
  exact laid1 w3 _ _
 clear hw
 have hlr := bD.out.lt
 have J9 : Hid (w.heap.size ≠ w3.heap.size) := by show _ ≠ _; omega
 have J8 : Hid (w3.heap.size ≠ w.heap.size) := by show _ ≠ _; omega
 clear hlr
 have WL : Hid (w.heap.size ≤ w3.heap.size) := cZ.out.size
 have bF := hid (bD.out.below h1.2)
 have dD := hid (bel cZ.out h1.2)
 have kT := hid h1.1
 clear bD cZ
 clear h1
 obtain ⟨p0, p1, p2, p3, p4, p5⟩ := kT.out.facts
 go_wp2_with fail
 clear p0 p1 p2 p3 p4 p5
 refine (HRS.out _ (HL.out.below dD.out) (bY HT.out dD.out) (HM.out.below dD.out)).mono ?_
 rintro e w5 ⟨hbx, u', A', n', c', ok, rfl, hown, yK⟩
 have iy : Hid (w.heap.size < w4.heap.size) := bF.out.lt
 have Ib : Hid (w.heap.size ≤ w4.heap.size) := dD.out.size
 have bH := hid (bF.out.below hbx)
 have mF := hid (kT.out.below hbx)
 have fC := hid (bel dD.out hbx)
 have F8 := hid yK
 have ajR := hid (show Own w4 w5 u' A' n' c' from hown)
 clear yK hown
 clear bF kT dD
 clear hbx
 rw [show Value.agg (cells u' (.slice A' n' c')) = .agg #[.string (strOf u'.au), .string (strOf u'.usr), .string (strOf u'.pwd), .string (strOf u'.hst), .bool u'.hh, .int .i64 u'.port, .bool u'.opq, .string (strOf u'.txt), .slice A' n' c', .bool u'.hq, .bool u'.hf, .string (strOf u'.dY), .string (strOf u'.fB)] from rfl]
 go_upto_region 5 with (fail)
 generalize hw : World.alloc w5 _ = w6
 have h1 : UB w6 (w5.heap.size) (u') (.slice A' n' c') ∧ Below w5.heap.size w5 w6 := by
  subst hw
  exact laid1 w5 _ _
 clear hw
 have hlr := bH.out.lt
 have aX : Hid (w.heap.size ≠ w5.heap.size) := by show _ ≠ _; omega
 have nO : Hid (w5.heap.size ≠ w.heap.size) := by show _ ≠ _; omega
 clear hlr
 have hlp := mF.out.lt
 have jf : Hid (w3.heap.size ≠ w5.heap.size) := by show _ ≠ _; omega
 have Ko : Hid (w5.heap.size ≠ w3.heap.size) := by show _ ≠ _; omega
 clear hlp
 have fK : Hid (w.heap.size ≤ w5.heap.size) := fC.out.size
 have bT := hid (bH.out.below h1.2)
 have yg := hid (mF.out.below h1.2)
 have gq := hid (bel fC.out h1.2)
 have bG := hid h1.1
 have HBU := hid h1.2
 clear bH mF fC
 clear h1
 skip
 cases ok with
 | false =>
  have qc : Hid (OU = none) := by
   show _ = _
   rcases F8.out with ⟨_, h⟩ | ⟨h, _⟩
   ·cases h
   ·rw [HOU.out, h]; rfl
  go_wp2_with (refine aC bT.out U0 none 0 0 (.tmp 4) (.tmp 24) rfl rfl rfl rfl ?_)
  try simp only [Exit.inBlock, Exit.then]
  refine bodyPost_ret (w := World.setRow w6 w.heap.size (cells U0 (.slice none 0 0))) (aiw (u := U0) (p := .slice none 0 0) rfl (bT.out.row U0 _) 2 _ rfl rfl) rfl ?_
  rw [qc.out]
  exact ⟨below_setRow gq.out bP.out _, none, 0, 0, rfl, wY _ _ rfl⟩
 | true =>
  have HSO : Hid (OU = some (PrsP.finish u' ⟨s, rt, q, f, hq, hf⟩)) := by
   show _ = _
   rcases F8.out with ⟨h, _⟩ | ⟨_, h, _⟩
   ·rw [HOU.out, h]; rfl
   ·cases h
  have hfp : (PrsP.finish u' ⟨s, rt, q, f, hq, hf⟩).aO = u'.aO := Gy _ _
  obtain ⟨d0, d1, d2, d3, d4, d5, d6, d7, d8, d9, d10, d11, d12⟩ := bG.out.facts
  obtain ⟨p0, p1, p2, p3, p4, p5⟩ := yg.out.facts
  go_wp2_with fail
  clear d0 d1 d2 d3 d4 d5 d6 d7 d8 d9 d10 d11 d12
  clear p0 p1 p2 p3 p4 p5
  skip
  have Tf : Hid (Below w5.heap.size w5 w6) := HBU.out
  refine (WC.out u' A' n' c' _).mono ?_
  rintro e w7 ⟨rfl, hbx⟩
  have dQ := hid (bT.out.below hbx)
  have HXpw7 := hid (yg.out.below hbx)
  have dO := hid (bG.out.below hbx)
  have iU := hid (bel gq.out hbx)
  clear bT yg bG gq
  have ajv := hid hbx
  clear hbx
  have hwn := (ajR.out.below Tf.out).below ajv.out
  go_wp2_with (refine aC dQ.out (PrsP.finish u' ⟨s, rt, q, f, hq, hf⟩) A' n' c' (.tmp 4) (.tmp 27) rfl rfl rfl rfl ?_)
  try simp only [Exit.inBlock, Exit.then]
  have ho := (hwn.row iy.out (cells (PrsP.finish u' ⟨s, rt, q, f, hq, hf⟩) (.slice A' n' c'))).base Ib.out
  refine bodyPost_ret (w := World.setRow w7 w.heap.size (cells (PrsP.finish u' ⟨s, rt, q, f, hq, hf⟩) (.slice A' n' c'))) (aiw (u := PrsP.finish u' ⟨s, rt, q, f, hq, hf⟩) (p := .slice A' n' c') rfl (dQ.out.row _ _) 0 _ rfl rfl) rfl ?_
  rw [HSO.out]
  exact ⟨below_setRow iU.out bP.out _, A', n', c', rfl, by show Own _ _ (PrsP.finish u' ⟨s, rt, q, f, hq, hf⟩) _ _ _; unfold Own; rw [hfp]; exact ho⟩
end Go.Proofs.YtmpeaoacaecgpaaGreatDoor.WQ
namespace Go.Proofs.YtmpeaoacaecgpaaGreatDoor.OpqC
open Go.RowKit Base Regs Base2 dI cO PthG PthH PthJ UrlA PrsP yw tN Fp mW Pbx tK yx jQ sU pO acr vZ TI akb WQ OpqB
theorem VJ (T : List UInt8) (p : Parts) (w : World) (hp : p = PrsP.apart (clean T)) (hs : T.length ≤ 65536) (hs1 : p.au ≠ FILE) (hsp : special p.au = false) (h0 : p.au ≠ []) (h47 : Lib.hasPrefix p.rest [47] = false) (h32 : Lib.hasSuffix (EscE.enc 0 p.rest) [32] = false) (hM : Max w) (hU : rD w) : Calls Tryz.prog 16 #[.string (strOf T), .pointer none] w (xC w (some (PrsP.finish { U0 with au := p.au, port := -1, opq := true, txt := EscE.enc 0 p.rest } p))) := by
 have hcl := yF T
 obtain ⟨C, hC⟩ : ∃ x, x = clean T := ⟨_, rfl⟩
 rw [← hC] at hcl hp
 have hpl := Kv C
 rw [← hp] at hpl
 obtain ⟨UV, hUV⟩ : ∃ x, x = ({ U0 with au := p.au, port := -1, opq := true, txt := EscE.enc 0 p.rest } : U) := ⟨_, rfl⟩
 rw [← hUV]
 obtain ⟨OU, hOU⟩ : ∃ x, x = some (PrsP.finish UV p) := ⟨_, rfl⟩
 rw [← hOU]
 have HCL : Hid (∀ w : World, rD w → Calls Tryz.prog 19 #[.string (strOf T)] w fun e w' => e = .returned (.string (strOf C)) ∧ Below w.heap.size w w') := fun w h => by rw [hC]; exact clean_any T w (by omega) h
 have HAP : Hid (∀ w : World, Max w → Calls Tryz.prog 49 #[.string (strOf C)] w fun e w' => e = .returned (.agg (bQ p)) ∧ Below w.heap.size w w') := fun w h => by rw [hp]; exact qm C w (by omega) h
 have HRS : Hid (∀ w : World, Calls Tryz.prog 50 #[.agg (bQ p), .pointer none] w (mO w (some UV))) := fun w => by rw [hUV]; exact abr p w (by omega) hs1 hsp h0 h47 h32
 have WC : Hid (∀ (u : U) (A : Option Addr) (n c : Nat) (w : World), Calls Tryz.prog 51 #[.agg (cells u (.slice A n c)), .agg (bQ p)] w fun e w' => e = .returned (.agg (cells (PrsP.finish u p) (.slice A n c))) ∧ Below w.heap.size w w') := fun u A n c w => Gx u p A n c w (by omega) (by omega)
 have hTI : ¬ ((strOf T).size : Int) > 65536 := by rw [size_strOf]; omega
 have hTI2 : ((strOf T).size : Int) ≤ 65536 := by omega
 have HOU := hid hOU
 have HM := hid hM
 have HUT := hid hU
 clear hOU hp hC hM hU hpl hcl hs1 hsp h0 h47 h32 hUV
 obtain ⟨s, rt, q, f, hq, hf⟩ := p
 go_enter Tryz.func16, Tryz.ntmps16
 go_upto_region 1 with (fail)
 generalize hw : World.alloc w _ = w1
 have h1 : UB w1 (w.heap.size) (U0) (.slice none 0 0) ∧ Below w.heap.size w w1 := by
  subst hw
  exact laid1 w _ _
 clear hw
 have bP : Hid (w.heap.size ≤ w.heap.size) := (Below.refl w.heap.size w).size
 have bM := hid (bel (Below.refl w.heap.size w) h1.2)
 have aW := hid h1.1
 clear h1
 go_wp2_with fail
 refine (HCL.out _ (HUT.out.below bM.out)).mono ?_
 rintro e w2 ⟨rfl, hbx⟩
 have bK := hid (aW.out.below hbx)
 have eX := hid (bel bM.out hbx)
 clear aW bM
 clear hbx
 go_wp2_with fail
 refine (HAP.out _ (HM.out.below eX.out)).mono ?_
 rintro e w3 ⟨rfl, hbx⟩
 have bD := hid (bK.out.below hbx)
 have cZ := hid (bel eX.out hbx)
 clear bK eX
 clear hbx
 rw [show Value.agg (bQ ⟨s, rt, q, f, hq, hf⟩) = .agg #[.string (strOf s), .string (strOf rt), .string (strOf q), .string (strOf f), .bool hq, .bool hf] from rfl]
 go_upto_region 4 with (fail)
 generalize hw : World.alloc w3 _ = w4
 have h1 : PB w4 (w3.heap.size) (⟨s, rt, q, f, hq, hf⟩) ∧ Below w3.heap.size w3 w4 := by
  subst hw
  exact laid1 w3 _ _
 clear hw
 have hlr := bD.out.lt
 have J9 : Hid (w.heap.size ≠ w3.heap.size) := by show _ ≠ _; omega
 have J8 : Hid (w3.heap.size ≠ w.heap.size) := by show _ ≠ _; omega
 clear hlr
 have WL : Hid (w.heap.size ≤ w3.heap.size) := cZ.out.size
 have bF := hid (bD.out.below h1.2)
 have dD := hid (bel cZ.out h1.2)
 have kT := hid h1.1
 clear bD cZ
 clear h1
 obtain ⟨p0, p1, p2, p3, p4, p5⟩ := kT.out.facts
 go_wp2_with fail
 clear p0 p1 p2 p3 p4 p5
 refine (HRS.out _).mono ?_
 rintro e w5 ⟨hbx, u', A', n', c', ok, rfl, hown, yK⟩
 have iy : Hid (w.heap.size < w4.heap.size) := bF.out.lt
 have Ib : Hid (w.heap.size ≤ w4.heap.size) := dD.out.size
 have bH := hid (bF.out.below hbx)
 have mF := hid (kT.out.below hbx)
 have fC := hid (bel dD.out hbx)
 have F8 := hid yK
 have ajR := hid (show Own w4 w5 u' A' n' c' from hown)
 clear yK hown
 clear bF kT dD
 clear hbx
 rw [show Value.agg (cells u' (.slice A' n' c')) = .agg #[.string (strOf u'.au), .string (strOf u'.usr), .string (strOf u'.pwd), .string (strOf u'.hst), .bool u'.hh, .int .i64 u'.port, .bool u'.opq, .string (strOf u'.txt), .slice A' n' c', .bool u'.hq, .bool u'.hf, .string (strOf u'.dY), .string (strOf u'.fB)] from rfl]
 go_upto_region 5 with (fail)
 generalize hw : World.alloc w5 _ = w6
 have h1 : UB w6 (w5.heap.size) (u') (.slice A' n' c') ∧ Below w5.heap.size w5 w6 := by
  subst hw
  exact laid1 w5 _ _
 clear hw
 have hlr := bH.out.lt
 have aX : Hid (w.heap.size ≠ w5.heap.size) := by show _ ≠ _; omega
 have nO : Hid (w5.heap.size ≠ w.heap.size) := by show _ ≠ _; omega
 clear hlr
 have hlp := mF.out.lt
 have jf : Hid (w3.heap.size ≠ w5.heap.size) := by show _ ≠ _; omega
 have Ko : Hid (w5.heap.size ≠ w3.heap.size) := by show _ ≠ _; omega
 clear hlp
 have fK : Hid (w.heap.size ≤ w5.heap.size) := fC.out.size
 have bT := hid (bH.out.below h1.2)
 have yg := hid (mF.out.below h1.2)
 have gq := hid (bel fC.out h1.2)
 have bG := hid h1.1
 have HBU := hid h1.2
 clear bH mF fC
 clear h1
 obtain ⟨rfl, rfl⟩ : ok = true ∧ u' = UV := by
  rcases F8.out with ⟨h1, h⟩ | ⟨h1, _⟩
  ·injection h1 with h1; exact ⟨h, h1.symm⟩
  ·cases h1
 have HSO := HOU
 have hfp : (PrsP.finish u' ⟨s, rt, q, f, hq, hf⟩).aO = u'.aO := Gy _ _
 obtain ⟨d0, d1, d2, d3, d4, d5, d6, d7, d8, d9, d10, d11, d12⟩ := bG.out.facts
 obtain ⟨p0, p1, p2, p3, p4, p5⟩ := yg.out.facts
 go_wp2_with fail
 clear d0 d1 d2 d3 d4 d5 d6 d7 d8 d9 d10 d11 d12
 clear p0 p1 p2 p3 p4 p5
 have Tf : Hid (Below w5.heap.size w5 w6) := HBU.out
 refine (WC.out u' A' n' c' _).mono ?_
 rintro e w7 ⟨rfl, hbx⟩
 have dQ := hid (bT.out.below hbx)
 have HXpw7 := hid (yg.out.below hbx)
 have dO := hid (bG.out.below hbx)
 have iU := hid (bel gq.out hbx)
 clear bT yg bG gq
 have ajv := hid hbx
 clear hbx
 have hwn := (ajR.out.below Tf.out).below ajv.out
 go_wp2_with (refine aC dQ.out (PrsP.finish u' ⟨s, rt, q, f, hq, hf⟩) A' n' c' (.tmp 4) (.tmp 27) rfl rfl rfl rfl ?_)
 try simp only [Exit.inBlock, Exit.then]
 have ho := (hwn.row iy.out (cells (PrsP.finish u' ⟨s, rt, q, f, hq, hf⟩) (.slice A' n' c'))).base Ib.out
 refine bodyPost_ret (w := World.setRow w7 w.heap.size (cells (PrsP.finish u' ⟨s, rt, q, f, hq, hf⟩) (.slice A' n' c'))) (aiw (u := PrsP.finish u' ⟨s, rt, q, f, hq, hf⟩) (p := .slice A' n' c') rfl (dQ.out.row _ _) 0 _ rfl rfl) rfl ?_
 rw [HSO.out]
 exact ⟨below_setRow iU.out bP.out _, A', n', c', rfl, by show Own _ _ (PrsP.finish u' ⟨s, rt, q, f, hq, hf⟩) _ _ _; unfold Own; rw [hfp]; exact ho⟩
end Go.Proofs.YtmpeaoacaecgpaaGreatDoor.OpqC
namespace Go.Proofs.YtmpeaoacaecgpaaGreatDoor.agU
open Go.RowKit Base qh BI cO PthP PthE PthG PthJ UrlA HstP PrsP
theorem jY {α : Type} {c : Prop} [Decidable c] {x : Option α} {u : α} (h : (if c then none else x) = some u) : ¬ c ∧ x = some u := by
 by_cases hc : c
 ·rw [if_pos hc] at h; cases h
 ·rw [if_neg hc] at h; exact ⟨hc, h⟩
end Go.Proofs.YtmpeaoacaecgpaaGreatDoor.agU
namespace Go.Proofs.YtmpeaoacaecgpaaGreatDoor.Hz
open Go.RowKit Base zD EscE fU dI
theorem zW (k : Int) (hk : k ≠ 6) (n : Nat) (h : n < 16) : ji k (EscE.jR n).toNat = false := by
 by_cases ho : k < 0 ∨ 6 < k
 ·exact Oc k _ ho
 ·have H : ∀ (a : Fin 6) (b : Fin 16), ji (a.val : Int) ((EscE.jR b.val).toNat : Int) = false := by decide
  have := H ⟨k.toNat, by omega⟩ ⟨n, h⟩
  simpa [Int.toNat_of_nonneg (show 0 ≤ k by omega)] using this
theorem Oq (k : Int) (hk : k ≠ 6) : ji k ((37 : UInt8).toNat : Int) = false := by
 by_cases ho : k < 0 ∨ 6 < k
 ·exact Oc k _ ho
 ·have H : ∀ (a : Fin 6), ji (a.val : Int) ((37 : UInt8).toNat : Int) = false := by decide
  have := H ⟨k.toNat, by omega⟩
  simpa [Int.toNat_of_nonneg (show 0 ≤ k by omega)] using this
theorem fA (k : Int) (c : UInt8) (L : List UInt8) : enc k (c :: L) = one k c ++ enc k L := by simp [enc]
theorem lV (k : Int) (L : List UInt8) (h : ∀ c ∈ L, ji k c.toNat = false) : enc k L = L := by
 induction L with
 | nil => rfl
 | cons c L ih =>
  rw [fA, ih (fun d hd => h d (by simp [hd]))]
  unfold one
  rw [h c (by simp)]
  rfl
theorem Aj (k : Int) (hk : k ≠ 6) (c : UInt8) : ∀ d ∈ one k c, ji k d.toNat = false := by
 intro d hd
 have hc := c.toNat_lt
 unfold one at hd
 split at hd
 ·simp only [List.mem_cons, List.not_mem_nil, or_false] at hd
  rcases hd with rfl | rfl | rfl
  ·exact Oq k hk
  ·exact zW k hk _ (by omega)
  ·exact zW k hk _ (by omega)
 ·rename_i hn
  simp only [List.mem_cons, List.not_mem_nil, or_false] at hd
  subst hd
  simpa using hn
theorem XD (k : Int) (hk : k ≠ 6) (L : List UInt8) : enc k (enc k L) = enc k L := by
 refine lV k _ fun d hd => ?_
 simp only [enc, List.mem_flatMap] at hd
 obtain ⟨c, _, hd⟩ := hd
 exact Aj k hk c d hd
theorem zZ (x : UInt8) (t : List UInt8) (h : x ≠ 37) : esc (x :: t) = none := by
 match t with
 | [] => rfl
 | [_] => rfl
 | _ :: _ :: _ => rw [esc, if_neg (fun e => h e.1)]
end Go.Proofs.YtmpeaoacaecgpaaGreatDoor.Hz
namespace Go.Proofs.YtmpeaoacaecgpaaGreatDoor.J5
open Go.RowKit Base dI cO oO wu WU akq HstP WJ
theorem dn {p : UInt8 → Prop} [∀ c, Decidable (p c)] (h : ∀ n : Fin 256, p (UInt8.ofNat n.val)) (c : UInt8) : p c := by
 have := h ⟨c.toNat, c.toNat_lt⟩
 simpa using this
theorem XY (c : UInt8) : low (low c) = low c := dn (p := fun c => low (low c) = low c) (by decide +kernel) c
theorem wV (L : List UInt8) : lower (lower L) = lower L := by
 unfold lower
 rw [List.map_map]
 exact List.map_congr_left fun c _ => XY c
theorem ahQ (c : UInt8) (h : lH 16 c = true) : 33 ≤ c.toNat ∧ c.toNat ≤ 126 := by
 have := dn (p := fun c => lH 16 c = true → 33 ≤ c.toNat ∧ c.toNat ≤ 126) (by decide +kernel) c
 exact this h
theorem ahO (c : UInt8) (h : lH 10 c = true) : okb true c = true ∧ low c = c ∧ c ≠ 37 := by
 have := dn (p := fun c => lH 10 c = true → okb true c = true ∧ low c = c ∧ c ≠ 37) (by decide +kernel) c
 exact this h
theorem lM (c : UInt8) (h : okb true c = true) : 33 ≤ c.toNat ∧ c.toNat ≤ 126 ∧ JU true c = false ∧ c ≠ 91 ∧ c ≠ 37 := by
 have := dn (p := fun c => okb true c = true → 33 ≤ c.toNat ∧ c.toNat ≤ 126 ∧ JU true c = false ∧ c ≠ 91 ∧ c ≠ 37) (by decide +kernel) c
 exact this h
theorem KP {x : UInt8} : ∀ (ws : List (List UInt8)), x ∈ jo ws → x = 58 ∨ ∃ v ∈ ws, x ∈ v
 | [], h => by simp [jo] at h
 | [v], h => .inr ⟨v, by simp, h⟩
 | v :: u :: r, h => by
  have h' : x ∈ v ++ 58 :: jo (u :: r) := h
  rcases List.mem_append.1 h' with h1 | h1
  ·exact .inr ⟨v, by simp, h1⟩
  ·rcases List.mem_cons.1 h1 with h2 | h2
   ·exact .inl h2
   ·rcases KP (u :: r) h2 with h3 | ⟨t, ht, hx⟩
    ·exact .inl h3
    ·exact .inr ⟨t, by simp at ht ⊢; exact .inr ht, hx⟩
theorem adS {x : UInt8} {L : List Nat} (hL : ∀ n ∈ L, n < 65536) (h : x ∈ jx L) : 33 ≤ x.toNat ∧ x.toNat ≤ 126 := by
 unfold jx at h
 rcases KP _ h with rfl | ⟨v, hv, hx⟩
 ·decide
 ·obtain ⟨n, hn, rfl⟩ := List.mem_map.1 hv
  exact ahQ x (List.all_eq_true.1 (IZ n n (Nat.le_refl _) (hL n hn)).1 x hx)
theorem prt_mem {x : UInt8} {f : Nat → Nat} (h6 : ∀ i, f i < 65536) (h : x ∈ nP.prt f) : 33 ≤ x.toNat ∧ x.toNat ≤ 126 := by
 have hV := nP.W9 h6
 unfold nP.prt at h
 split at h
 ·exact adS hV h
 ·simp only [List.mem_append, List.mem_cons, List.not_mem_nil, or_false] at h
  rcases h with (h | rfl | rfl) | h
  ·exact adS (fun n hn => hV n (List.mem_of_mem_take hn)) h
  ·decide
  ·decide
  ·exact adS (fun n hn => hV n (List.mem_of_mem_drop hn)) h
theorem U4 : ∀ (L : List UInt8), (∀ c ∈ L, c ≠ 37) → fU.dec L = L
 | [], _ => rfl
 | c :: L, h => by
  rw [fU.kJ c L (Hz.zZ c L (h c (by simp))), U4 L fun d hd => h d (by simp [hd])]
theorem EO {d : Bool} {L : List UInt8} (h : oks d L = true) {c : UInt8} (hc : c ∈ L) : okb d c = true := List.all_eq_true.1 h c hc
theorem amL {d : Bool} {L : List UInt8} (h : ∀ c ∈ L, okb d c = true) : oks d L = true := List.all_eq_true.2 h
theorem amK {L : List UInt8} (h : oks true L = true) : L.head? ≠ some 91 := by
 intro e
 cases L with
 | nil => cases e
 | cons c r =>
  simp at e
  exact (lM c (EO h (by simp))).2.2.2.1 e
theorem am6 {c : UInt8} (n : Nat) (h : c ∈ Gl.pr n) : okb true c = true ∧ low c = c ∧ c ≠ 37 := by
 have hd : ∀ m : Nat, c ∈ Lib.decDigits m → okb true c = true ∧ low c = c ∧ c ≠ 37 := fun m hm =>
  ahO c (List.all_eq_true.1 (agV.N8 (m + 1) m (by omega)).2 c hm)
 rw [agV.af9] at h
 simp only [List.mem_append, List.mem_cons] at h
 rcases h with h | rfl | h | rfl | h | rfl | h
 ·exact hd _ h
 ·decide
 ·exact hd _ h
 ·decide
 ·exact hd _ h
 ·decide
 ·exact hd _ h
theorem pr_ne (n : Nat) : Gl.pr n ≠ [] := by
 obtain ⟨c, r, h, _⟩ := agV.pr_head n
 rw [h]
 simp
theorem al4 {M : List UInt8} (ho : oks true M = true) (hl : lower M = M) : hst M true = XB M := by
 unfold hst
 rw [if_neg (amK ho), if_pos rfl, U4 M fun c hc => (lM c (EO ho hc)).2.2.2.2]
 unfold SL
 rw [if_pos ho, hl]
def Good (sp : Bool) (R : List UInt8) : Prop := hst R sp = some R ∧ (∀ c ∈ R, 33 ≤ c.toNat ∧ c.toNat ≤ 126) ∧ (R.head? ≠ some 91 → ∀ c ∈ R, JU sp c = false)
theorem afv {R : List UInt8} (ho : oks true R = true) (hl : lower R = R) (hd : XB R = some R) : Good true R :=
 ⟨by rw [al4 ho hl, hd], fun c hc => ⟨(lM c (EO ho hc)).1, (lM c (EO ho hc)).2.1⟩, fun _ c hc => (lM c (EO ho hc)).2.2.1⟩
theorem alk {L : List UInt8} (ho : oks false L = true) {c : UInt8} (h : c ∈ EscE.enc 0 L) : U1 c = false ∧ 33 ≤ c.toNat ∧ c.toNat ≤ 126 := by
 unfold EscE.enc at h
 obtain ⟨x, hx, hc⟩ := List.mem_flatMap.1 h
 have hb := EO ho hx
 have H := dn (p := fun x => okb false x = true → ∀ c ∈ EscE.one 0 x, U1 c = false ∧ 33 ≤ c.toNat ∧ c.toNat ≤ 126) (by decide +kernel) x
 exact H hb c hc
theorem Qw {s : List UInt8} {sp : Bool} {R : List UInt8} (h : hst s sp = some R) : Good sp R := by
 unfold hst at h
 split at h
 ·unfold hbr at h
  split at h
  ·unfold addr at h
   split at h
   ·cases h
   ·rename_i V hv
    injection h with h
    obtain ⟨f, rfl, h6⟩ := Yw hv
    rw [Ov] at h
    subst h
    refine ⟨?_, ?_, ?_⟩
    ·unfold hst
     rw [if_pos (show (91 :: (nP.prt f ++ [93])).head? = some 91 from rfl)]
     show hbr (nP.prt f ++ [93]) = _
     have hs : Lib.hasSuffix (nP.prt f ++ [93]) [93] = true := by
      unfold Lib.hasSuffix
      rw [List.isSuffixOf_iff_suffix]
      exact ⟨_, rfl⟩
     have ht : Lib.trimSuffix (nP.prt f ++ [93]) [93] = nP.prt f := by
      unfold Lib.trimSuffix
      rw [if_pos hs]
      simp
     unfold hbr
     rw [if_pos hs, ht]
     unfold addr
     rw [six_prt f h6]
     show some (91 :: (am8 (V8 f) ++ [93])) = _
     rw [Ov]
    ·intro c hc
     simp only [List.mem_cons, List.mem_append, List.not_mem_nil, or_false] at hc
     rcases hc with rfl | hc | rfl
     ·decide
     ·exact prt_mem h6 hc
     ·decide
    ·intro hn
     exact absurd rfl hn
  ·cases h
 ·split at h
  ·rename_i hsp
   subst hsp
   unfold SL at h
   split at h
   ·rename_i ho
    have ho2 : oks true (lower (fU.dec s)) = true := by rw [VF]; exact ho
    unfold XB at h
    split at h
    ·cases h
    ·rename_i hne
     split at h
     ·rename_i he
      cases hp : NR (lower (fU.dec s)) with
      | none => rw [hp] at h; cases h
      | some n =>
       rw [hp] at h
       injection h with h
       subst h
       have hn := Ri hp
       refine afv (amL fun c hc => (am6 n hc).1) ?_ ?_
       ·unfold lower
        conv => rhs; rw [← List.map_id (Gl.pr n)]
        exact List.map_congr_left fun c hc => (am6 n hc).2.1
       ·unfold XB
        rw [if_neg (pr_ne n), if_pos (agV.ends_pr n), agV.prs_pr n hn]
        rfl
     ·rename_i he
      injection h with h
      subst h
      refine afv ho2 (wV _) ?_
      unfold XB
      rw [if_neg hne, if_neg he]
   ·cases h
  ·rename_i hsp
   have hsp' : sp = false := by simpa using hsp
   subst hsp'
   unfold zA at h
   split at h
   ·rename_i ho
    injection h with h
    subst h
    have hm := fun c hc => alk ho (c := c) hc
    refine ⟨?_, fun c hc => (hm c hc).2, fun _ c hc => by rw [Vd]; exact (hm c hc).1⟩
    unfold hst
    rw [if_neg, if_neg (by simp)]
    ·unfold zA
     rw [if_pos (amL fun c hc => by rw [ahY, (hm c hc).1]; rfl), Hz.XD 0 (by decide)]
    ·intro e
     cases hE : EscE.enc 0 s with
     | nil => rw [hE] at e; cases e
     | cons a r =>
      rw [hE] at e
      simp at e
      subst e
      have := (hm 91 (by rw [hE]; simp)).1
      revert this
      decide
   ·cases h
theorem aaA {s : List UInt8} {sp : Bool} {R : List UInt8} (h : hst s sp = some R) : R.length ≤ 3 * s.length + 200 := by
 unfold hst at h
 split at h
 ·unfold hbr at h
  split at h
  ·unfold addr at h
   split at h
   ·cases h
   ·injection h with h
    subst h
    simp only [List.length_cons, List.length_append, List.length_nil]
    unfold am8
    rename_i V _
    have := agb (fun i => V.getD i 0)
    omega
  ·cases h
 ·split at h
  ·unfold SL at h
   split at h
   ·unfold XB at h
    split at h
    ·cases h
    ·split at h
     ·cases hp : NR (lower (fU.dec s)) with
      | none => rw [hp] at h; cases h
      | some n =>
       rw [hp] at h
       injection h with h
       subst h
       have := Gl.pr_len n (Ri hp)
       omega
     ·injection h with h
      subst h
      have := fU.ku s
      simp [lower]
      omega
   ·cases h
  ·unfold zA at h
   split at h
   ·injection h with h
    subst h
    have := EscE.iW 0 s
    omega
   ·cases h
end Go.Proofs.YtmpeaoacaecgpaaGreatDoor.J5
namespace Go.Proofs.YtmpeaoacaecgpaaGreatDoor.acK
open Go.RowKit Base zD qh BI acU acr cO PthP PthE PthG PthJ UrlA HstP PrsP agU
theorem abk (x : UInt8) (t : List UInt8) (h : x.toNat ≤ 127) : rd (x :: t) = ((x.toNat : Int), 1, true) := by
 simp only [rd]
 rw [if_pos (by omega)]
theorem ahi (x : UInt8) (t : List UInt8) (h : x.toNat ≤ 127) : dec (x :: t) = (x.toNat : Int) :: dec t := by
 rw [iK, abk x t h]
 rfl
theorem E5 (x : UInt8) (b : List UInt8) (hx : x.toNat ≤ 127) : ∀ (m k : Nat) (l h r : Int) (t : List UInt8), 128 ≤ l → tail m k l h r (t ++ x :: b) = tail m k l h r t
 | 0, _, _, _, _, _, _ => by simp [tail]
 | m + 1, k, l, h, r, [], hl => by
  simp only [List.nil_append, tail]
  rw [if_pos (by omega)]
 | m + 1, k, l, h, r, c :: t, hl => by
  simp only [List.cons_append, tail]
  split
  ·rfl
  ·exact E5 x b hx m (k + 1) 128 191 _ t (by omega)
theorem lo_ge (c : Int) (h1 : 194 ≤ c) (h2 : c ≤ 244) : 128 ≤ lo c := by unfold lo; (repeat' split) <;> omega
theorem rd_stop (y : UInt8) (t : List UInt8) (x : UInt8) (b : List UInt8) (hx : x.toNat ≤ 127) : rd (y :: t ++ x :: b) = rd (y :: t) := by
 simp only [List.cons_append, rd]
 by_cases h1 : (y.toNat : Int) ≤ 127
 ·rw [if_pos h1, if_pos h1]
 rw [if_neg h1, if_neg h1]
 by_cases h2 : (y.toNat : Int) ≤ 193 ∨ 245 ≤ (y.toNat : Int)
 ·rw [if_pos h2, if_pos h2]
 rw [if_neg h2, if_neg h2]
 have hl := lo_ge (y.toNat : Int) (by omega) (by omega)
 split
 ·exact E5 x b hx _ _ _ _ _ _ hl
 split
 ·exact E5 x b hx _ _ _ _ _ _ hl
 ·exact E5 x b hx _ _ _ _ _ _ hl
theorem Qb (x : UInt8) (b : List UInt8) (hx : x.toNat ≤ 127) : ∀ (n : Nat) (a : List UInt8), a.length ≤ n → dec (a ++ x :: b) = dec a ++ (x.toNat : Int) :: dec b
 | _, [], _ => by rw [List.nil_append, ahi x b hx]; rfl
 | 0, _ :: _, h => by simp at h
 | n + 1, y :: t, hl => by
  have hs := nJ y t
  have hd : (y :: t ++ x :: b).drop (rd (y :: t)).2.1.toNat = (y :: t).drop (rd (y :: t)).2.1.toNat ++ x :: b := by
   rw [List.drop_append_of_le_length]
   simp only [List.length_cons]; omega
  have e : dec (y :: t ++ x :: b) = (rd (y :: t)).1 :: dec ((y :: t).drop (rd (y :: t)).2.1.toNat ++ x :: b) := by
   rw [List.cons_append, iK, ← List.cons_append, rd_stop y t x b hx, hd]
  rw [e, Qb x b hx n _ (by simp only [List.length_drop, List.length_cons] at hl ⊢; omega), iK y t]
  rfl
theorem ahp (x : UInt8) (h : x.toNat ≤ 127) : Lib.encodeRune (x.toNat : Int) = [x] := by
 rw [enc1 _ (by omega) (by omega), u_of]
def ED (L : List UInt8) : List UInt8 := enc (dec L)
theorem rG (L : List UInt8) : clean L = (ru (ED L)).filter fun c => !brk c := rfl
theorem xX (a : List UInt8) (x : UInt8) (b : List UInt8) (hx : x.toNat ≤ 127) : ED (a ++ x :: b) = ED a ++ x :: ED b := by
 unfold ED
 rw [Qb x b hx _ a (Nat.le_refl _), iQ, fA, ahp x hx]
 rfl
theorem ajn : ED [] = [] := rfl
theorem oL : ∀ L : List UInt8, (∀ c ∈ L, c.toNat ≤ 127) → ED L = L
 | [], _ => rfl
 | x :: t, h => by
  have := xX [] x t (h x (by simp))
  rw [List.nil_append, ajn, List.nil_append] at this
  rw [this, oL t (fun c hc => h c (by simp [hc]))]
theorem Xp (t : UInt8) (h : brk t = true) : fO t = true ∧ t.toNat ≤ 127 := by
 unfold brk at h
 simp only [Bool.or_eq_true, decide_eq_true_eq] at h
 rcases h with rfl | rfl | rfl <;> decide
theorem afO (c : UInt8) (h : fO c = false) : brk c = false := by
 cases hb : brk c
 ·rfl
 ·rw [(Xp c hb).1] at h; cases h
theorem iP (b : UInt8) : ∀ L : List UInt8, (∀ c ∈ L, c ≠ b) → fG b L = (L, [], false)
 | [], _ => rfl
 | c :: L, h => by rw [fG, if_neg (h c (by simp)), iP b L (fun d hd => h d (by simp [hd]))]
theorem kW (b : UInt8) : ∀ (L M : List UInt8), (∀ c ∈ L, c ≠ b) → fG b (L ++ b :: M) = (L, M, true)
 | [], M, _ => by rw [List.nil_append, fG, if_pos rfl]
 | c :: L, M, h => by rw [List.cons_append, fG, if_neg (h c (by simp)), kW b L M (fun d hd => h d (by simp [hd]))]
end Go.Proofs.YtmpeaoacaecgpaaGreatDoor.acK
namespace Go.Proofs.YtmpeaoacaecgpaaGreatDoor.PrsU
open Go.RowKit Base qh BI cO PthP PthE PthG PthJ UrlA HstP PrsP agU acK
theorem Io (b : UInt8) : ∀ L : List UInt8, (∀ c ∈ (fG b L).1, c ∈ L) ∧ ∀ c ∈ (fG b L).2.1, c ∈ L
 | [] => by simp [fG]
 | x :: L => by
  have ih := Io b L
  unfold fG
  split
  ·exact ⟨fun c hc => by simp at hc, fun c hc => by simp only at hc; simp [hc]⟩
  ·refine ⟨fun c hc => ?_, fun c hc => ?_⟩
   ·simp only [List.mem_cons] at hc ⊢
    rcases hc with h | h
    ·exact .inl h
    ·exact .inr (ih.1 c h)
   ·simp only at hc
    simp [ih.2 c hc]
theorem RX {L : List UInt8} {c : UInt8} (h : Lib.hasSuffix L [c] = true) : c ∈ L := by
 unfold Lib.hasSuffix at h
 have := List.isSuffixOf_iff_suffix.1 h
 exact this.subset (by simp)
end Go.Proofs.YtmpeaoacaecgpaaGreatDoor.PrsU
namespace Go.Proofs.YtmpeaoacaecgpaaGreatDoor.oN
open Go.RowKit Base cO PthP PthE WR PthG PthJ UrlA HstP PrsP agU
def pl (l : List ByteArray) : Nat := (aZ.aO l).length
structure Fit (u : U) (N : Nat) : Prop where
 all : u.au.length + u.usr.length + u.pwd.length + u.hst.length + u.txt.length + u.dY.length + u.fB.length + pl u.aO ≤ N
 lo : -1 ≤ u.port
 hi : u.port ≤ 65535
theorem Fit.mono {u : U} {N M : Nat} (h : Fit u N) (hm : N ≤ M) : Fit u M := ⟨Nat.le_trans h.all hm, h.lo, h.hi⟩
theorem Q5 : pl [] = 0 := rfl
theorem X9 (l : List ByteArray) (s : ByteArray) : pl (l ++ [s]) = pl l + 1 + s.size := by
 unfold pl
 rw [aZ.abf, List.length_append, List.length_cons, show s.data.toList.length = s.size from Array.length_toList]
 omega
theorem af6 (l : List ByteArray) (k : Nat) : pl (l.take k) ≤ pl l := by
 unfold pl
 rw [aZ.fM, aZ.fM, List.length_take]
 have := aZ.pK l k
 omega
theorem aed (f : Bool) (l : List ByteArray) : pl (mM f l) ≤ pl l := by
 unfold mM
 split
 ·exact Nat.le_refl _
 ·exact af6 _ _
theorem wr_len (f : Bool) (L : List UInt8) : (wr f L).length ≤ 3 * L.length + 1 := by
 unfold wr
 split
 ·simp only [List.length_append, List.length_take, List.length_cons, List.length_nil]; omega
 ·have := EscE.iW 4 L; omega
theorem amX (f last : Bool) (l : List ByteArray) (L : List UInt8) : pl (Hu f last l L) ≤ pl l + 3 * L.length + 2 := by
 have h0 : (strOf ([] : List UInt8)).size = 0 := rfl
 have h1 := aed f l
 unfold Hu
 split
 ·split
  ·rw [X9, h0]; omega
  ·omega
 split
 ·split
  ·rw [X9, h0]; omega
  ·omega
 ·have := wr_len (f && l.isEmpty) L
  rw [X9, size_strOf]
  omega
theorem amY (f sp : Bool) : ∀ (M : List UInt8) (l : List ByteArray) (b : List UInt8), pl (wb f sp l b M) ≤ pl l + 3 * (b.length + M.length) + 2 * (M.length + 1)
 | [], l, b => by
  have := amX f true l b
  unfold wb
  simp only [List.length_nil]
  omega
 | c :: M, l, b => by
  unfold wb
  split
  ·have h1 := amY f sp M (Hu f false l b) []
   have h2 := amX f false l b
   simp only [List.length_nil, List.length_cons] at h1 ⊢
   omega
  ·have h1 := amY f sp M l (b ++ [c])
   simp only [List.length_append, List.length_nil, List.length_cons] at h1 ⊢
   omega
theorem EP (au : List UInt8) (l : List ByteArray) (s : List UInt8) : pl (walk au l s) ≤ pl l + 5 * s.length + 2 := by
 have := amY (decide (au = FILE)) (special au) s l []
 unfold walk
 simp only [List.length_nil] at this
 omega
theorem yV (au s : List UInt8) : pl (rooted au s) ≤ 5 * s.length + 2 := by
 unfold rooted
 split
 ·rw [Q5]; omega
 ·have h := EP au [] (if rU (special au) s 0 = true then s.drop 1 else s)
  have h2 : (if rU (special au) s 0 = true then s.drop 1 else s).length ≤ s.length := by
   split
   ·rw [List.length_drop]; omega
   ·exact Nat.le_refl _
  rw [Q5] at h
  omega
theorem zT (b : UInt8) : ∀ L : List UInt8, (fG b L).1.length ≤ L.length ∧ (fG b L).2.1.length ≤ L.length
 | [] => by simp [fG]
 | c :: L => by
  have h := zT b L
  unfold fG
  split
  ·simp
  ·simp only [List.length_cons]
   omega
theorem Ip (b : UInt8) : ∀ L : List UInt8, (fG b L).1.length + (fG b L).2.1.length ≤ L.length
 | [] => by simp [fG]
 | c :: L => by
  have h := Ip b L
  unfold fG
  split
  ·simp
  ·simp only [List.length_cons]
   omega
theorem QF : ∀ (L : List UInt8) (p : List UInt8 × List UInt8), nV L = some p → p.1.length + p.2.length + 1 ≤ L.length
 | [], p, h => by cases h
 | c :: L, p, h => by
  unfold nV at h
  split at h
  ·rename_i q hq
   have := QF L q hq
   cases h
   simp only [List.length_cons]
   omega
  ·split at h
   ·cases h
    simp
   ·cases h
theorem ak1 (s : List UInt8) : (jL s).1.length + (jL s).2.1.length + 3 * (jL s).2.2.1.length ≤ 3 * s.length := by
 unfold jL
 split
 ·simp
 ·rename_i p hp
  have h1 := QF s p hp
  have h2 := Ip 58 p.1
  have h3 := EscE.iW 5 (fG 58 p.1).1
  have h4 := EscE.iW 5 (fG 58 p.1).2.1
  simp only
  omega
theorem prt_fit {au d : List UInt8} {z : Int} (h : prt au d = some z) : -1 ≤ z ∧ z ≤ 65535 := by
 unfold prt at h
 split at h
 ·cases h; omega
 split at h
 ·split at h
  ·cases h; omega
  split at h
  ·cases h; omega
  ·cases h
 ·cases h
theorem qQ {au s : List UInt8} {u : U} {N : Nat} (h : authority au s = some u) (hN : au.length + 5 * s.length + 300 ≤ N) : Fit u N := by
 unfold authority at h
 obtain ⟨_, h⟩ := jY h
 obtain ⟨_, h⟩ := jY h
 have hw : (s.take (upto (special au) s)).length + (s.drop (upto (special au) s)).length = s.length := by rw [List.length_take, List.length_drop]; omega
 have hc := ak1 (s.take (upto (special au) s))
 have hh := tN.EJ (jL (s.take (upto (special au) s))).2.2.1 false
 have hr := yV au (s.drop (upto (special au) s))
 split at h
 ·rename_i H p e1 e2
  have h1 := J5.aaA e1
  have h2 := prt_fit e2
  cases h
  refine ⟨?_, h2.1, h2.2⟩
  simp only [U0, List.length_nil]
  omega
 ·cases h
theorem adK {b : U} {N M : Nat} (hb : Fit b M) (l : List ByteArray) (hl : M + pl l ≤ N) : Fit { aH b with aO := l } N := by
 have := hb.all
 refine ⟨?_, hb.lo, hb.hi⟩
 simp only [aH, U0, List.length_nil]
 omega
theorem Dv {b : U} {N M : Nat} (hb : Fit b M) (l : List ByteArray) (hl : M + (pl l - pl b.aO) ≤ N) : Fit { aH b with aO := l } N := by
 have := hb.all
 refine ⟨?_, hb.lo, hb.hi⟩
 simp only [aH, U0, List.length_nil]
 omega
theorem UK {b : U} {M : Nat} (hb : Fit b M) : Fit (along (aH b) b) M := by
 have := hb.all
 refine ⟨?_, hb.lo, hb.hi⟩
 simp only [along, aH, U0, List.length_nil]
 omega
theorem Ju {r : List UInt8} {b u : U} {N M : Nat} (h : relative r b = some u) (hb : Fit b M) (hN : M + 5 * r.length + 300 ≤ N) : Fit u N := by
 have hd := List.length_drop (i := 2) (l := r)
 have hw := (List.dropWhile_sublist (gB true) (l := r.drop 2)).length_le
 unfold relative at h
 split at h
 ·refine qQ h ?_
  have := hb.all
  split <;> omega
 ·injection h with h
  subst h
  split
  ·have := yV b.au r
   exact adK hb _ (by omega)
  split
  ·exact (UK hb).mono (by omega)
  ·have h1 := EP b.au (mM false b.aO) r
   have h2 := aed false b.aO
   exact Dv hb _ (by omega)
theorem SC (l : List ByteArray) {N : Nat} (H : List UInt8) (hl : 4 + pl l + H.length ≤ N) : Fit { uF with hst := H, aO := l } N := by
 refine ⟨?_, ?_, ?_⟩ <;> simp [uF, U0, FILE]
 omega
theorem far_fit {s : List UInt8} {u : U} {N : Nat} (h : far s = some u) (hN : 5 * s.length + 300 ≤ N) : Fit u N := by
 have h1 := yV FILE s
 have h2 := yV FILE (s.drop (upto true s))
 have h3 : (s.take (upto true s)).length + (s.drop (upto true s)).length = s.length := by rw [List.length_take, List.length_drop]; omega
 unfold far at h
 split at h
 ·cases h; exact SC _ [] (by simp only [List.length_nil]; omega)
 split at h
 ·cases h; exact SC _ [] (by simp only [List.length_nil]; omega)
 split at h
 ·cases h
 ·rename_i H e
  have h5 := J5.aaA e
  cases h
  refine SC _ _ ?_
  split
  ·simp only [List.length_nil]; omega
  ·omega
theorem aak {r : List UInt8} {base : Option U} {u : U} {N M : Nat} (h : file r base = some u) (hb : ∀ b, base = some b → Fit b M) (hN : M + 5 * r.length + 300 ≤ N) : Fit u N := by
 unfold file at h
 split at h
 ·refine far_fit h ?_
  rw [List.length_drop]; omega
 split at h
 ·injection h with h
  subst h
  have h1 : ∀ (q : Prop) [Decidable q] (x : List ByteArray), pl (if q then x.take 1 else []) ≤ pl x := by
   intro q _ x
   split
   ·exact af6 _ _
   ·rw [Q5]; omega
  have hd := List.length_drop (i := 1) (l := r)
  cases base with
  | none =>
   have h2 := EP FILE (if nrm ((Option.elim none [] U.aO).head?.elim [] fun x => x.data.toList) = true ∧ JR (r.drop 1) = false then (Option.elim none [] U.aO).take 1 else []) (r.drop 1)
   have h3 := h1 (nrm ((Option.elim none [] U.aO).head?.elim [] fun x => x.data.toList) = true ∧ JR (r.drop 1) = false) (Option.elim none [] U.aO)
   have h4 : pl (Option.elim none [] U.aO) = 0 := rfl
   exact SC _ [] (by simp only [List.length_nil]; omega)
  | some b =>
   have hb := hb b rfl
   have h2 := EP FILE (if nrm ((Option.elim (some b) [] U.aO).head?.elim [] fun x => x.data.toList) = true ∧ JR (r.drop 1) = false then (Option.elim (some b) [] U.aO).take 1 else []) (r.drop 1)
   have h3 := h1 (nrm ((Option.elim (some b) [] U.aO).head?.elim [] fun x => x.data.toList) = true ∧ JR (r.drop 1) = false) (Option.elim (some b) [] U.aO)
   have h4 : pl (Option.elim (some b) [] U.aO) = pl b.aO := rfl
   exact Dv hb _ (by omega)
 ·split at h
  ·injection h with h
   subst h
   have h1 : pl (if JR r = true then [] else mM true []) = 0 := by split <;> rfl
   have h2 := EP FILE (if JR r = true then [] else mM true []) r
   exact SC _ [] (by simp only [List.length_nil]; omega)
  ·rename_i b
   have hb := hb b rfl
   split at h
   ·injection h with h
    subst h
    exact (UK hb).mono (by omega)
   ·injection h with h
    subst h
    have h1 : pl (if JR r = true then [] else mM true b.aO) ≤ pl b.aO := by
     split
     ·rw [Q5]; omega
     ·exact aed _ _
    have h2 := EP FILE (if JR r = true then [] else mM true b.aO) r
    exact Dv hb _ (by omega)
theorem opq_len (m : Bool) (s : List UInt8) : (PrsP.opq m s).length ≤ 3 * s.length + 3 := by
 have h := EscE.iW 0 s
 unfold PrsP.opq Lib.trimSuffix
 split
 ·rw [List.length_append]
  split
  ·rw [List.length_take]; simp only [List.length_cons, List.length_nil]; omega
  ·simp only [List.length_cons, List.length_nil]; omega
 ·omega
theorem aie {p : Parts} {u : U} {N : Nat} (h : PrsP.plain p = some u) (hN : p.au.length + 5 * p.rest.length + 300 ≤ N) : Fit u N := by
 have hd := List.length_drop (i := 2) (l := p.rest)
 unfold PrsP.plain at h
 split at h
 ·exact qQ h (by omega)
 split at h
 ·injection h with h
  subst h
  have h1 := yV p.au p.rest
  refine ⟨?_, ?_, ?_⟩ <;> simp [U0]
  omega
 ·injection h with h
  subst h
  have h1 := opq_len (p.hq || p.hf) p.rest
  refine ⟨?_, ?_, ?_⟩ <;> simp [U0, Q5]
  omega
theorem abq {p : Parts} {base : Option U} {u : U} {N M : Nat} (h : PrsP.resolve p base = some u) (hb : ∀ b, base = some b → Fit b M) (hN : M + p.au.length + 5 * p.rest.length + 300 ≤ N) : Fit u N := by
 have hw := (List.dropWhile_sublist (gB true) (l := p.rest)).length_le
 unfold PrsP.resolve at h
 split at h
 ·refine aak h (fun b e => hb b ?_) (by omega)
  cases base with
  | none => cases e
  | some c =>
   simp only [Option.filter] at e
   split at e
   ·exact e
   ·cases e
 split at h
 ·split at h
  ·split at h
   ·exact Ju h (hb _ rfl) (by omega)
   ·exact qQ h (by omega)
  ·exact qQ h (by omega)
 split at h
 ·exact aie h (by omega)
 split at h
 ·cases h
 ·rename_i b
  have hb1 := hb b rfl
  split at h
  ·unfold rY at h
   obtain ⟨_, h⟩ := jY h
   injection h with h
   subst h
   exact hb1.mono (by omega)
  split at h
  ·exact aak h (fun c e => by injection e with e; subst e; exact hb1) (by omega)
  ·exact Ju h hb1 (by omega)
theorem ady {u : U} {p : Parts} {N M : Nat} (h : Fit u M) (hN : M + 3 * p.dY.length + 3 * p.fB.length ≤ N) : Fit (finish u p) N := by
 have h1 := EscE.iW (if special u.au = true then 3 else 2) p.dY
 have h2 := EscE.iW 1 p.fB
 obtain ⟨a, b, c⟩ := h
 unfold finish
 cases p.hq <;> cases p.hf <;> refine ⟨?_, ?_, ?_⟩ <;> simp only [if_true, if_false, Bool.false_eq_true] <;> first | assumption | omega
theorem ag5 (C : List UInt8) : (PrsP.apart C).au.length + (PrsP.apart C).rest.length + (PrsP.apart C).dY.length + (PrsP.apart C).fB.length ≤ C.length := by
 have h1 := Ip 35 C
 have h2 := Ip 63 (fG 35 C).1
 have h3 := Ip 58 (fG 63 (fG 35 C).1).1
 unfold PrsP.apart
 simp only
 split
 ·simp only [lower, List.length_map]; omega
 ·simp only [List.length_nil]; omega
theorem AZ {s : List UInt8} {base : Option U} {u : U} {M : Nat} (h : PrsP.url s base = some u) (hb : ∀ b, base = some b → Fit b M) : Fit u (M + 15 * s.length + 300) := by
 have h1 := acr.yF s
 have h2 := ag5 (clean s)
 unfold PrsP.url at h
 obtain ⟨v, hv, rfl⟩ := Option.map_eq_some_iff.1 h
 exact ady (abq (N := M + (PrsP.apart (clean s)).au.length + 5 * (PrsP.apart (clean s)).rest.length + 300) hv hb (Nat.le_refl _)) (by omega)
end Go.Proofs.YtmpeaoacaecgpaaGreatDoor.oN
namespace Go.Proofs.YtmpeaoacaecgpaaGreatDoor.acM
open Go.RowKit Base dI cO PthP Kr PthE WR PthG PthJ zD EscE
theorem stp_dbl (file e : Bool) (l : List ByteArray) (b : List UInt8) (h : Bo b = true) : Hu file e l b = if e then mM file l ++ [strOf []] else mM file l := by unfold Hu; rw [if_pos h]
theorem agr (file e : Bool) (l : List ByteArray) (b : List UInt8) (h : Bo b = false) (h2 : xW b = true) : Hu file e l b = if e then l ++ [strOf []] else l := by unfold Hu; rw [h, if_neg (by decide), if_pos h2]
theorem Yz (file e : Bool) (l : List ByteArray) (b : List UInt8) (h : Bo b = false) (h2 : xW b = false) : Hu file e l b = l ++ [strOf (wr (file && l.isEmpty) b)] := by unfold Hu; rw [h, if_neg (by decide), h2, if_neg (by decide)]
theorem zW (n : Nat) (h : n < 16) : ji 4 (EscE.jR n).toNat = false ∧ ∀ sp, gB sp (EscE.jR n) = false := by
 have H : ∀ (b : Fin 16), ji 4 ((EscE.jR b.val).toNat : Int) = false ∧ ∀ sp, gB sp (EscE.jR b.val) = false := by decide +kernel
 exact H ⟨n, h⟩
theorem Oq : ji 4 ((37 : UInt8).toNat : Int) = false ∧ ∀ sp, gB sp 37 = false := by decide +kernel
theorem fA (k : Int) (c : UInt8) (L : List UInt8) : enc k (c :: L) = one k c ++ enc k L := by simp [enc]
theorem lV (k : Int) (L : List UInt8) (h : ∀ c ∈ L, ji k c.toNat = false) : enc k L = L := by
 induction L with
 | nil => rfl
 | cons c L ih =>
  rw [fA, ih (fun d hd => h d (by simp [hd]))]
  unfold one
  rw [h c (by simp)]
  rfl
theorem Aj (sp : Bool) (c : UInt8) (hs : gB sp c = false) : ∀ d ∈ one 4 c, ji 4 d.toNat = false ∧ gB sp d = false := by
 intro d hd
 have hc := c.toNat_lt
 unfold one at hd
 split at hd
 ·simp only [List.mem_cons, List.not_mem_nil, or_false] at hd
  rcases hd with rfl | rfl | rfl
  ·exact ⟨Oq.1, Oq.2 sp⟩
  ·exact ⟨(zW _ (by omega)).1, (zW _ (by omega)).2 sp⟩
  ·exact ⟨(zW _ (by omega)).1, (zW _ (by omega)).2 sp⟩
 ·rename_i hn
  simp only [List.mem_cons, List.not_mem_nil, or_false] at hd
  subst hd
  exact ⟨by simpa using hn, hs⟩
theorem XE (sp : Bool) (L : List UInt8) (h : ∀ c ∈ L, gB sp c = false) : ∀ d ∈ enc 4 L, ji 4 d.toNat = false ∧ gB sp d = false := by
 intro d hd
 simp only [enc, List.mem_flatMap] at hd
 obtain ⟨c, hc, hd⟩ := hd
 exact Aj sp c (h c hc) d hd
theorem XD (sp : Bool) (L : List UInt8) (h : ∀ c ∈ L, gB sp c = false) : enc 4 (enc 4 L) = enc 4 L := lV 4 _ fun d hd => (XE sp L h d hd).1
def okp : List UInt8 → Bool
 | [] => true
 | c :: r => (decide (c ≠ 37) || (match r with | a :: b :: _ => decide (a = 50) && decide (b = 101) | _ => false)) && okp r
theorem not_dot (c : UInt8) (h : ji 4 c.toNat = true) : ¬ (low (EscE.jR (c.toNat / 16)) = 50 ∧ low (EscE.jR (c.toNat % 16)) = 101) := by
 have H : ∀ n : Fin 256, ji 4 (n.val : Int) = true → ¬ (low (EscE.jR (n.val / 16)) = 50 ∧ low (EscE.jR (n.val % 16)) = 101) := by decide +kernel
 exact H ⟨c.toNat, c.toNat_lt⟩ h
theorem zY : ∀ (p L : List UInt8), okp p = true → lower (enc 4 L) = p → lower L = p
 | p, [], _, h => h
 | p, c :: L, hp, h => by
  rw [fA] at h
  unfold one at h
  cases hc : ji 4 (c.toNat : Int) with
  | true =>
   rw [hc, if_pos rfl, List.cons_append, List.cons_append, List.cons_append, jg, jg, jg] at h
   subst h
   have e : low 37 = 37 := by decide +kernel
   simp only [okp, e, Bool.and_eq_true, Bool.or_eq_true, decide_eq_true_eq] at hp
   rcases hp.1 with h1 | h1
   ·exact absurd rfl h1
   ·exact absurd h1 (not_dot c hc)
  | false =>
   rw [hc, if_neg (by decide), List.cons_append, List.nil_append, jg] at h
   match p, hp, h with
   | d :: r, hp, h =>
    injection h with h1 h2
    simp only [okp, Bool.and_eq_true] at hp
    rw [jg, h1, zY r L hp.2 h2]
theorem enc_sgl (L : List UInt8) (h : xW L = false) : xW (enc 4 L) = false := by
 cases e : xW (enc 4 L) with
 | false => rfl
 | true =>
  unfold xW at h e
  simp only [Bool.or_eq_true, decide_eq_true_eq, Bool.or_eq_false_iff, decide_eq_false_iff_not] at h e
  rcases e with e | e
  ·exact absurd ((uD L).1 (zY [46] L (by decide) ((uD _).2 e))) h.1
  ·exact absurd (zY _ L (by decide) e) h.2
theorem enc_dbl (L : List UInt8) (h : Bo L = false) : Bo (enc 4 L) = false := by
 cases e : Bo (enc 4 L) with
 | false => rfl
 | true =>
  unfold Bo at h e
  simp only [Bool.or_eq_true, decide_eq_true_eq, Bool.or_eq_false_iff, decide_eq_false_iff_not] at h e
  rcases e with ((e | e) | e) | e
  ·exact absurd (zY _ L (by decide) e) h.1.1.1
  ·exact absurd (zY _ L (by decide) e) h.1.1.2
  ·exact absurd (zY _ L (by decide) e) h.1.2
  ·exact absurd (zY _ L (by decide) e) h.2
theorem U9 : ∀ L : List UInt8, (enc 4 L).length ≤ 2 → enc 4 L = L
 | [], _ => rfl
 | c :: L, h => by
  rw [fA] at h ⊢
  unfold one at h ⊢
  cases hc : ji 4 (c.toNat : Int) with
  | true => rw [hc, if_pos rfl] at h; simp at h
  | false =>
   rw [hc, if_neg (by decide)] at h
   rw [if_neg (by decide), U9 L (by simp at h; omega)]
   rfl
theorem enc_drv (L : List UInt8) (h : drv L = false) : drv (enc 4 L) = false := by
 cases e : drv (enc 4 L) with
 | false => rfl
 | true =>
  have := U9 L (by rw [Iz _ e]; omega)
  rw [this, h] at e
  cases e
def joinL : List (List UInt8) → List UInt8
 | [] => []
 | [x] => x
 | x :: y :: r => x ++ 47 :: joinL (y :: r)
structure At (f sp : Bool) (x : List UInt8) : Prop where
 stops : ∀ c ∈ x, gB sp c = false
 Bo : PthP.Bo x = false
 xW : PthP.xW x = false
 same : wr f x = x
theorem OE (file sp : Bool) (l : List ByteArray) : ∀ (x b M : List UInt8), (∀ c ∈ x, gB sp c = false) → wb file sp l b (x ++ M) = wb file sp l (b ++ x) M
 | [], b, M, _ => by rw [List.append_nil]; rfl
 | c :: x, b, M, h => by
  rw [List.cons_append, wb, h c (by simp), if_neg (by decide), OE file sp l x (b ++ [c]) M fun d hd => h d (by simp [hd]), List.append_assoc]
  rfl
theorem aev (file sp : Bool) : ∀ (ys : List (List UInt8)) (acc : List ByteArray) (y : List UInt8), At (file && acc.isEmpty) sp y → (∀ z ∈ ys, At false sp z) → wb file sp acc [] (joinL (y :: ys)) = acc ++ (y :: ys).map strOf
 | [], acc, y, h, _ => by
  have := OE file sp acc y [] [] h.stops
  rw [List.append_nil, List.nil_append] at this
  show wb file sp acc [] y = _
  rw [this, wb, Yz _ _ _ _ h.Bo h.xW, h.same]
  rfl
 | z :: ys, acc, y, h, hs => by
  have e : gB sp 47 = true := by cases sp <;> rfl
  show wb file sp acc [] (y ++ 47 :: joinL (z :: ys)) = _
  rw [OE file sp acc y [] _ h.stops, List.nil_append, wb, if_pos e, Yz _ _ _ _ h.Bo h.xW, h.same, aev file sp ys (acc ++ [strOf y]) z ?_ fun u hu => hs u (by simp [hu]), List.append_assoc]
  ·rfl
  ·have : (acc ++ [strOf y]).isEmpty = false := by cases acc <;> rfl
   rw [this, Bool.and_false]
   exact hs z (by simp)
theorem at_nil (f sp : Bool) : At f sp [] := ⟨fun _ h => by (cases h), rfl, rfl, by cases f <;> rfl⟩
theorem at_wr (f sp : Bool) (b : List UInt8) (hs : ∀ c ∈ b, gB sp c = false) (hd : Bo b = false) (hg : xW b = false) : At f sp (wr f b) ∧ (wr f b).length ≤ 3 * b.length + 2 := by
 cases hf : (f && drv b) with
 | true =>
  have e : wr f b = b.take 1 ++ [58] := by unfold wr; rw [hf, if_pos rfl]
  rw [Bool.and_eq_true] at hf
  obtain ⟨rfl, hv⟩ := hf
  rw [e]
  match b, hv, hs with
  | [x, y], hv, hs =>
   have hx : letter (x.toNat : Int) = true := by
    simp only [drv, Bool.and_eq_true] at hv
    exact hv.1
   refine ⟨⟨fun c hc => ?_, ?_, ?_, ?_⟩, by simp⟩
   ·simp only [List.take_succ_cons, List.take_zero, List.cons_append, List.nil_append, List.mem_cons, List.not_mem_nil, or_false] at hc
    rcases hc with rfl | rfl
    ·exact hs _ (by simp)
    ·cases sp <;> rfl
   ·simp [Bo, jg, show lower ([] : List UInt8) = [] from rfl]
    intro _
    decide +kernel
   ·simp [xW, jg, show lower ([] : List UInt8) = [] from rfl]
   ·show wr true [x, 58] = [x, 58]
    have hv2 : (true && drv [x, 58]) = true := by
     show (true && (letter (x.toNat : Int) && (decide ((58 : UInt8) = 58) || decide ((58 : UInt8) = 124)))) = true
     rw [hx]
     rfl
    unfold wr
    rw [hv2]
    rfl
 | false =>
  have e : wr f b = enc 4 b := by unfold wr; rw [hf, if_neg (by decide)]
  rw [e]
  refine ⟨⟨fun c hc => (XE sp b hs c hc).2, enc_dbl b hd, enc_sgl b hg, ?_⟩, by have := iW 4 b; omega⟩
  have hv : (f && drv (enc 4 b)) = false := by
   cases f with
   | false => rfl
   | true => rw [Bool.true_and] at hf ⊢; exact enc_drv b hf
  unfold wr
  rw [hv, if_neg (by decide), XD sp b hs]
def All (G : Nat → List UInt8 → Prop) (l : List ByteArray) : Prop := ∀ i (h : i < l.length), G i (l[i]).data.toList
theorem PD {G : Nat → List UInt8 → Prop} {l : List ByteArray} (h : All G l) (x : List UInt8) (hx : G l.length x) : All G (l ++ [strOf x]) := fun i hi => by
 rw [List.getElem_append]
 split
 ·exact h i _
 ·have : i = l.length := by simp at hi; omega
  subst this
  simpa [strOf] using hx
theorem ZL {G : Nat → List UInt8 → Prop} {l : List ByteArray} (h : All G l) (n : Nat) : All G (l.take n) := fun i hi => by
 rw [List.getElem_take]
 exact h i _
theorem agq (file sp e : Bool) (N : Nat) (G : Nat → List UInt8 → Prop) (he : ∀ i, G i []) (hb : ∀ i b, (∀ c ∈ b, gB sp c = false) → b.length ≤ N → Bo b = false → xW b = false → G i (wr (file && decide (i = 0)) b))
  (l : List ByteArray) (b : List UInt8) (h : All G l) (h1 : ∀ c ∈ b, gB sp c = false) (h2 : b.length ≤ N) : All G (Hu file e l b) := by
 have aaz : All G (mM file l) := by
  unfold mM
  split
  ·exact h
  ·exact ZL h _
 cases hd : Bo b with
 | true =>
  rw [stp_dbl _ _ _ _ hd]
  split
  ·exact PD aaz [] (he _)
  ·exact aaz
 | false =>
  cases hg : xW b with
  | true =>
   rw [agr _ _ _ _ hd hg]
   split
   ·exact PD h [] (he _)
   ·exact h
  | false =>
   rw [Yz _ _ _ _ hd hg]
   refine PD h _ ?_
   have := hb l.length b h1 h2 hd hg
   have e : decide (l.length = 0) = l.isEmpty := by cases l <;> simp
   rw [e] at this
   exact this
theorem SS (file sp : Bool) (N : Nat) (G : Nat → List UInt8 → Prop) (he : ∀ i, G i []) (hb : ∀ i b, (∀ c ∈ b, gB sp c = false) → b.length ≤ N → Bo b = false → xW b = false → G i (wr (file && decide (i = 0)) b)) :
  ∀ (M : List UInt8) (l : List ByteArray) (b : List UInt8), All G l → (∀ c ∈ b, gB sp c = false) → b.length + M.length ≤ N → All G (wb file sp l b M)
 | [], l, b, h, h1, h2 => agq file sp true N G he hb l b h h1 (by simpa using h2)
 | c :: M, l, b, h, h1, h2 => by
  simp only [List.length_cons] at h2
  cases hc : gB sp c with
  | true =>
   rw [wb, if_pos hc]
   exact SS file sp N G he hb M _ [] (agq file sp false N G he hb l b h h1 (by omega)) (fun _ h => by (cases h)) (by simp; omega)
  | false =>
   rw [wb, hc, if_neg (by decide)]
   exact SS file sp N G he hb M l (b ++ [c]) h (fun d hd => by
    rcases List.mem_append.1 hd with hd | hd
    ·exact h1 d hd
    ·simp at hd; subst hd; exact hc) (by simp; omega)
theorem JK (file sp : Bool) : ∀ (M : List UInt8) (l : List ByteArray) (b : List UInt8), wb file sp l b M ≠ []
 | [], l, b => by
  show Hu file true l b ≠ []
  unfold Hu
  repeat' split
  all_goals simp_all
 | c :: M, l, b => by
  unfold wb
  split
  ·exact JK file sp M _ _
  ·exact JK file sp M _ _
theorem aaM (l : List ByteArray) : (l.map (·.data.toList)).map strOf = l := by
 rw [List.map_map]
 conv => rhs; rw [← List.map_id l]
 refine List.map_congr_left fun s _ => ?_
 exact aG s
end Go.Proofs.YtmpeaoacaecgpaaGreatDoor.acM
