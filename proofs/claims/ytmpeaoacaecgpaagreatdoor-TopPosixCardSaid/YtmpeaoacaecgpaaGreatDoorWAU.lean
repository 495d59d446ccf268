/- Texts that belong together: akc, UG, Shs, rD, aj2. -/
import Derived.Test.YtmpeaoacaecgpaaGreatDoorWAM
import Derived.Test.YtmpeaoacaecgpaaGreatDoorWAT
import Derived.Test.YtmpeaoacaecgpaaGreatDoorWAN
import Derived.Test.YtmpeaoacaecgpaaGreatDoorWAQ
import Derived.Test.YtmpeaoacaecgpaaGreatDoorWAO
import Derived.Test.YtmpeaoacaecgpaaGreatDoorWAC
import Derived.Handed
import Derived.HandedShaped
import Derived.Shelf.Vars
import Derived.Test.YtmpeaoacaecgpaaGreatDoorWAL
import Derived.Lib.LaidU8
import Derived.Test.YtmpeaoacaecgpaaGreatDoorWAA
import Derived.ProofKit
import Derived.OpenShut
import Derived.ShutString
import Derived.ChangeOld
import Derived.Below
import Derived.SliceStrings
import Derived.SizedLaws
set_option linter.unusedSimpArgs false
set_option linter.unusedVariables false
set_option maxRecDepth 100000
set_option maxHeartbeats 64000000
namespace Go.Proofs.YtmpeaoacaecgpaaGreatDoor.akc
open Go.RowKit Base Regs Base2 dI cO PthG PthH PthJ UrlA PrsP yw tN Fp mW Pbx tK yx jQ sU pO acr vZ TI akb PrsO WQ
theorem GX (T : List UInt8) (b : U) (gb : Nat) (A : Option Addr) (n c : Nat) (w : World) (hs : T.length ≤ 65536) (hn : n ≤ 100000) (hB : UB w gb b (.slice A n c)) (hP : dR w b A n c) (hL : oI w) (hT : Tab.Pow w) (hM : Max w) (hU : rD w) : Calls Tryz.prog 16 #[.string (strOf T), .pointer (some ⟨gb, 0, none⟩)] w (xC w (PrsP.url T (some b))) := by
 have hcl := yF T
 obtain ⟨C, hC⟩ : ∃ x, x = clean T := ⟨_, rfl⟩
 rw [← hC] at hcl
 obtain ⟨p, hp⟩ : ∃ x, x = PrsP.apart C := ⟨_, rfl⟩
 have hpl := Kv C
 rw [← hp] at hpl
 obtain ⟨OR, hOR⟩ : ∃ x, x = PrsP.resolve p (some b) := ⟨_, rfl⟩
 obtain ⟨OU, hOU⟩ : ∃ x, x = PrsP.url T (some b) := ⟨_, rfl⟩
 have HOU : Hid (OU = OR.map fun u => PrsP.finish u p) := by show _ = _; rw [hOU]; unfold PrsP.url; rw [← hC, ← hp, ← hOR]
 rw [← hOU]
 have HCL : Hid (∀ w : World, rD w → Calls Tryz.prog 19 #[.string (strOf T)] w fun e w' => e = .returned (.string (strOf C)) ∧ Below w.heap.size w w') := fun w h => by rw [hC]; exact clean_any T w (by omega) h
 have HAP : Hid (∀ w : World, Max w → Calls Tryz.prog 49 #[.string (strOf C)] w fun e w' => e = .returned (.agg (bQ p)) ∧ Below w.heap.size w w') := fun w h => by rw [hp]; exact qm C w (by omega) h
 have HRS : Hid (∀ w : World, UB w gb b (.slice A n c) → dR w b A n c → oI w → Tab.Pow w → Max w → Calls Tryz.prog 50 #[.agg (bQ p), .pointer (some ⟨gb, 0, none⟩)] w (mO w OR)) := fun w h1 h2 a d e => by rw [hOR]; exact Yp p b gb A n c w (by omega) hn h1 h2 a d e
 have TF := hid hB
 have HP := hid hP
 clear hB hP
 have WC : Hid (∀ (u : U) (A : Option Addr) (n c : Nat) (w : World), Calls Tryz.prog 51 #[.agg (cells u (.slice A n c)), .agg (bQ p)] w fun e w' => e = .returned (.agg (cells (PrsP.finish u p) (.slice A n c))) ∧ Below w.heap.size w w') := fun u A n c w => Gx u p A n c w (by omega) (by omega)
 have hTI : ¬ ((strOf T).size : Int) > 65536 := by rw [size_strOf]; omega
 have hTI2 : ((strOf T).size : Int) ≤ 65536 := by omega
 have HL := hid hL
 have HT := hid hT
 have HM := hid hM
 have HUT := hid hU
 clear hOU hOR hp hC hL hT hM hU hpl hcl
 obtain ⟨s, rt, q, f, hq, hf⟩ := p
 go_enter Tryz.func16, Tryz.ntmps16
 go_upto_region 1 with (fail)
 generalize hw : World.alloc w _ = w1
 have h1 : UB w1 (w.heap.size) (U0) (.slice none 0 0) ∧ Below w.heap.size w w1 := by
  subst hw
  exact laid1 w _ _
 clear hw
 have hlb := TF.out.lt
 have ajZ : Hid (gb ≠ w.heap.size) := by show _ ≠ _; omega
 have aj0 : Hid (w.heap.size ≠ gb) := by show _ ≠ _; omega
 clear hlb
 have bP : Hid (w.heap.size ≤ w.heap.size) := (Below.refl w.heap.size w).size
 have iY := hid (TF.out.below h1.2)
 have bM := hid (bel (Below.refl w.heap.size w) h1.2)
 have aW := hid h1.1
 clear TF
 clear h1
 go_wp2_with fail
 refine (HCL.out _ (HUT.out.below bM.out)).mono ?_
 rintro e w2 ⟨rfl, hbx⟩
 have pV := hid (iY.out.below hbx)
 have bK := hid (aW.out.below hbx)
 have eX := hid (bel bM.out hbx)
 clear iY aW bM
 clear hbx
 go_wp2_with fail
 refine (HAP.out _ (HM.out.below eX.out)).mono ?_
 rintro e w3 ⟨rfl, hbx⟩
 have kS := hid (pV.out.below hbx)
 have bD := hid (bK.out.below hbx)
 have cZ := hid (bel eX.out hbx)
 clear pV bK eX
 clear hbx
 rw [show Value.agg (bQ ⟨s, rt, q, f, hq, hf⟩) = .agg #[.string (strOf s), .string (strOf rt), .string (strOf q), .string (strOf f), .bool hq, .bool hf] from rfl]
 go_upto_region 4 with (fail)
 generalize hw : World.alloc w3 _ = w4
 have h1 : PB w4 (w3.heap.size) (⟨s, rt, q, f, hq, hf⟩) ∧ Below w3.heap.size w3 w4 := by
  subst hw
  exact laid1 w3 _ _
 clear hw
 have hlb := kS.out.lt
 have NE_b_p : Hid (gb ≠ w3.heap.size) := by show _ ≠ _; omega
 have NE_p_b : Hid (w3.heap.size ≠ gb) := by show _ ≠ _; omega
 clear hlb
 have hlr := bD.out.lt
 have J9 : Hid (w.heap.size ≠ w3.heap.size) := by show _ ≠ _; omega
 have J8 : Hid (w3.heap.size ≠ w.heap.size) := by show _ ≠ _; omega
 clear hlr
 have WL : Hid (w.heap.size ≤ w3.heap.size) := cZ.out.size
 have pW := hid (kS.out.below h1.2)
 have bF := hid (bD.out.below h1.2)
 have dD := hid (bel cZ.out h1.2)
 have kT := hid h1.1
 clear kS bD cZ
 clear h1
 obtain ⟨p0, p1, p2, p3, p4, p5⟩ := kT.out.facts
 go_wp2_with fail
 clear p0 p1 p2 p3 p4 p5
 refine (HRS.out _ pW.out (mW.dR.below HP.out dD.out) (HL.out.below dD.out) (bY HT.out dD.out) (HM.out.below dD.out)).mono ?_
 rintro e w5 ⟨hbx, u', A', n', c', ok, rfl, hown, yK⟩
 have iy : Hid (w.heap.size < w4.heap.size) := bF.out.lt
 have Ib : Hid (w.heap.size ≤ w4.heap.size) := dD.out.size
 have oq := hid (pW.out.below hbx)
 have bH := hid (bF.out.below hbx)
 have mF := hid (kT.out.below hbx)
 have fC := hid (bel dD.out hbx)
 have F8 := hid yK
 have ajR := hid (show Own w4 w5 u' A' n' c' from hown)
 clear yK hown
 clear pW bF kT dD
 clear hbx
 rw [show Value.agg (cells u' (.slice A' n' c')) = .agg #[.string (strOf u'.au), .string (strOf u'.usr), .string (strOf u'.pwd), .string (strOf u'.hst), .bool u'.hh, .int .i64 u'.port, .bool u'.opq, .string (strOf u'.txt), .slice A' n' c', .bool u'.hq, .bool u'.hf, .string (strOf u'.dY), .string (strOf u'.fB)] from rfl]
 go_upto_region 5 with (fail)
 generalize hw : World.alloc w5 _ = w6
 have h1 : UB w6 (w5.heap.size) (u') (.slice A' n' c') ∧ Below w5.heap.size w5 w6 := by
  subst hw
  exact laid1 w5 _ _
 clear hw
 have hlb := oq.out.lt
 have oM : Hid (gb ≠ w5.heap.size) := by show _ ≠ _; omega
 have WM : Hid (w5.heap.size ≠ gb) := by show _ ≠ _; omega
 clear hlb
 have hlr := bH.out.lt
 have aX : Hid (w.heap.size ≠ w5.heap.size) := by show _ ≠ _; omega
 have nO : Hid (w5.heap.size ≠ w.heap.size) := by show _ ≠ _; omega
 clear hlr
 have hlp := mF.out.lt
 have jf : Hid (w3.heap.size ≠ w5.heap.size) := by show _ ≠ _; omega
 have Ko : Hid (w5.heap.size ≠ w3.heap.size) := by show _ ≠ _; omega
 clear hlp
 have fK : Hid (w.heap.size ≤ w5.heap.size) := fC.out.size
 have kG := hid (oq.out.below h1.2)
 have bT := hid (bH.out.below h1.2)
 have yg := hid (mF.out.below h1.2)
 have gq := hid (bel fC.out h1.2)
 have bG := hid h1.1
 have HBU := hid h1.2
 clear oq bH mF fC
 clear h1
 skip
 cases ok with
 | false =>
  have qc : Hid (OU = none) := by
   show _ = _
   rcases F8.out with ⟨_, h⟩ | ⟨h, _⟩
   ·cases h
   ·rw [HOU.out, h]; rfl
  go_wp2_with (refine aC bT.out U0 none 0 0 (.tmp 4) (.tmp 24) rfl rfl rfl rfl ?_)
  try simp only [Exit.inBlock, Exit.then]
  refine bodyPost_ret (w := World.setRow w6 w.heap.size (cells U0 (.slice none 0 0))) (aiw (u := U0) (p := .slice none 0 0) rfl (bT.out.row U0 _) 2 _ rfl rfl) rfl ?_
  rw [qc.out]
  exact ⟨below_setRow gq.out bP.out _, none, 0, 0, rfl, wY _ _ rfl⟩
 | true =>
  have HSO : Hid (OU = some (PrsP.finish u' ⟨s, rt, q, f, hq, hf⟩)) := by
   show _ = _
   rcases F8.out with ⟨h, _⟩ | ⟨_, h, _⟩
   ·rw [HOU.out, h]; rfl
   ·cases h
  have hfp : (PrsP.finish u' ⟨s, rt, q, f, hq, hf⟩).aO = u'.aO := Gy _ _
  obtain ⟨d0, d1, d2, d3, d4, d5, d6, d7, d8, d9, d10, d11, d12⟩ := bG.out.facts
  obtain ⟨p0, p1, p2, p3, p4, p5⟩ := yg.out.facts
  go_wp2_with fail
  clear d0 d1 d2 d3 d4 d5 d6 d7 d8 d9 d10 d11 d12
  clear p0 p1 p2 p3 p4 p5
  skip
  have Tf : Hid (Below w5.heap.size w5 w6) := HBU.out
  refine (WC.out u' A' n' c' _).mono ?_
  rintro e w7 ⟨rfl, hbx⟩
  have mD := hid (kG.out.below hbx)
  have dQ := hid (bT.out.below hbx)
  have HXpw7 := hid (yg.out.below hbx)
  have dO := hid (bG.out.below hbx)
  have iU := hid (bel gq.out hbx)
  clear kG bT yg bG gq
  have ajv := hid hbx
  clear hbx
  have hwn := (ajR.out.below Tf.out).below ajv.out
  go_wp2_with (refine aC dQ.out (PrsP.finish u' ⟨s, rt, q, f, hq, hf⟩) A' n' c' (.tmp 4) (.tmp 27) rfl rfl rfl rfl ?_)
  try simp only [Exit.inBlock, Exit.then]
  have ho := (hwn.row iy.out (cells (PrsP.finish u' ⟨s, rt, q, f, hq, hf⟩) (.slice A' n' c'))).base Ib.out
  refine bodyPost_ret (w := World.setRow w7 w.heap.size (cells (PrsP.finish u' ⟨s, rt, q, f, hq, hf⟩) (.slice A' n' c'))) (aiw (u := PrsP.finish u' ⟨s, rt, q, f, hq, hf⟩) (p := .slice A' n' c') rfl (dQ.out.row _ _) 0 _ rfl rfl) rfl ?_
  rw [HSO.out]
  exact ⟨below_setRow iU.out bP.out _, A', n', c', rfl, by show Own _ _ (PrsP.finish u' ⟨s, rt, q, f, hq, hf⟩) _ _ _; unfold Own; rw [hfp]; exact ho⟩
end Go.Proofs.YtmpeaoacaecgpaaGreatDoor.akc
namespace Go.Proofs.YtmpeaoacaecgpaaGreatDoor.UG
open Go.RowKit Base Base2 cO UrlA Pg ag0 sU PrsP mW tK yx jQ pO vZ WQ akc oN wo
structure Env (w : World) : Prop where
 pow : Tab.Pow w
 lad : oI w
 max : Max w
 Hq : rD w
theorem Env.below {w w' : World} (h : Env w) (hb : Below w.heap.size w w') : Env w' := ⟨bY h.pow hb, h.lad.below hb, h.max.below hb, h.Hq.below hb⟩
structure Pt (w : World) (u : U) (A : Option Addr) (n c : Nat) : Prop where
 aO : dR w u A n c
theorem Pt.below {w w' : World} {u : U} {A : Option Addr} {n c : Nat} (h : Pt w u A n c) (hb : Below w.heap.size w w') : Pt w' u A n c := ⟨mW.dR.below h.aO hb⟩
theorem Pt.len {w : World} {u : U} {A : Option Addr} {n c N : Nat} (h : Pt w u A n c) (hf : Fit u N) : n ≤ N := by
 have h1 : (u.aO.map Value.string).length = n := h.aO.1.1
 rw [List.length_map] at h1
 have h2 := hf.all
 have h3 := aZ.fM u.aO
 unfold oN.pl at h2
 omega
theorem dl (s : ByteArray) : s.data.toList.length = s.size := Array.length_toList
theorem jB {T : ByteArray} {u : U} (ho : PrsP.url T.data.toList none = some u) (hs : T.size ≤ 65536) (w : World) (E : Env w) : Calls Tryz.prog 16 #[.string T, .pointer none] w fun e w' => ∃ A' n' c', e = .returned (.tuple #[.agg #[.string (strOf u.au), .string (strOf u.usr), .string (strOf u.pwd), .string (strOf u.hst), .bool u.hh, .int .i64 u.port, .bool u.opq, .string (strOf u.txt), .slice A' n' c', .bool u.hq, .bool u.hf, .string (strOf u.dY), .string (strOf u.fB)], .int .i64 0]) ∧ Pt w' u A' n' c' ∧ Below w.heap.size w w' := by
 have h := GY T.data.toList w (by rw [dl]; exact hs) E.lad E.pow E.max E.Hq
 rw [aG, ho] at h
 exact h.mono fun e w' ⟨h1, A, n, c, h2, h3⟩ => ⟨A, n, c, h2, ⟨h3.aO⟩, h1⟩
theorem GZ {T : ByteArray} {u : U} (hu : u = U0) (ho : PrsP.url T.data.toList none = none) (hs : T.size ≤ 65536) (w : World) (E : Env w) : Calls Tryz.prog 16 #[.string T, .pointer none] w fun e w' => ∃ A' n' c', e = .returned (.tuple #[.agg #[.string (strOf u.au), .string (strOf u.usr), .string (strOf u.pwd), .string (strOf u.hst), .bool u.hh, .int .i64 u.port, .bool u.opq, .string (strOf u.txt), .slice A' n' c', .bool u.hq, .bool u.hf, .string (strOf u.dY), .string (strOf u.fB)], .int .i64 2]) ∧ Pt w' u A' n' c' ∧ Below w.heap.size w w' := by
 subst hu
 have h := GY T.data.toList w (by rw [dl]; exact hs) E.lad E.pow E.max E.Hq
 rw [aG, ho] at h
 exact h.mono fun e w' ⟨h1, A, n, c, h2, h3⟩ => ⟨A, n, c, h2, ⟨h3.aO⟩, h1⟩
theorem aa0 {T : ByteArray} {b u : U} (ho : PrsP.url T.data.toList (some b) = some u) (hs : T.size ≤ 65536) (gb : Nat) (A : Option Addr) (n c : Nat) (hn : n ≤ 100000) (w : World) (hB : UB w gb b (.slice A n c)) (hP : Pt w b A n c) (E : Env w) : Calls Tryz.prog 16 #[.string T, .pointer (some ⟨gb, 0, none⟩)] w fun e w' => ∃ A' n' c', e = .returned (.tuple #[.agg #[.string (strOf u.au), .string (strOf u.usr), .string (strOf u.pwd), .string (strOf u.hst), .bool u.hh, .int .i64 u.port, .bool u.opq, .string (strOf u.txt), .slice A' n' c', .bool u.hq, .bool u.hf, .string (strOf u.dY), .string (strOf u.fB)], .int .i64 0]) ∧ Pt w' u A' n' c' ∧ Below w.heap.size w w' := by
 have h := GX T.data.toList b gb A n c w (by rw [dl]; exact hs) hn hB hP.aO E.lad E.pow E.max E.Hq
 rw [aG, ho] at h
 exact h.mono fun e w' ⟨h1, A, n, c, h2, h3⟩ => ⟨A, n, c, h2, ⟨h3.aO⟩, h1⟩
theorem aaZ {T : ByteArray} {b u : U} (hu : u = U0) (ho : PrsP.url T.data.toList (some b) = none) (hs : T.size ≤ 65536) (gb : Nat) (A : Option Addr) (n c : Nat) (hn : n ≤ 100000) (w : World) (hB : UB w gb b (.slice A n c)) (hP : Pt w b A n c) (E : Env w) : Calls Tryz.prog 16 #[.string T, .pointer (some ⟨gb, 0, none⟩)] w fun e w' => ∃ A' n' c', e = .returned (.tuple #[.agg #[.string (strOf u.au), .string (strOf u.usr), .string (strOf u.pwd), .string (strOf u.hst), .bool u.hh, .int .i64 u.port, .bool u.opq, .string (strOf u.txt), .slice A' n' c', .bool u.hq, .bool u.hf, .string (strOf u.dY), .string (strOf u.fB)], .int .i64 2]) ∧ Pt w' u A' n' c' ∧ Below w.heap.size w w' := by
 subst hu
 have h := GX T.data.toList b gb A n c w (by rw [dl]; exact hs) hn hB hP.aO E.lad E.pow E.max E.Hq
 rw [aG, ho] at h
 exact h.mono fun e w' ⟨h1, A, n, c, h2, h3⟩ => ⟨A, n, c, h2, ⟨h3.aO⟩, h1⟩
theorem Vg {u : U} {N : Nat} (h : Fit u N) (hN : N ≤ 1073741824) : (strOf u.au).size ≤ 1073741824 ∧ (strOf u.usr).size ≤ 1073741824 ∧ (strOf u.pwd).size ≤ 1073741824 ∧ (strOf u.hst).size ≤ 1073741824 ∧ (strOf u.txt).size ≤ 1073741824 ∧ (strOf u.dY).size ≤ 1073741824 ∧ (strOf u.fB).size ≤ 1073741824 ∧ (aZ.aO u.aO).length ≤ 1073741824 := by
 have h1 := h.all
 unfold oN.pl at h1
 simp only [size_strOf]
 omega
theorem aga {u : U} {N : Nat} (hF : Fit u N) (hN : N ≤ 1073741824) (A : Option Addr) (n c : Nat) (w : World) (hP : Pt w u A n c) (E : Env w) : Calls Tryz.prog 46 #[.agg #[.string (strOf u.au), .string (strOf u.usr), .string (strOf u.pwd), .string (strOf u.hst), .bool u.hh, .int .i64 u.port, .bool u.opq, .string (strOf u.txt), .slice A n c, .bool u.hq, .bool u.hf, .string (strOf u.dY), .string (strOf u.fB)]] w fun e w' => e = .returned (.string (strOf (fQ u))) ∧ Below w.heap.size w w' := by
 obtain ⟨h1, h2, h3, h4, h5, h6, h7, h8⟩ := Vg hF hN
 exact print_any _ _ _ _ _ _ _ _ A n c u.aO _ _ _ _ w hP.aO.1 hP.aO.2.1 hP.aO.2.2 h1 h2 h3 h4 h5 h6 h7 (by have := hF.lo; omega) (by have := hF.hi; omega) h8 E.pow
theorem Lp {u : U} {N : Nat} (h : Fit u N) : (fQ u).length ≤ N + 60 := by
 have h1 := h.all
 have hl := h.lo
 have hh := h.hi
 have hp : (aZ.kK u.port).length ≤ 21 := Rf u.port (by omega) (by omega)
 have hc : (aZ.lD (strOf u.usr) (strOf u.pwd)).length ≤ u.usr.length + u.pwd.length + 2 := by
  unfold aZ.lD
  have e1 : (strOf u.usr).data.toList = u.usr := rfl
  have e2 : (strOf u.pwd).data.toList = u.pwd := rfl
  rw [e1, e2]
  split
  ·split
   ·simp
   ·simp only [List.length_append, List.length_cons, List.length_nil]; omega
  ·simp only [List.length_append, List.length_cons, List.length_nil]; omega
 have hm : (KU u).length ≤ u.usr.length + u.pwd.length + u.hst.length + 25 := by
  unfold KU aZ.ug
  have e1 : (strOf u.hst).data.toList = u.hst := rfl
  rw [e1]
  split
  ·simp only [List.length_append, List.length_cons, List.length_nil]; omega
  ·split
   ·simp only [List.length_cons, List.length_nil]; omega
   ·simp
 have hpl : (aZ.pF u.opq (strOf u.txt) u.aO).length ≤ u.txt.length + oN.pl u.aO := by
  unfold aZ.pF oN.pl
  have e1 : (strOf u.txt).data.toList = u.txt := rfl
  rw [e1]
  split <;> omega
 have hq : (if u.hq = true then (63 : UInt8) :: u.dY else []).length ≤ u.dY.length + 1 := by split <;> simp
 have hf : (if u.hf = true then (35 : UInt8) :: u.fB else []).length ≤ u.fB.length + 1 := by split <;> simp
 rw [Ll, yD]
 simp only [List.length_append, List.length_cons, List.length_nil]
 omega
end Go.Proofs.YtmpeaoacaecgpaaGreatDoor.UG
namespace Go.Proofs.YtmpeaoacaecgpaaGreatDoor.Shs
open Go.RowKit Base
variable {H : Type} {enc : TypeId × Value → H}
theorem wrap {a : Assume} {C : Checked} {os : Os} {f : FuncId} {fn : Func} {s : ChangeSpec} {conds : List PathCond} {apart fresh handsOn again : Bool} {X : World → Array Value → Prop}
  (hX : ∀ (w w' : World) (args : Array Value), w.heap = w'.heap → X w args → X w' args)
  (own : ownKnob C.prog.godebug = none) (started : os.Started) (noInit : C.prog.inits.idxOf? f = none) (hfn : C.prog.funcs[f]? = some fn)
  (witness : ∃ (w : World) (tape : Tape) (i : Input), w.os = os ∧ (w.forCall tape i).Shaped C.prog ∧ i.vars = [] ∧ Input.okWide C.prog (w.forCall tape i) .any w.heap.size f i ∧
   ((s.pre enc C.prog fn conds apart (w.forCall tape i).memory i.args ∧ X (w.forCall tape i).memory i.args) ∧ sizedMet enc C.prog fn (OpenSpec.ofChange s) apart (w.forCall tape i).memory i.args) ∧ a.holds C.prog (lone (Frame.enter C.prog f i.args .normal) [] (w.forCall tape i)))
  (contract : ∀ (W : World) (base : Nat) (args : Array Value) (ds gs : List (DataW H)) (before : List MemPlace),
   (∀ (j : Nat) t v, fn.params[j]? = some t → args[j]? = some v → Value.okWide C.prog W .any base t v) →
   DataW.Whole enc C.prog fn.params.toList s.vars apart W args.toList ds gs before →
   conds.all (PathCond.test C.prog ⟨fn.params.toList, ds, s.plain.varTypes C.prog, gs⟩) = true →
   (DataW.weightsEach C.prog (fn.params.toList ++ s.plain.varTypes C.prog) (ds ++ gs)).all (· ≤ reachBytes) = true → X W args → W.ShapedOpen C.prog →
   a.holds C.prog (lone (Frame.enter C.prog f args .normal) [] W) →
   Calls C.prog f args W fun e W' => ∃ v, e = .returned v ∧ s.post enc C.prog fn apart fresh handsOn again W args v W') :
  ReturnsInHanded a C os f .any (fun w args => (s.pre enc C.prog fn conds apart w args ∧ X w args) ∧ sizedMet enc C.prog fn (OpenSpec.ofChange s) apart w args) (s.post enc C.prog fn apart fresh handsOn again) := by
 refine returnsInHanded_of_calls own started noInit witness ?_
 intro w tape i _ hsh _ hok hpre hholds
 obtain ⟨_, _, _, fn', hfn', _, _, _, _, hval⟩ := hok
 have e : fn' = fn := Option.some.inj (hfn'.symm.trans hfn)
 subst e
 obtain ⟨⟨⟨ds, gs, before, hw, hc⟩, hx⟩, hz⟩ := hpre
 have hw' := DataW.Whole.of_heap (w' := w.forCall tape i) (by rfl) hw
 refine (contract (w.forCall tape i) w.heap.size i.args ds gs before hval hw' hc (hz.weights hw) (hX _ _ _ (by rfl) hx) hsh hholds).mono fun e W' ⟨v, he, hp⟩ => ?_
 subst he
 exact ChangeSpec.post_blind hp
theorem max_of {w : World} (h : w.ShapedOpen Tryz.prog) : pO.Max w := Go.Proofs.cell_of_shapedOpen_int (zero := #[.int .i64 0]) (t := 3) h (of_decide_eq_true (by kernel_rfl)) (by kernel_rfl) rfl (by kernel_rfl) (by kernel_rfl) Tryz.underlying3
end Go.Proofs.YtmpeaoacaecgpaaGreatDoor.Shs
namespace Go.Proofs.YtmpeaoacaecgpaaGreatDoor.rD
open Go.RowKit Go.Lib
theorem utab_of {W : World} {l : List (String × DataW Unit)} (h : laidMet Tryz.prog l W) (h1 : ("unicode/utf8.first", firstData) ∈ l) (h2 : ("unicode/utf8.acceptRanges", acceptData) ∈ l) : vZ.rD W :=
 utf8Tabs_of_reads (ρ := Tryz.l237_ren) { Tryz.l237 with } ⟨by kernel_rfl, by kernel_rfl, by kernel_rfl, by kernel_rfl, by kernel_rfl, by kernel_rfl, by kernel_rfl⟩ (Lib.laidMet.reads h h1) (Lib.laidMet.reads h h2)
end Go.Proofs.YtmpeaoacaecgpaaGreatDoor.rD
namespace Go.Proofs.YtmpeaoacaecgpaaGreatDoor.aj2
open Go.ChangeShapes Go.WideShapes Go.ChangeAt Go.RowKit Base
variable {P : Program} {w : World} {H : Type} {enc : TypeId × Value → H} {base : Nat} {held : Bool}
theorem PW {t e : TypeId} {k : IntKind} {fuel : Nat} {a : Option Addr} {len cap : Nat} {x : DataW H × List MemPlace} (ht : P.underlying t = some (.slice e)) (he : P.underlying e = some (.int k)) (hc : P.cellsOf e = 1)
  (h : DataW.trod enc P w base (fun _ => true) held fuel t (Value.slice a len cap).cells.toList = some x) :
  cap = 0 ∨ ∃ es sp, x.1 = .slice es sp ∧ es.length + sp.length = cap := by
 rcases open_ints ht he hc h with ⟨hcs, _⟩ | ⟨_, l, c, zs, hcs, _, hl, hm, hz, rfl, _, _⟩
 ·simp [Value.cells] at hcs
  exact .inl hcs.2.2
 ·simp [Value.cells] at hcs
  obtain ⟨rfl, rfl, rfl⟩ := hcs
  have hz' : zs.length = cap := by simpa using hz
  refine .inr ⟨_, _, rfl, ?_⟩
  simp only [lits, List.length_map, List.length_take, List.length_drop]
  omega
theorem reach {ts : List TypeId} {ds : List (DataW H)} (hsz : (DataW.weightsEach P ts ds).all (· ≤ reachBytes) = true) {j : Nat} {t e : TypeId} {k : IntKind} {b fuel : Nat} {a : Option Addr} {len cap : Nat} {x : DataW H × List MemPlace}
  (htj : ts[j]? = some t) (hdj : ds[j]? = some x.1) (ht : P.underlying t = some (.slice e)) (he : P.underlying e = some (.int k)) (hc : P.cellsOf e = 1) (hb : P.bytesOf e = b)
  (h : DataW.trod enc P w base (fun _ => true) held fuel t (Value.slice a len cap).cells.toList = some x) : cap * b ≤ 140737488351232 := by
 rcases PW ht he hc h with rfl | ⟨es, sp, e1, hl⟩
 ·simp
 ·have := sized_slice hsz htj (hdj.trans (congrArg some e1)) ht
  rw [hl, hb] at this
  exact this
theorem aar {ts : List TypeId} {ds : List (DataW H)} (hsz : (DataW.weightsEach P ts ds).all (· ≤ reachBytes) = true) {i : Nat} {t : TypeId} {fs : Array Field} {parts : List (DataW H)} (hti : ts[i]? = some t) (hdi : ds[i]? = some (.agg parts)) (hu : P.underlying t = some (.struct fs))
  {j : Nat} {ft : TypeId} {bytes : List UInt8} (hf : (fs.toList.map (·.type))[j]? = some ft) (hp : parts[j]? = some (.lit (.string bytes))) : bytes.length ≤ reachBytes := by
 have := List.all_eq_true.1 hsz _ (DataW.weights_mem_each hti hdi bytes.length (by
  simp only [DataW.weights, hu]
  exact DataW.weights_mem_each hf hp _ (by simp [DataW.weights])))
 simpa using this
end Go.Proofs.YtmpeaoacaecgpaaGreatDoor.aj2
