/- Texts that belong together: aas. -/
import Derived.Test.YtcfgioklgmlclaaGreatDoorPF
import Derived.Test.YtcfgioklgmlclaaGreatDoorMS
import Derived.Test.YtcfgioklgmlclaaGreatDoorMP
import Derived.Test.YtcfgioklgmlclaaGreatDoorPD
set_option linter.unusedSimpArgs false
set_option linter.unusedVariables false
set_option maxRecDepth 100000
set_option maxHeartbeats 64000000
namespace Go.Proofs.YtcfgioklgmlclaaGreatDoor.aas
open Go.RowKit Base aP fE aH tZ Uo Ulw uq qL lJ MV rC X7 Nk Qv kX Fh J8
open Go.Proofs.YtcfgioklgmlclaaGreatDoor.dD (Dp)
structure Mp (w : World) (M : MT) (A : Option Addr) (c : Nat) : Prop where
 nc : M.ps.length ≤ c
 cm : c ≤ maxLen
 prm : kV w A M.ps.length (mF M.ps)
theorem Mp.below {w w' : World} {M : MT} {A : Option Addr} {c : Nat} (h : Mp w M A c) (hb : Below w.heap.size w w') : Mp w' M A c := ⟨h.nc, h.cm, h.prm.below hb⟩
structure Bp (w : World) (B : List UInt8) (A : Option Addr) (c : Nat) : Prop where
 nc : B.length ≤ c
 cm : c ≤ maxLen
 OW : dS w A B.length (ak B)
theorem Bp.below {w w' : World} {B : List UInt8} {A : Option Addr} {c : Nat} (h : Bp w B A c) (hb : Below w.heap.size w w') : Bp w' B A c := ⟨h.nc, h.cm, h.OW.below hb⟩
theorem dat_r {M : MT} {B : List UInt8} {er : Int} {e : Ending} {w' : World} (h : X8 M B er e w') : ∃ A c A2 c2, e = .returned (.tuple #[.agg #[.string (strOf M.ty), .string (strOf M.sub), .slice A M.ps.length c], .slice A2 B.length c2, .int .i64 er]) ∧ Mp w' M A c ∧ Bp w' B A2 c2 := by
 obtain ⟨A, c, A2, c2, h1, h2, h3, h4, h5, h6, h7⟩ := h
 exact ⟨A, c, A2, c2, h1, ⟨h2, h3, h4⟩, ⟨h5, h6, h7⟩⟩
theorem dat_s {M : MT} {B : List UInt8} {er : Int} {e : Ending} {w' : World} (h : kT M B er e w') : ∃ A c, e = .returned (.tuple #[.agg #[.string (strOf M.ty), .string (strOf M.sub), .slice A M.ps.length c], .string (strOf B), .int .i64 er]) ∧ Mp w' M A c := by
 obtain ⟨A, c, h1, h2, h3, h4⟩ := h
 exact ⟨A, c, h1, ⟨h2, h3, h4⟩⟩
theorem CU {u : U} {N : Nat} (h : u.aj.length + u.usr.length + u.dR.length + u.hst.length + u.txt.length + u.eF.length + (dD.aN u.aN).length ≤ N) (hl : -9223372036854775808 ≤ u.port) (hh : u.port ≤ 9223372036854775807) : (lU u).length ≤ N + 60 := by
 have hp : (dD.iI u.port).length ≤ 21 := Uu.Jb u.port hl hh
 have hc : (dD.iT (strOf u.usr) (strOf u.dR)).length ≤ u.usr.length + u.dR.length + 2 := by
  unfold dD.iT
  have e1 : (strOf u.usr).data.toList = u.usr := rfl
  have e2 : (strOf u.dR).data.toList = u.dR := rfl
  rw [e1, e2]
  split
  ·split
   ·simp
   ·simp only [List.length_append, List.length_cons, List.length_nil]; omega
  ·simp only [List.length_append, List.length_cons, List.length_nil]; omega
 have hm : (Kw u).length ≤ u.usr.length + u.dR.length + u.hst.length + 25 := by
  unfold Kw dD.kF
  have e1 : (strOf u.hst).data.toList = u.hst := rfl
  rw [e1]
  split
  ·simp only [List.length_append, List.length_cons, List.length_nil]; omega
  ·split
   ·simp only [List.length_cons, List.length_nil]; omega
   ·simp
 have hpl : (dD.lq u.opq (strOf u.txt) u.aN).length ≤ u.txt.length + (dD.aN u.aN).length := by
  unfold dD.lq
  have e1 : (strOf u.txt).data.toList = u.txt := rfl
  rw [e1]
  split <;> omega
 have hq : (if u.hq = true then (63 : UInt8) :: u.eF else []).length ≤ u.eF.length + 1 := by split <;> simp
 rw [CS]
 simp only [List.length_append, List.length_cons, List.length_nil]
 omega
def Ar (u : U) : List UInt8 := Kw u ++ dD.lq u.opq (strOf u.txt) u.aN ++ (if u.hq then 63 :: u.eF else [])
theorem Yv (u : U) : lU u = u.aj ++ 58 :: Ar u := by rw [CS]; unfold Ar; simp
def wZ (u : U) : List UInt8 := Lib.trimPrefix (lU u) xO
theorem ZE {u : U} (h : u.aj = DATA) : lU u = xO ++ wZ u := by
 unfold wZ Lib.trimPrefix
 have e : lU u = xO ++ Ar u := by rw [Yv, h]; rfl
 rw [e]
 have hp : Lib.hasPrefix (xO ++ Ar u) xO = true := by unfold Lib.hasPrefix; rw [List.isPrefixOf_iff_prefix]; exact List.prefix_append _ _
 rw [if_pos hp, List.drop_left]
theorem SC (u : U) : (wZ u).length ≤ (lU u).length := by
 unfold wZ Lib.trimPrefix
 split
 ·rw [List.length_drop]; omega
 ·exact Nat.le_refl _
def tH (u : U) : MT × List UInt8 := ans u.aj (wZ u)
def AY (u : U) : Int := err u.aj (wZ u)
structure Rs (w : World) (A : Option Addr) (n : Nat) (l : List ByteArray) : Prop where
 OW : dS w A n (l.map Value.string)
theorem Rs.below {w w' : World} {A : Option Addr} {n : Nat} {l : List ByteArray} (h : Rs w A n l) (hb : Below w.heap.size w w') : Rs w' A n l := ⟨h.OW.below hb⟩
structure Sh (u : U) (n c : Nat) : Prop where
 all : u.aj.length + u.usr.length + u.dR.length + u.hst.length + u.txt.length + u.eF.length + (dD.aN u.aN).length ≤ 400000
 lo : -9223372036854775808 ≤ u.port
 hi : u.port ≤ 9223372036854775807
 nc : n ≤ c
 cm : c ≤ maxLen
theorem ab5 {u : U} {N : Nat} (h : xY.Fit u N) (hN : N ≤ 400000) {w : World} {A : Option Addr} {n c : Nat} (hP : Pt w u A n c) : Sh u n c := by
 have h1 := h.all
 unfold xY.pl at h1
 exact ⟨by omega, by have := h.lo; omega, by have := h.hi; omega, hP.aN.2.1, hP.aN.2.2⟩
theorem Yu {u : U} {A : Option Addr} {n c : Nat} (hS : Sh u n c) (w : World) (hR : Rs w A n u.aN) (hT : Tab.Pow w) : Calls Tryz.prog 30 #[.agg #[.string (strOf u.aj), .string (strOf u.usr), .string (strOf u.dR), .string (strOf u.hst), .bool u.hh, .int .i64 u.port, .bool u.opq, .string (strOf u.txt), .slice A n c, .bool u.hq, .bool u.hf, .string (strOf u.eF), .string (strOf u.fG)]] w fun e w' => e = .returned (.string (strOf (lU u))) ∧ Below w.heap.size w w' := by
 have h := hS.all
 exact Uu.QI (strOf u.aj) (strOf u.usr) (strOf u.dR) (strOf u.hst) u.hh u.port u.opq (strOf u.txt) A n c u.aN u.hq u.hf (strOf u.eF) (strOf u.fG) w hR.OW hS.nc hS.cm (by rw [ah]; omega) (by rw [ah]; omega) (by rw [ah]; omega) (by rw [ah]; omega) (by rw [ah]; omega) (by rw [ah]; omega) hS.lo hS.hi (by omega) hT
theorem qA {u : U} {A : Option Addr} {n c : Nat} (hS : Sh u n c) (w : World) (hR : Rs w A n u.aN) (E : Env w) : Calls Tryz.prog 13 #[.agg #[.string (strOf u.aj), .string (strOf u.usr), .string (strOf u.dR), .string (strOf u.hst), .bool u.hh, .int .i64 u.port, .bool u.opq, .string (strOf u.txt), .slice A n c, .bool u.hq, .bool u.hf, .string (strOf u.eF), .string (strOf u.fG)]] w fun e w' => (∃ A1 c1 A2 c2, e = .returned (.tuple #[.agg #[.string (strOf (tH u).1.ty), .string (strOf (tH u).1.sub), .slice A1 (tH u).1.ps.length c1], .slice A2 (tH u).2.length c2, .int .i64 (AY u)]) ∧ Mp w' (tH u).1 A1 c1 ∧ Bp w' (tH u).2 A2 c2) ∧ Below w.heap.size w w' := by
 refine (RV u A n c (lU u) (wZ u) w (fun w1 hb => Yu hS w1 (hR.below hb) (Tab.Pow.below E.pow hb)) rfl ?_ E.max).mono ?_
 ·have h1 := SC u
  have h2 := CU hS.all hS.lo hS.hi
  omega
 ·rintro e w' ⟨h1, h2⟩
  exact ⟨dat_r h1, h2⟩
theorem fld (a b c : Value) (w : World) : (Instr.field 29 (.agg #[a, b, c]) 2).run Tryz.prog w = .ok c w := by kernel_rfl
def U1 : U := aaE.uM [59, 98, 97, 115, 101, 54, 52, 44, 89, 81]
theorem abx : aH.url [100, 97, 116, 97, 58, 59, 98, 97, 115, 101, 54, 52, 44, 89, 81] none = some U1 := aaE.TD (R := [59, 98, 97, 115, 101, 54, 52, 44, 89, 81]) (by decide) ⟨59, _, rfl, by decide⟩ ⟨[59, 98, 97, 115, 101, 54, 52, 44, 89], 81, rfl, by decide⟩
theorem YD : proc [59, 98, 97, 115, 101, 54, 52, 44, 89, 81] = some (fall, [97]) := by kernel_rfl
theorem abw : tH U1 = (fall, [97]) ∧ AY U1 = 0 := by
 have e : wZ U1 = [59, 98, 97, 115, 101, 54, 52, 44, 89, 81] := by kernel_rfl
 unfold tH AY ans err
 rw [e, YD, if_pos (by kernel_rfl), if_pos (by kernel_rfl)]
 exact ⟨rfl, rfl⟩
theorem Ep (w : World) (hE : Env w) : Calls Tryz.prog 11 #[] w fun e w' => e = .returned (.bool true) ∧ Below w.heap.size w w' := by
 obtain ⟨u, hu⟩ : ∃ u, u = U1 := ⟨_, rfl⟩
 have h1 := abx
 rw [← hu] at h1
 have f1 := xY.XY (M := 0) h1 (fun _ e => by cases e)
 have HF1 := hid f1
 have HP1 : Hid (∀ w, Env w → Calls Tryz.prog 16 #[.string ⟨#[100, 97, 116, 97, 58, 59, 98, 97, 115, 101, 54, 52, 44, 89, 81]⟩, .pointer none] w fun e w' => ∃ A' n' c', e = .returned (.tuple #[.agg #[.string (strOf u.aj), .string (strOf u.usr), .string (strOf u.dR), .string (strOf u.hst), .bool u.hh, .int .i64 u.port, .bool u.opq, .string (strOf u.txt), .slice A' n' c', .bool u.hq, .bool u.hf, .string (strOf u.eF), .string (strOf u.fG)], .int .i64 0]) ∧ Pt w' u A' n' c' ∧ Below w.heap.size w w') := fun w E => I4 (T := ⟨#[100, 97, 116, 97, 58, 59, 98, 97, 115, 101, 54, 52, 44, 89, 81]⟩) h1 (by decide) w E
 have hans := abw
 rw [← hu] at hans
 have je : Hid (∀ (A : Option Addr) (n c : Nat), Sh u n c → ∀ w, Rs w A n u.aN → Env w → Calls Tryz.prog 13 #[.agg #[.string (strOf u.aj), .string (strOf u.usr), .string (strOf u.dR), .string (strOf u.hst), .bool u.hh, .int .i64 u.port, .bool u.opq, .string (strOf u.txt), .slice A n c, .bool u.hq, .bool u.hf, .string (strOf u.eF), .string (strOf u.fG)]] w fun e w' => (∃ A1 c1 A2 c2, e = .returned (.tuple #[.agg #[.string (strOf fall.ty), .string (strOf fall.sub), .slice A1 fall.ps.length c1], .slice A2 1 c2, .int .i64 0]) ∧ Mp w' fall A1 c1 ∧ Bp w' [97] A2 c2) ∧ Below w.heap.size w w') := fun A n c hS w hR E => by
  have h := qA hS w hR E
  rw [hans.1, hans.2] at h
  exact h
 obtain ⟨SA, hSA⟩ : ∃ S, S = strOf [97] := ⟨_, rfl⟩
 have HSA := hid hSA
 have q1 : (SA.toList == [97]) = true := by rw [hSA, rC.aK]; rfl
 have q1' : SA.toList = [97] := by rw [hSA, rC.aK]
 obtain ⟨ES, hES⟩ : ∃ S, S = strOf tp := ⟨_, rfl⟩
 have HES : Hid (∀ (v : Value) (w : World), Calls Tryz.prog 27 #[.agg #[.string (strOf fall.ty), .string (strOf fall.sub), v]] w fun e w' => e = .returned (.string ES) ∧ Below w.heap.size w w') := fun v w => by
  rw [hES]
  exact Um.FC (strOf fall.ty) (strOf fall.sub) v w (by decide) (by decide)
 have q2 : (ES.toList == [116, 101, 120, 116, 47, 112, 108, 97, 105, 110]) = true := by rw [hES, rC.aK]; rfl
 have q2' : ES.toList = [116, 101, 120, 116, 47, 112, 108, 97, 105, 110] := by rw [hES, rC.aK]; rfl
 have HFA : Hid (∀ w : World, Calls Tryz.prog 20 #[] w fun e w' => (∃ A c, e = .returned (.agg #[.string (strOf fall.ty), .string (strOf fall.sub), .slice A 1 c])) ∧ Below w.heap.size w w') := fun w => (vZ w).mono fun e w' ⟨⟨A, c, h1, _⟩, h2⟩ => ⟨⟨A, c, h1⟩, h2⟩
 have HE := hid hE
 clear h1 f1 hans hu hSA hES hE
 go_enter Tryz.func11, Tryz.ntmps11
 go_wp2_with fail
 refine (HP1.out _ HE.out).mono ?_
 rintro e w1 ⟨A1, n1, c1, rfl, hpt, hb⟩
 have HB1 := hid hb
 have JU := hid (HE.out.below hb)
 clear hb
 have T1 := hid (hpt)
 clear hpt
 go_upto_region 2 with (fail)
 generalize gI : World.alloc _ _ = v2
 have hxa : UB v2 (w1.heap.size) u (.slice A1 n1 c1) := by rw [← gI]; exact heap_alloc_new _ _
 have hb : Below w1.heap.size w1 v2 := by rw [← gI]; exact (Below.refl _ _).alloc (Nat.le_refl _) _
 have X1 := hid hxa
 clear gI hxa
 have HB2 := hid (bel HB1.out hb)
 have TN := hid (JU.out.below hb)
 have T1_2 := hid (T1.out.below hb)
 clear hb
 have HSH := hid (ab5 HF1.out (by decide) T1_2.out)
 have HR0 := hid (⟨T1_2.out.aN.1⟩ : Rs _ A1 n1 u.aN)
 obtain ⟨ka0, ka1, ka2, ka3, ka4, ka5, ka6, ka7, ka8, ka9, Oy, Oz, OB⟩ := X1.out.facts
 go_wp2_with fail
 clear ka0 ka1 ka2 ka3 ka4 ka5 ka6 ka7 ka8 ka9 Oy Oz OB
 refine (je.out _ _ _ HSH.out _ HR0.out TN.out).mono ?_
 rintro e w3 ⟨⟨A3, c3, A4, c4, rfl, hmp, hbp⟩, hb⟩
 have HB3 := hid (bel HB2.out hb)
 have MW := hid (TN.out.below hb)
 have Yq := hid (T1_2.out.below hb)
 have X1_3 := hid (X1.out.below hb)
 have HR0_3 := hid (HR0.out.below hb)
 clear hb
 have M3 := hid (hmp)
 have B4 := hid (hbp)
 clear hmp hbp
 go_upto_region 3 with (fail)
 generalize gI : World.alloc _ _ = v4
 have hxa : B3 29 v4 (w3.heap.size) (.string (strOf fall.ty)) (.string (strOf fall.sub)) (.slice A3 fall.ps.length c3) := by rw [← gI]; exact heap_alloc_new _ _
 have hb : Below w3.heap.size w3 v4 := by rw [← gI]; exact (Below.refl _ _).alloc (Nat.le_refl _) _
 have X3 := hid hxa
 clear gI hxa
 have HB4 := hid (bel HB3.out hb)
 have Ya := hid (MW.out.below hb)
 have aaY := hid (Yq.out.below hb)
 have aa0 := hid (X1_3.out.below hb)
 have HR0_4 := hid (HR0_3.out.below hb)
 have M3_4 := hid (M3.out.below hb)
 have B4_4 := hid (B4.out.below hb)
 clear hb
 obtain ⟨m0, m1, m2⟩ := X3.out.facts
 have hs := aQ (P := Tryz.prog) 30 9 5 Tryz.underlying30 Tryz.underlying5 Tryz.underlying9 _ c4 (show dS _ A4 1 (ak [97]) from B4_4.out.OW)
 rw [← HSA.out] at hs
 go_wp2_with fail
 clear hs m0 m1 m2 q1 q1'
 refine (HES.out _ _).mono ?_
 rintro e w5 ⟨rfl, hb⟩
 have mO := hid (bel HB4.out hb)
 have E_5 := hid (Ya.out.below hb)
 have T1_5 := hid (aaY.out.below hb)
 have X1_5 := hid (aa0.out.below hb)
 have HR0_5 := hid (HR0_4.out.below hb)
 have M3_5 := hid (M3_4.out.below hb)
 have B4_5 := hid (B4_4.out.below hb)
 have X3_5 := hid (X3.out.below hb)
 clear hb
 have hfl := fld
 go_wp2_with fail
 clear q2 q2'
 refine (HFA.out _).mono ?_
 rintro e w6 ⟨⟨A6, c6, rfl⟩, hb⟩
 have sW := hid (bel mO.out hb)
 have E_6 := hid (E_5.out.below hb)
 have T1_6 := hid (T1_5.out.below hb)
 have X1_6 := hid (X1_5.out.below hb)
 have HR0_6 := hid (HR0_5.out.below hb)
 have M3_6 := hid (M3_5.out.below hb)
 have B4_6 := hid (B4_5.out.below hb)
 have aa1 := hid (X3_5.out.below hb)
 clear hb
 go_wp2
 go_ret
 exact ⟨rfl, sW.out⟩
end Go.Proofs.YtcfgioklgmlclaaGreatDoor.aas
