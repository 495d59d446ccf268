/- Texts that belong together: Law17d. -/
import Derived.Test.YtcfgioklgmlclaaGreatDoorPG
import Derived.Test.YtcfgioklgmlclaaGreatDoorPJ
import Derived.Test.YtcfgioklgmlclaaGreatDoorPK
set_option linter.unusedSimpArgs false
set_option linter.unusedVariables false
set_option maxRecDepth 100000
set_option maxHeartbeats 64000000
namespace Go.Proofs.YtcfgioklgmlclaaGreatDoor.Laws
open Go.RowKit Base aP fE aH tZ Uo Ulw uq qL lJ MV rC X7 Nk Qv kX Fh J8 aas DatX fZ aaE aad
open Go.Proofs.YtcfgioklgmlclaaGreatDoor.dD (Dp)
def tbl : ByteArray := ⟨#[48, 49, 50, 51, 52, 53, 54, 55, 56, 57, 97, 98, 99, 100, 101, 102]⟩
theorem ab7 (z : Int) (n : Nat) (hz : z = (n : Int)) (h : n < 16) : tbl.extract z.toNat (z + 1).toNat = strOf [hxd n] := by
 subst hz
 rw [show ((n : Int) + 1).toNat = n + 1 by omega]
 have H : ∀ n : Fin 16, tbl.extract n.val (n.val + 1) = strOf [hxd n.val] := by
  intro n
  apply ByteArray.ext
  revert n
  decide +kernel
 exact H ⟨n, h⟩
theorem QG (c : UInt8) : bits .and .u8 (c.toNat : Int) 15 = (c.toNat : Int) % 16 := by
 have H : ∀ n : Fin 256, bits .and .u8 (n.val : Int) 15 = (n.val : Int) % 16 := by decide +kernel
 exact H ⟨c.toNat, c.toNat_lt⟩
theorem tbl_size : tbl.size = 16 := rfl
theorem lM {e : Int} (h0 : 0 ≤ e) (h1 : e ≤ 255) : Value.int .u8 (IntKind.u8.wrap e) = .int .u8 e := by
 rw [IntKind.wrap_u8]
 congr 1
 omega
theorem bare_uM (R : List UInt8) : lU (uM R) = xO ++ R := by
 rw [CS]
 show DATA ++ [58] ++ Kw (uM R) ++ R ++ [] = _
 rw [show Kw (uM R) = [] from rfl]
 simp [DATA, xO]
theorem rest_uM (R : List UInt8) : wZ (uM R) = R := by
 have h := ZE (u := uM R) rfl
 rw [bare_uM] at h
 exact (List.append_cancel_left h).symm
theorem SN {R B : List UInt8} (h : proc R = some (fall, B)) : tH (uM R) = (fall, B) ∧ AY (uM R) = 0 := by
 have hs : (uM R).aj = DATA := rfl
 unfold tH AY ans err
 rw [rest_uM, h, if_pos hs, if_pos hs]
 exact ⟨rfl, rfl⟩
def mty (M : MT) : Keep := ⟨fun v w => ∃ A c, v = .agg #[.string (strOf M.ty), .string (strOf M.sub), .slice A M.ps.length c] ∧ Mp w M A c, fun _ _ _ hb ⟨A, c, h1, h2⟩ => ⟨A, c, h1, h2.below hb⟩⟩
theorem abl {M : MT} {A : Option Addr} {c : Nat} {w : World} (h : Mp w M A c) : (mty M).says (.agg #[.string (strOf M.ty), .string (strOf M.sub), .slice A M.ps.length c]) w := ⟨A, c, rfl, h⟩
theorem X4 (w : World) : Calls Tryz.prog 20 #[] w fun e w' => (∃ A c, e = .returned (.agg #[.string (strOf fall.ty), .string (strOf fall.sub), .slice A fall.ps.length c]) ∧ Mp w' fall A c) ∧ Below w.heap.size w w' :=
 (vZ w).mono fun _ _ ⟨⟨A, c, h1, h2, h3, h4⟩, hb⟩ => ⟨⟨A, c, h1, ⟨h2, h3, h4⟩⟩, hb⟩
theorem ab3 {M : MT} {A A2 : Option Addr} {c c2 : Nat} (w : World) (h : Mp w M A c) (k : Mp w M A2 c2) : Calls Tryz.prog 18 #[.agg #[.string (strOf M.ty), .string (strOf M.sub), .slice A M.ps.length c], .agg #[.string (strOf M.ty), .string (strOf M.sub), .slice A2 M.ps.length c2]] w fun e w' => e = .returned (.bool true) ∧ Below w.heap.size w w' := by
 have h1 := Nk.SI (strOf M.ty) (strOf M.sub) A M.ps.length c (mF M.ps) (strOf M.ty) (strOf M.sub) A2 M.ps.length c2 (mF M.ps) w h.prm k.prm h.nc h.cm k.nc k.cm
 rw [Qv.EN] at h1
 exact h1
theorem Ap (A : Option Addr) (n cap : Nat) (L : List UInt8) (w : World) (hr : dS w A n (ak L)) (hc : n ≤ cap) (_hm : cap * 1 ≤ 140737488351232) (hT : Tab.Pow w) (hL : pR w) (hM : Max w) (hU : uw w) :
  Calls Tryz.prog 5 #[.slice A n cap] w fun e w' => e = .returned (.bool true) ∧ Below w.heap.size w w' := by
 have HE := hid (⟨hT, hL, hM, hU⟩ : Env w)
 have Ws : Hid (∀ w : World, Env w → Calls Tryz.prog 11 #[] w fun e w' => e = .returned (.bool true) ∧ Below w.heap.size w w') := fun w E => Ep w E
 have WB := hid hr
 have hl : L.length = n := by rw [← bF]; exact hr.1
 clear hT hL hM hU _hm hr
 by_cases hn : n ≤ 300
 ·have hni : ¬ (300 : Int) < (n : Int) := by omega
  obtain ⟨u, hu⟩ : ∃ u : U, u = uM (Y1 L) := ⟨_, rfl⟩
  obtain ⟨v, hv⟩ : ∃ u : U, u = uM (XT L) := ⟨_, rfl⟩
  have hpl : (Y1 L).length ≤ 901 := by unfold Y1; rw [List.length_cons, FB]; omega
  have hbl : (XT L).length ≤ 700 := by unfold XT; rw [List.length_append, List.length_cons]; have := aaJ L; show 7 + _ ≤ _; omega
  obtain ⟨S1, hS1⟩ : ∃ S, S = strOf (xO ++ Y1 L) := ⟨_, rfl⟩
  obtain ⟨S2, hS2⟩ : ∃ S, S = strOf (xO ++ XT L) := ⟨_, rfl⟩
  have hs1 : S1.size ≤ 1000 := by rw [hS1, ah, List.length_append]; show 5 + _ ≤ _; omega
  have hs2 : S2.size ≤ 1000 := by rw [hS2, ah, List.length_append]; show 5 + _ ≤ _; omega
  have e1 : aH.url S1.data.toList none = some u := by rw [hS1, hu]; exact url_pln L
  have e2 : aH.url S2.data.toList none = some v := by rw [hS2, hv]; exact url_b64 L
  have f1 := xY.XY (M := 0) e1 (fun _ e => by cases e)
  have f2 := xY.XY (M := 0) e2 (fun _ e => by cases e)
  have HF1 : Hid (∀ (w : World) (A : Option Addr) (n c : Nat), Pt w u A n c → Sh u n c ∧ Rs w A n u.aN) := fun w A n c h => ⟨ab5 f1 (by rw [rC.dl]; omega) h, ⟨h.aN.1⟩⟩
  have HF2 : Hid (∀ (w : World) (A : Option Addr) (n c : Nat), Pt w v A n c → Sh v n c ∧ Rs w A n v.aN) := fun w A n c h => ⟨ab5 f2 (by rw [rC.dl]; omega) h, ⟨h.aN.1⟩⟩
  have HP1 : Hid (∀ w, Env w → Calls Tryz.prog 16 #[.string S1, .pointer none] w fun e w' => ∃ A' n' c', e = .returned (.tuple #[.agg #[.string (strOf u.aj), .string (strOf u.usr), .string (strOf u.dR), .string (strOf u.hst), .bool u.hh, .int .i64 u.port, .bool u.opq, .string (strOf u.txt), .slice A' n' c', .bool u.hq, .bool u.hf, .string (strOf u.eF), .string (strOf u.fG)], .int .i64 0]) ∧ Pt w' u A' n' c' ∧ Below w.heap.size w w') := fun w E => I4 e1 (by omega) w E
  have HP2 : Hid (∀ w, Env w → Calls Tryz.prog 16 #[.string S2, .pointer none] w fun e w' => ∃ A' n' c', e = .returned (.tuple #[.agg #[.string (strOf v.aj), .string (strOf v.usr), .string (strOf v.dR), .string (strOf v.hst), .bool v.hh, .int .i64 v.port, .bool v.opq, .string (strOf v.txt), .slice A' n' c', .bool v.hq, .bool v.hf, .string (strOf v.eF), .string (strOf v.fG)], .int .i64 0]) ∧ Pt w' v A' n' c' ∧ Below w.heap.size w w') := fun w E => I4 e2 (by omega) w E
  have HC1 : Hid (∀ (A : Option Addr) (n c : Nat), Sh u n c → ∀ w : World, Rs w A n u.aN → Env w → Calls Tryz.prog 13 #[.agg #[.string (strOf u.aj), .string (strOf u.usr), .string (strOf u.dR), .string (strOf u.hst), .bool u.hh, .int .i64 u.port, .bool u.opq, .string (strOf u.txt), .slice A n c, .bool u.hq, .bool u.hf, .string (strOf u.eF), .string (strOf u.fG)]] w fun e w' => (∃ A1 c1 A2 c2, e = .returned (.tuple #[.agg #[.string (strOf fall.ty), .string (strOf fall.sub), .slice A1 fall.ps.length c1], .slice A2 L.length c2, .int .i64 0]) ∧ Mp w' fall A1 c1 ∧ Bp w' L A2 c2) ∧ Below w.heap.size w w') := fun A n c hS w hR E => by
   have k := qA hS w hR E
   rw [hu, (SN (Y4 L)).1, (SN (Y4 L)).2, ← hu] at k
   exact k
  have HC2 : Hid (∀ (A : Option Addr) (n c : Nat), Sh v n c → ∀ w : World, Rs w A n v.aN → Env w → Calls Tryz.prog 13 #[.agg #[.string (strOf v.aj), .string (strOf v.usr), .string (strOf v.dR), .string (strOf v.hst), .bool v.hh, .int .i64 v.port, .bool v.opq, .string (strOf v.txt), .slice A n c, .bool v.hq, .bool v.hf, .string (strOf v.eF), .string (strOf v.fG)]] w fun e w' => (∃ A1 c1 A2 c2, e = .returned (.tuple #[.agg #[.string (strOf fall.ty), .string (strOf fall.sub), .slice A1 fall.ps.length c1], .slice A2 L.length c2, .int .i64 0]) ∧ Mp w' fall A1 c1 ∧ Bp w' L A2 c2) ∧ Below w.heap.size w w') := fun A n c hS w hR E => by
   have k := qA hS w hR E
   rw [hv, (SN (Y2 L)).1, (SN (Y2 L)).2, ← hv] at k
   exact k
  have HEN : Hid (∀ w : World, dS w A n (ak L) → Calls Tryz.prog 19 #[.slice A n cap] w fun e w' => e = .returned (.string (strOf (e64 L))) ∧ Below w.heap.size w w') := fun w h => B64H.VP A n cap L w h hc (by omega)
  have HAD : Hid (∀ w : World, (Op.stringOp .add ⟨#[100, 97, 116, 97, 58, 59, 98, 97, 115, 101, 54, 52, 44]⟩ (strOf (e64 L))).run Tryz.prog w = .ok (.string S2) w) := fun w => by
   rw [hS2]
   have := aaJ L
   have h := bf (P := Tryz.prog) ⟨#[100, 97, 116, 97, 58, 59, 98, 97, 115, 101, 54, 52, 44]⟩ (strOf (e64 L)) w (by rw [ah]; show 13 + _ ≤ _; omega)
   exact h
  obtain ⟨SL, hSL⟩ : ∃ S, S = strOf L := ⟨_, rfl⟩
  have HSL := hid hSL
  have qs : (SL.toList == SL.toList) = true := beq_self_eq_true _
  have FT := hid hS1
  have HL := hid hl
  clear e1 e2 f1 f2 hu hv hpl hbl hS1 hS2 hs1 hs2 hSL hl
  go_enter Tryz.func5, Tryz.ntmps5
  go_wp2_with fail
  refine (Ws.out _ HE.out).mono ?_
  rintro e w1 ⟨rfl, hb⟩
  have HB1 := hid hb
  have JU := hid (HE.out.below hb)
  have RD_1 := hid (WB.out.below hb)
  clear hb
  go_wp2
  go_loopw [3, 4, 26] (fun vs _ vk wr => ∃ j : Nat, j ≤ n ∧ vk = .int .i64 (j : Int) ∧ vs = .string (strOf (xO ++ 44 :: aV (L.take j))) ∧ Below w1.heap.size w1 wr) (fun _ _ vk _ => n - (intOf vk).toNat)
  case atStart => exact ⟨0, Nat.zero_le _, rfl, rfl, Below.refl _ _⟩
  case round =>
   obtain ⟨j, hj, rfl, rfl, hbl⟩ := hrel
   by_cases hlt : j < n
   ·
    have hrr := RD_1.out.below hbl
    obtain ⟨g, off, hA, hgg, _⟩ := hrr.spot (by omega)
    subst hA
    obtain ⟨c, hc1⟩ : ∃ c, c = L[j]'(by rw [HL.out]; exact hlt) := ⟨_, rfl⟩
    have hcell : wr.cell? ⟨g, off + j, none⟩ = some (.int .u8 (c.toNat : Int)) := by rw [hc1]; exact hrr.byte j (by rw [HL.out]; exact hlt)
    have HS : Hid (aV (L.take (j + 1)) = (aV (L.take j) ++ [37]) ++ [hxd (c.toNat / 16)] ++ [hxd (c.toNat % 16)]) := by
     show _ = _
     rw [List.take_succ_eq_append_getElem (by rw [HL.out]; exact hlt), ← hc1, aah]
    obtain ⟨P, hP⟩ : ∃ P, P = xO ++ 44 :: aV (L.take j) := ⟨_, rfl⟩
    have hPl : P.length ≤ 906 := by rw [hP, List.length_append, List.length_cons, FB]; have := List.length_take_le j L; show 5 + _ ≤ _; omega
    rw [← hP]
    have hc256 := c.toNat_lt
    have hji : (j : Int) < (n : Int) := by omega
    obtain ⟨P1, hP1⟩ : ∃ Q, Q = P ++ [37] := ⟨_, rfl⟩
    obtain ⟨P2, hP2⟩ : ∃ Q, Q = P1 ++ [hxd (c.toNat / 16)] := ⟨_, rfl⟩
    obtain ⟨P3, hP3⟩ : ∃ Q, Q = P2 ++ [hxd (c.toNat % 16)] := ⟨_, rfl⟩
    have hp1 : P1.length ≤ 907 := by rw [hP1, List.length_append]; show _ + 1 ≤ _; omega
    have hp2 : P2.length ≤ 908 := by rw [hP2, List.length_append]; show _ + 1 ≤ _; omega
    have HA1 : Hid (∀ w : World, (Op.stringOp .add (strOf P) ⟨#[37]⟩).run Tryz.prog w = .ok (.string (strOf P1)) w) := fun w => by rw [hP1]; exact bf _ _ w (by rw [ah]; show _ + 1 ≤ _; omega)
    have HA2 : Hid (∀ w : World, (Op.stringOp .add (strOf P1) (strOf [hxd (c.toNat / 16)])).run Tryz.prog w = .ok (.string (strOf P2)) w) := fun w => by rw [hP2]; exact bf _ _ w (by rw [ah, ah]; show _ + 1 ≤ _; omega)
    have HA3 : Hid (∀ w : World, (Op.stringOp .add (strOf P2) (strOf [hxd (c.toNat % 16)])).run Tryz.prog w = .ok (.string (strOf P3)) w) := fun w => by rw [hP3]; exact bf _ _ w (by rw [ah, ah]; show _ + 1 ≤ _; omega)
    have HP3 : Hid (P3 = xO ++ 44 :: aV (L.take (j + 1))) := by show _ = _; rw [hP3, hP2, hP1, hP, HS.out]; simp
    clear hrr hc1 hP hlt hj hP1 hP2 hP3 hp1 hp2 hPl HS
    go_upto_region 7 with (fail)
    refine dG (by kernel_rfl) 28 [is (.string (strOf P)), is (.string (strOf P1)), is (.slice (some ⟨g, off, none⟩) n cap), is (.int .i64 (j : Int)), is (.pointer (some ⟨g, off + j, none⟩)), is (.int .u8 (c.toNat : Int)), is (.int .u8 ((c.toNat : Int) / 16)), is (.slice (some ⟨g, off, none⟩) n cap), is (.int .i64 (j : Int)), is (.pointer (some ⟨g, off + j, none⟩)), is (.int .u8 (c.toNat : Int)), is (.int .u8 ((c.toNat : Int) / 16)), is (.int .u8 ((c.toNat : Int) / 16 + 1)), is (.string (strOf [hxd (c.toNat / 16)])), is (.string (strOf P2)), is (.slice (some ⟨g, off, none⟩) n cap), is (.int .i64 (j : Int)), is (.pointer (some ⟨g, off + j, none⟩)), is (.int .u8 (c.toNat : Int)), is (.int .u8 ((c.toNat : Int) % 16)), is (.slice (some ⟨g, off, none⟩) n cap), is (.int .i64 (j : Int)), is (.pointer (some ⟨g, off + j, none⟩)), is (.int .u8 (c.toNat : Int)), is (.int .u8 ((c.toNat : Int) % 16)), is (.int .u8 ((c.toNat : Int) % 16 + 1)), is (.string (strOf [hxd (c.toNat % 16)])), is (.string (strOf P3))] [[], [0], [], [], [2, 3], [2, 3, 4], [2, 3, 4, 5], [], [], [7, 8], [7, 8, 9], [7, 8, 9, 10], [7, 8, 9, 10, 11], [2, 3, 4, 5, 6, 7, 8, 9, 10, 11, 12], [0, 1, 2, 3, 4, 5, 6, 7, 8, 9, 10, 11, 12, 13], [], [], [15, 16], [15, 16, 17], [15, 16, 17, 18], [], [], [20, 21], [20, 21, 22], [20, 21, 22, 23], [20, 21, 22, 23, 24], [15, 16, 17, 18, 19, 20, 21, 22, 23, 24, 25], [0, 1, 2, 3, 4, 5, 6, 7, 8, 9, 10, 11, 12, 13, 14, 15, 16, 17, 18, 19, 20, 21, 22, 23, 24, 25, 26], [0, 1, 2, 3, 4, 5, 6, 7, 8, 9, 10, 11, 12, 13, 14, 15, 16, 17, 18, 19, 20, 21, 22, 23, 24, 25, 26, 27]] (by kernel_rfl) ?_ ?_
    ·refine ⟨?_, ?_, ?_, ?_, ?_, ?_, ?_, ?_, ?_, ?_, ?_, ?_, ?_, ?_, ?_, ?_, ?_, ?_, ?_, ?_, ?_, ?_, ?_, ?_, ?_, ?_, ?_, ?_, trivial⟩
     all_goals (intro t wq hbq hh K hK; simp only [filled, bH, upd, Have, is, any, row, pick, Act.put, List.setIfInBounds_toArray, List.set_cons_zero, List.set_cons_succ, Nat.reduceAdd, Nat.reduceEqDiff, reduceIte, List.tail_cons, List.headD_cons] at hh hK ⊢; (try simp only [hh] at hK ⊢); try clear hh)
     ·go_simp; exact hK _ _ (Below.refl _ _) rfl
     ·have hadd := HA1.out wq; go_simp; exact hK _ _ (Below.refl _ _) rfl
     iterate 3 · go_simp; exact hK _ _ (Below.refl _ _) rfl
     ·have hq := (hbq.cell (p := ⟨g, off + j, none⟩) hgg).trans hcell; go_simp; exact hK _ _ (Below.refl _ _) rfl
     ·go_simp; first | exact hK _ _ (Below.refl _ _) rfl | exact hK _ _ (Below.refl _ _) (lM (by omega) (by omega))
     iterate 3 · go_simp; exact hK _ _ (Below.refl _ _) rfl
     ·have hq := (hbq.cell (p := ⟨g, off + j, none⟩) hgg).trans hcell; go_simp; exact hK _ _ (Below.refl _ _) rfl
     iterate 2 · go_simp; first | exact hK _ _ (Below.refl _ _) rfl | exact hK _ _ (Below.refl _ _) (lM (by omega) (by omega))
     ·have hz1 : 0 ≤ (c.toNat : Int) / 16 + 1 ∧ (c.toNat : Int) / 16 + 1 ≤ 16 := by omega
      have hz2 : 0 ≤ (c.toNat : Int) / 16 ∧ (c.toNat : Int) / 16 ≤ (c.toNat : Int) / 16 + 1 := by omega
      go_simp
      try rw [if_pos hz1]
      try rw [if_pos hz2]
      exact hK _ _ (Below.refl _ _) (congrArg Value.string (ab7 ((c.toNat : Int) / 16) (c.toNat / 16) (by omega) (by omega)))
     ·have hadd := HA2.out wq; go_simp; exact hK _ _ (Below.refl _ _) rfl
     iterate 3 · go_simp; exact hK _ _ (Below.refl _ _) rfl
     ·have hq := (hbq.cell (p := ⟨g, off + j, none⟩) hgg).trans hcell; go_simp; exact hK _ _ (Below.refl _ _) rfl
     ·go_simp; exact hK _ _ (Below.refl _ _) (congrArg (Value.int .u8) (QG c))
     iterate 3 · go_simp; exact hK _ _ (Below.refl _ _) rfl
     ·have hq := (hbq.cell (p := ⟨g, off + j, none⟩) hgg).trans hcell; go_simp; exact hK _ _ (Below.refl _ _) rfl
     ·go_simp; exact hK _ _ (Below.refl _ _) (congrArg (Value.int .u8) (QG c))
     ·go_simp; first | exact hK _ _ (Below.refl _ _) rfl | exact hK _ _ (Below.refl _ _) (lM (by omega) (by omega))
     ·have hz1 : 0 ≤ (c.toNat : Int) % 16 + 1 ∧ (c.toNat : Int) % 16 + 1 ≤ 16 := by omega
      have hz2 : 0 ≤ (c.toNat : Int) % 16 ∧ (c.toNat : Int) % 16 ≤ (c.toNat : Int) % 16 + 1 := by omega
      go_simp
      try rw [if_pos hz1]
      try rw [if_pos hz2]
      exact hK _ _ (Below.refl _ _) (congrArg Value.string (ab7 ((c.toNat : Int) % 16) (c.toNat % 16) (by omega) (by omega)))
     ·have hadd := HA3.out wq; go_simp; exact hK _ _ (Below.refl _ _) rfl
    ·intro t wq hbq hh
     have f27 := aS hh 27 (by decide)
     simp only [pick] at f27
     replace f27 : t 27 = (.string (strOf P3)) := f27
     clear hh
     simp only [filled, bH, upd, Have, is, any, row, pick, Act.put, List.setIfInBounds_toArray, List.set_cons_zero, List.set_cons_succ, Nat.reduceAdd, Nat.reduceEqDiff, reduceIte]
     simp only [f27]
     have hb2 := hbl.trans (hbq.mono hbl.size)
     clear hbl hbq hcell
     go_wp2
     go_roundw
     case rel => exact ⟨j + 1, by omega, by go_num, by rw [HP3.out], hb2⟩
     case measure => simp [intOf]; omega
   ·
    obtain rfl : j = n := by omega
    have hS : strOf (xO ++ 44 :: aV (L.take j)) = S1 := by rw [FT.out, List.take_of_length_le (by rw [HL.out]; exact Nat.le_refl _)]; rfl
    rw [hS]
    have hb := hbl
    clear hbl hS hj hlt
    have HB2 := hid (bel HB1.out hb)
    have TN := hid (JU.out.below hb)
    have RD_2 := hid (RD_1.out.below hb)
    clear hb
    go_wp2_with fail
    refine (HP1.out _ TN.out).mono ?_
    rintro e w3 ⟨A1, n1, c1, rfl, hpt, hb⟩
    have HB3 := hid (bel HB2.out hb)
    have MW := hid (TN.out.below hb)
    have RD_3 := hid (RD_2.out.below hb)
    clear hb
    have T1 := hid (hpt)
    clear hpt
    go_upto_region 10 with (fail)
    generalize gI : World.alloc _ _ = v4
    have hxa : UB v4 (w3.heap.size) u (.slice A1 n1 c1) := by rw [← gI]; exact heap_alloc_new _ _
    have hb : Below w3.heap.size w3 v4 := by rw [← gI]; exact (Below.refl _ _).alloc (Nat.le_refl _) _
    have X1 := hid hxa
    clear gI hxa
    have HB4 := hid (bel HB3.out hb)
    have Ya := hid (MW.out.below hb)
    have RD_4 := hid (RD_3.out.below hb)
    have aaY := hid (T1.out.below hb)
    clear hb
    go_wp2_with fail
    refine (HEN.out _ RD_4.out).mono ?_
    rintro e w5 ⟨rfl, hb⟩
    have mO := hid (bel HB4.out hb)
    have E_5 := hid (Ya.out.below hb)
    have RD_5 := hid (RD_4.out.below hb)
    have T1_5 := hid (aaY.out.below hb)
    have X1_5 := hid (X1.out.below hb)
    clear hb
    have had := HAD.out
    go_wp2_with fail
    clear had
    refine (HP2.out _ E_5.out).mono ?_
    rintro e wz ⟨A2, n2, c2, rfl, hpt, hb⟩
    have sW := hid (bel mO.out hb)
    have E_6 := hid (E_5.out.below hb)
    have RD_6 := hid (RD_5.out.below hb)
    have T1_6 := hid (T1_5.out.below hb)
    have X1_6 := hid (X1_5.out.below hb)
    clear hb
    have T2 := hid (hpt)
    clear hpt
    go_upto_region 11 with (fail)
    generalize gI : World.alloc _ _ = v7
    have hxa : UB v7 (wz.heap.size) v (.slice A2 n2 c2) := by rw [← gI]; exact heap_alloc_new _ _
    have hb : Below wz.heap.size wz v7 := by rw [← gI]; exact (Below.refl _ _).alloc (Nat.le_refl _) _
    have X2 := hid hxa
    clear gI hxa
    have rD := hid (bel sW.out hb)
    have E_7 := hid (E_6.out.below hb)
    have RD_7 := hid (RD_6.out.below hb)
    have T1_7 := hid (T1_6.out.below hb)
    have X1_7 := hid (X1_6.out.below hb)
    have T2_7 := hid (T2.out.below hb)
    clear hb
    obtain ⟨hS, hR⟩ := HF1.out _ _ _ _ T1_7.out
    have HSa := hid hS
    have HRa := hid hR
    clear hS hR
    obtain ⟨k0, k1, k2, k3, k4, k5, k6, k7, k8, k9, k10, k11, k12⟩ := X1_7.out.facts
    go_wp2_with fail
    clear k0 k1 k2 k3 k4 k5 k6 k7 k8 k9 k10 k11 k12
    refine (HC1.out _ _ _ HSa.out _ HRa.out E_7.out).mono ?_
    rintro e w8 ⟨⟨A3, c3, A4, c4, rfl, hmp, hbp⟩, hb⟩
    have PO := hid (bel rD.out hb)
    have E_8 := hid (E_7.out.below hb)
    have RD_8 := hid (RD_7.out.below hb)
    have T1_8 := hid (T1_7.out.below hb)
    have X1_8 := hid (X1_7.out.below hb)
    have T2_8 := hid (T2_7.out.below hb)
    have X2_8 := hid (X2.out.below hb)
    clear hb
    clear HSa HRa
    have M3 := hid (hmp)
    have B4 := hid (hbp)
    clear hmp hbp
    go_upto_region 12 with (fail)
    generalize gI : World.alloc _ _ = v9
    have hxa : B3 29 v9 (w8.heap.size) (.string (strOf fall.ty)) (.string (strOf fall.sub)) (.slice A3 fall.ps.length c3) := by rw [← gI]; exact heap_alloc_new _ _
    have hb : Below w8.heap.size w8 v9 := by rw [← gI]; exact (Below.refl _ _).alloc (Nat.le_refl _) _
    have Y3 := hid hxa
    clear gI hxa
    have HB9 := hid (bel PO.out hb)
    have E_9 := hid (E_8.out.below hb)
    have RD_9 := hid (RD_8.out.below hb)
    have T1_9 := hid (T1_8.out.below hb)
    have X1_9 := hid (X1_8.out.below hb)
    have T2_9 := hid (T2_8.out.below hb)
    have X2_9 := hid (X2_8.out.below hb)
    have M3_9 := hid (M3.out.below hb)
    have B4_9 := hid (B4.out.below hb)
    clear hb
    obtain ⟨hS, hR⟩ := HF2.out _ _ _ _ T2_9.out
    have HSa := hid hS
    have HRa := hid hR
    clear hS hR
    obtain ⟨k0, k1, k2, k3, k4, k5, k6, k7, k8, k9, k10, k11, k12⟩ := X2_9.out.facts
    go_wp2_with fail
    clear k0 k1 k2 k3 k4 k5 k6 k7 k8 k9 k10 k11 k12
    refine (HC2.out _ _ _ HSa.out _ HRa.out E_9.out).mono ?_
    rintro e w10 ⟨⟨A5, c5, A6, c6, rfl, hmp, hbp⟩, hb⟩
    have HB10 := hid (bel HB9.out hb)
    have E_10 := hid (E_9.out.below hb)
    have RD_10 := hid (RD_9.out.below hb)
    have T1_10 := hid (T1_9.out.below hb)
    have X1_10 := hid (X1_9.out.below hb)
    have T2_10 := hid (T2_9.out.below hb)
    have X2_10 := hid (X2_9.out.below hb)
    have M3_10 := hid (M3_9.out.below hb)
    have B4_10 := hid (B4_9.out.below hb)
    have Y3_10 := hid (Y3.out.below hb)
    clear hb
    clear HSa HRa
    have M5 := hid (hmp)
    have B6 := hid (hbp)
    clear hmp hbp
    go_upto_region 13 with (fail)
    generalize gI : World.alloc _ _ = v11
    have hxa : B3 29 v11 (w10.heap.size) (.string (strOf fall.ty)) (.string (strOf fall.sub)) (.slice A5 fall.ps.length c5) := by rw [← gI]; exact heap_alloc_new _ _
    have hb : Below w10.heap.size w10 v11 := by rw [← gI]; exact (Below.refl _ _).alloc (Nat.le_refl _) _
    have Y5 := hid hxa
    clear gI hxa
    have HB11 := hid (bel HB10.out hb)
    have E_11 := hid (E_10.out.below hb)
    have RD_11 := hid (RD_10.out.below hb)
    have T1_11 := hid (T1_10.out.below hb)
    have X1_11 := hid (X1_10.out.below hb)
    have T2_11 := hid (T2_10.out.below hb)
    have X2_11 := hid (X2_10.out.below hb)
    have M3_11 := hid (M3_10.out.below hb)
    have B4_11 := hid (B4_10.out.below hb)
    have Y3_11 := hid (Y3_10.out.below hb)
    have M5_11 := hid (M5.out.below hb)
    have B6_11 := hid (B6.out.below hb)
    clear hb
    go_upto_region 14 with (fail)
    refine dY (by kernel_rfl) [is (.bool true), is (.bool true), is (.slice A4 L.length c4), is (.string SL), is (.slice A j cap), is (.string SL), is (.bool true), is (.bool true), is (.bool true), is (.slice A6 L.length c6), is (.string SL), is (.slice A j cap), is (.string SL), is (.bool true), is (.bool true), is (.bool true), is (.agg #[.string (strOf fall.ty), .string (strOf fall.sub), .slice A3 fall.ps.length c3]), mty fall, is (.bool true), is (.bool true), is (.bool true), is (.agg #[.string (strOf fall.ty), .string (strOf fall.sub), .slice A5 fall.ps.length c5]), mty fall, is (.bool true), is (.bool true), is (.bool true)] [[], [0], [1], [1, 2], [1], [1, 4], [1, 3, 5], [1, 6], [7], [8], [8, 9], [8], [8, 11], [8, 10, 12], [8, 13], [14], [15], [15], [15, 16, 17], [15, 18], [19], [20], [20], [20, 21, 22], [20, 23], [24]] (by kernel_rfl) ?_ ?_
    ·refine ⟨?_, ?_, ?_, ?_, ?_, ?_, ?_, ?_, ?_, ?_, ?_, ?_, ?_, ?_, ?_, ?_, ?_, ?_, ?_, ?_, ?_, ?_, ?_, ?_, ?_, ?_, trivial⟩
     all_goals (intro t wq hbq hh K hK; simp only [filled, upd, Have, is, any, row, pick, Act.put, List.setIfInBounds_toArray, List.set_cons_zero, List.set_cons_succ, Nat.reduceAdd, Nat.reduceEqDiff, reduceIte, List.tail_cons, List.headD_cons] at hh hK ⊢)
     ·(try clear hh); go_simp; exact hK _ _ (Below.refl _ _) rfl
     iterate 2 · simp only [hh] at hK ⊢; clear hh; go_simp; exact hK _ _ (Below.refl _ _) rfl
     ·simp only [hh] at hK ⊢; clear hh; have hs := aQ (P := Tryz.prog) 30 9 5 Tryz.underlying30 Tryz.underlying5 Tryz.underlying9 _ c4 (B4_11.out.OW.below hbq); rw [← HSL.out] at hs; go_simp; exact hK _ _ (Below.refl _ _) rfl
     ·simp only [hh] at hK ⊢; clear hh; go_simp; exact hK _ _ (Below.refl _ _) rfl
     ·simp only [hh] at hK ⊢; clear hh; have hs := aQ (P := Tryz.prog) 30 9 5 Tryz.underlying30 Tryz.underlying5 Tryz.underlying9 _ cap (RD_11.out.below hbq); rw [← HSL.out] at hs; go_simp; exact hK _ _ (Below.refl _ _) rfl
     ·simp only [hh] at hK ⊢; clear hh; go_simp; first | exact hK _ _ (Below.refl _ _) rfl | (rw [qs]; exact hK _ _ (Below.refl _ _) rfl)
     iterate 3 · simp only [hh] at hK ⊢; clear hh; go_simp; exact hK _ _ (Below.refl _ _) rfl
     ·simp only [hh] at hK ⊢; clear hh; have hs := aQ (P := Tryz.prog) 30 9 5 Tryz.underlying30 Tryz.underlying5 Tryz.underlying9 _ c6 (B6_11.out.OW.below hbq); rw [← HSL.out] at hs; go_simp; exact hK _ _ (Below.refl _ _) rfl
     ·simp only [hh] at hK ⊢; clear hh; go_simp; exact hK _ _ (Below.refl _ _) rfl
     ·simp only [hh] at hK ⊢; clear hh; have hs := aQ (P := Tryz.prog) 30 9 5 Tryz.underlying30 Tryz.underlying5 Tryz.underlying9 _ cap (RD_11.out.below hbq); rw [← HSL.out] at hs; go_simp; exact hK _ _ (Below.refl _ _) rfl
     ·simp only [hh] at hK ⊢; clear hh; go_simp; first | exact hK _ _ (Below.refl _ _) rfl | (rw [qs]; exact hK _ _ (Below.refl _ _) rfl)
     iterate 2 · simp only [hh] at hK ⊢; clear hh; go_simp; exact hK _ _ (Below.refl _ _) rfl
     ·simp only [hh] at hK ⊢; clear hh; obtain ⟨m0, m1, m2⟩ := (Y3_11.out.below hbq).facts; go_simp; exact hK _ _ (Below.refl _ _) rfl
     ·simp only [hh] at hK ⊢; clear hh; go_simp; refine (X4 _).mono ?_; rintro e wz ⟨⟨Af, cf, rfl, hmf⟩, hbz⟩; exact hK _ _ hbz (abl hmf)
     ·have e17 := hh.2.2.1; obtain ⟨A17, c17, e17, hp17⟩ := e17; simp only [hh, e17] at hK ⊢; clear hh; go_simp; refine (ab3 _ (M3_11.out.below hbq) hp17).mono ?_; rintro e wz ⟨rfl, hbz⟩; exact hK _ _ hbz rfl
     iterate 2 · simp only [hh] at hK ⊢; clear hh; go_simp; exact hK _ _ (Below.refl _ _) rfl
     ·simp only [hh] at hK ⊢; clear hh; obtain ⟨m0, m1, m2⟩ := (Y5.out.below hbq).facts; go_simp; exact hK _ _ (Below.refl _ _) rfl
     ·simp only [hh] at hK ⊢; clear hh; go_simp; refine (X4 _).mono ?_; rintro e wz ⟨⟨Af, cf, rfl, hmf⟩, hbz⟩; exact hK _ _ hbz (abl hmf)
     ·have e22 := hh.2.2.1; obtain ⟨A22, c22, e22, hp22⟩ := e22; simp only [hh, e22] at hK ⊢; clear hh; go_simp; refine (ab3 _ (M5_11.out.below hbq) hp22).mono ?_; rintro e wz ⟨rfl, hbz⟩; exact hK _ _ hbz rfl
     iterate 2 · simp only [hh] at hK ⊢; clear hh; go_simp; exact hK _ _ (Below.refl _ _) rfl
    ·intro t wq hbq hh
     have f25 := aS hh 25 (by decide)
     simp only [pick] at f25
     replace f25 : t 25 = (.bool true) := f25
     clear hh
     simp only [filled, upd, Have, is, any, row, pick, Act.put, List.setIfInBounds_toArray, List.set_cons_zero, List.set_cons_succ, Nat.reduceAdd, Nat.reduceEqDiff, reduceIte]
     simp only [f25]
     have hb := bel HB11.out hbq
     go_wp2
     go_ret
     exact ⟨rfl, hb⟩
 ·have hni : (300 : Int) < (n : Int) := by omega
  clear hl hn hc
  go_enter Tryz.func5, Tryz.ntmps5
  go_wp2_with fail
  refine (Ws.out _ HE.out).mono ?_
  rintro e w1 ⟨rfl, hb⟩
  have HB1 := hid hb
  have JU := hid (HE.out.below hb)
  clear hb
  go_wp2_with fail
  refine (Ws.out _ JU.out).mono ?_
  rintro e w2 ⟨rfl, hb⟩
  have HB2 := hid (bel HB1.out hb)
  have TN := hid (JU.out.below hb)
  clear hb
  go_wp2
  go_ret
  exact ⟨rfl, HB2.out⟩
end Go.Proofs.YtcfgioklgmlclaaGreatDoor.Laws
