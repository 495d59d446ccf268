/- Texts that belong together: X8, UrlH, DatV. -/
import Derived.Test.YtcfgioklgmlclaaGreatDoorPF
import Derived.Test.YtcfgioklgmlclaaGreatDoorPE
import Derived.Test.YtcfgioklgmlclaaGreatDoorPI
import Derived.Test.YtcfgioklgmlclaaGreatDoorMO
import Derived.Test.YtcfgioklgmlclaaGreatDoorMA
import Derived.Test.YtcfgioklgmlclaaGreatDoorMX
import Derived.Deep.DeepCutAuto
import Derived.Test.YtcfgioklgmlclaaGreatDoorPG
set_option linter.unusedSimpArgs false
set_option linter.unusedVariables false
set_option maxRecDepth 100000
set_option maxHeartbeats 64000000
namespace Go.Proofs.YtcfgioklgmlclaaGreatDoor.X8
open Go.RowKit Base fZ aP fE nV CG uq qL lJ X9 MV rC X7 aH tZ
theorem abo : ∀ L : List UInt8, dV 44 L = (tw [44] L, (dw [44] L).drop 1, decide ((tw [44] L).length < L.length))
 | [] => rfl
 | c :: L => by
  have ih := abo L
  unfold dV
  by_cases h : c = 44
  ·subst h
   rw [if_pos rfl]
   rfl
  ·have h2 : ([44] : List UInt8).contains c = false := by simpa using h
   have e1 : tw [44] (c :: L) = c :: tw [44] L := by unfold tw; rw [List.takeWhile_cons_of_pos (by rw [h2]; rfl)]
   have e2 : dw [44] (c :: L) = dw [44] L := by unfold dw; rw [List.dropWhile_cons_of_pos (by rw [h2]; rfl)]
   rw [if_neg h, ih, e1, e2, List.length_cons, List.length_cons]
   simp
theorem qc (L : List UInt8) : dw [44] L = L.drop (tw [44] L).length := by
 conv => rhs; rw [← FN [44] L]
 rw [show ((tw [44] (tw [44] L ++ dw [44] L)).length) = (tw [44] L).length by rw [FN], List.drop_left]
theorem Ew {e : Ending} {w' : World} {er : Int} (he : e = .returned (.tuple #[.agg #[.string ⟨#[]⟩, .string ⟨#[]⟩, .slice none 0 0], .string ⟨#[]⟩, .int .i64 er])) : kT lJ.xH [] er e w' :=
 ⟨none, 0, he, Nat.le_refl _, Nat.zero_le _, rfl, fun j hj => by simp [mF, xH] at hj⟩
theorem last_of (V : List UInt8) (h : V ≠ []) : ∃ N d, V = N ++ [d] := by
 rcases List.eq_nil_or_concat V with e | ⟨N, d, e⟩
 ·exact absurd e h
 ·exact ⟨N, d, by rw [e, List.concat_eq_append]⟩
theorem ZT (L : List UInt8) (d c : UInt8) : Lib.hasSuffix (L ++ [d]) [c] = decide (d = c) := by
 rw [Bool.eq_iff_iff]
 unfold Lib.hasSuffix
 rw [List.isSuffixOf_iff_suffix, decide_eq_true_iff]
 constructor
 ·rintro ⟨t, e⟩
  exact (List.append_inj' e rfl).2 |> fun h => (List.cons.inj h).1.symm
 ·rintro rfl
  exact ⟨L, rfl⟩
theorem nat_ne {a b : UInt8} (h : a ≠ b) : ¬ (a.toNat : Int) = (b.toNat : Int) := fun e => h (UInt8.toNat_inj.1 (by omega))
theorem hd_cases (S : ByteArray) (H : List UInt8) (h : S.data.toList = H) : (∃ x : UInt8, (S.toList == []) = false ∧ S.toList.isEmpty = false ∧ (∃ h0 : 0 < S.size, S[0] = x) ∧ (x.toNat : Int) = 59 ∧ ((x.toNat : Int) == 59) = true ∧ iK H = tp ++ H) ∨ (S.toList = [] ∧ (S.toList == []) = true ∧ iK H = H) ∨ ∃ x : UInt8, (S.toList == []) = false ∧ S.toList.isEmpty = false ∧ (∃ h0 : 0 < S.size, S[0] = x) ∧ ¬ (x.toNat : Int) = 59 ∧ ((x.toNat : Int) == 59) = false ∧ iK H = H := by
 cases H with
 | nil => exact .inr (.inl ⟨by rw [Lib.toList_data, h], by rw [Lib.toList_data, h]; rfl, rfl⟩)
 | cons x t =>
  have hs : 0 < S.size := by rw [← dl, h]; simp
  have h0 : S[0] = x := by
   have : S.data.toList[0]'(by rw [h]; simp) = S[0] := rfl
   rw [← this]
   simp only [h, List.getElem_cons_zero]
  by_cases hx : x = 59
  ·subst hx
   exact .inl ⟨59, by rw [Lib.toList_data, h]; rfl, by rw [Lib.toList_data, h]; rfl, ⟨hs, h0⟩, rfl, rfl, by unfold iK; rw [show Lib.hasPrefix (59 :: t) [59] = true by unfold Lib.hasPrefix; simp [List.isPrefixOf], if_pos rfl]⟩
  ·have hn := nat_ne hx
   have hn' : ¬ (x.toNat : Int) = 59 := fun e => hn (by rw [e]; rfl)
   exact .inr (.inr ⟨x, by rw [Lib.toList_data, h]; rfl, by rw [Lib.toList_data, h]; rfl, ⟨hs, h0⟩, hn', by rw [beq_eq_false_iff_ne]; exact hn', by unfold iK; rw [show Lib.hasPrefix (x :: t) [59] = false by unfold Lib.hasPrefix; simp [List.isPrefixOf, Ne.symm hx], if_neg (by decide)]⟩)
theorem dF (w : World) : Calls Tryz.prog 43 #[] w fun e w' => MtA fall e w' ∧ Below w.heap.size w w' := by
 go_enter Tryz.func43, Tryz.ntmps43
 go_wp2
 obtain ⟨h1, h2, h3⟩ := tZ.laid2 w #[.string ⟨#[116, 101, 120, 116]⟩, .string ⟨#[112, 108, 97, 105, 110]⟩, .slice (some ⟨w.heap.size + 1, 0, none⟩) 1 1] #[.string ⟨#[99, 104, 97, 114, 115, 101, 116]⟩, .string ⟨#[85, 83, 45, 65, 83, 67, 73, 73]⟩] 29 69
 have hlt := (Array.getElem?_eq_some_iff.1 h2).1
 refine bodyPost_ret (MB rfl h1 _ rfl) rfl ⟨⟨some ⟨w.heap.size + 1, 0, none⟩, 1, rfl, Nat.le_refl _, by decide, rfl, fun j hj => ?_⟩, h3⟩
 obtain rfl : j = 0 := by simp [mF, fall] at hj; omega
 exact ⟨w.heap.size + 1, 0, rfl, hlt, cell_of_row _ (w.heap.size + 1) 0 _ _ _ h2, cell_of_row _ (w.heap.size + 1) 1 _ _ _ h2⟩
theorem Jk (u : U) (A : Option Addr) (n c : Nat) (BL L : List UInt8) (w : World) (hB : ∀ w1 : World, Below w.heap.size w w1 → Calls Tryz.prog 21 #[.agg #[.string (strOf u.aj), .string (strOf u.usr), .string (strOf u.dR), .string (strOf u.hst), .bool u.hh, .int .i64 u.port, .bool u.opq, .string (strOf u.txt), .slice A n c, .bool u.hq, .bool u.hf, .string (strOf u.eF), .string (strOf u.fG)], .bool false] w1 fun e w' => e = .returned (.string (strOf BL)) ∧ Below w1.heap.size w1 w') (hL : u.aj = DATA → BL = xO ++ L) (hLs : L.length ≤ 500000) :
  Calls Tryz.prog 14 #[.agg #[.string (strOf u.aj), .string (strOf u.usr), .string (strOf u.dR), .string (strOf u.hst), .bool u.hh, .int .i64 u.port, .bool u.opq, .string (strOf u.txt), .slice A n c, .bool u.hq, .bool u.hf, .string (strOf u.eF), .string (strOf u.fG)]] w fun e w' => kT (ans u.aj L).1 (ans u.aj L).2 (err u.aj L) e w' ∧ Below w.heap.size w w' := by
 have Qh := hid hB
 obtain ⟨P, hP⟩ : ∃ P, P = ans u.aj L := ⟨_, rfl⟩
 obtain ⟨er, her⟩ : ∃ x, x = err u.aj L := ⟨_, rfl⟩
 rw [← hP, ← her]
 clear hB
 by_cases hs : u.aj = DATA
 ·
  have q1 : ((strOf u.aj).toList == [100, 97, 116, 97]) = true := by rw [aK, hs]; rfl
  have q2 : (strOf u.aj).toList = [100, 97, 116, 97] := by rw [aK, hs]; rfl
  have hP1 : P = (proc L).getD (lJ.xH, []) := by rw [hP]; unfold ans; rw [if_pos hs]
  have kU : er = if (proc L).isSome = true then 0 else 2 := by rw [her]; unfold err; rw [if_pos hs]
  have hBL := hL hs
  clear hP her hs hL
  obtain ⟨X, hX⟩ : ∃ X, X = strOf L := ⟨_, rfl⟩
  obtain ⟨Y, hY⟩ : ∃ Y, Y = strOf BL := ⟨_, rfl⟩
  rw [← hY] at Qh
  have hX2 : X.data.toList = L := by rw [hX]; rfl
  have hXl : X.size = L.length := by rw [hX, ah]
  have hYs : Y.size = L.length + 5 := by rw [hY, ah, hBL, List.length_append]; show 5 + L.length = _; omega
  have hy5 : (5 : Int) ≤ (Y.size : Int) := by omega
  have hy5n : 5 ≤ Y.size := by omega
  have hyx : Y.extract 5 Y.size = X := by
   rw [ext_from Y 5 Y.size rfl, hX, hY]
   show strOf (BL.drop 5) = _
   rw [hBL]
   rfl
  obtain ⟨N, hN⟩ : ∃ N, N = (tw [44] L).length := ⟨_, rfl⟩
  obtain ⟨H0, hH0⟩ : ∃ H, H = tw [44] L := ⟨_, rfl⟩
  obtain ⟨R0, hR0⟩ : ∃ R, R = (dw [44] L).drop 1 := ⟨_, rfl⟩
  have hcut : dV 44 L = (H0, R0, decide (N < L.length)) := by rw [abo, hH0, hR0, hN]
  have hNl : N ≤ L.length := by rw [hN]; exact nJ [44] L
  have hH0t : H0 = L.take N := by rw [hH0, hN]; exact wU [44] L
  have hR0t : R0 = L.drop (N + 1) := by rw [hR0, qc, ← hN, List.drop_drop]
  have HFI : Hid (∀ w : World, Calls Tryz.prog 36 #[.string X, .string ⟨#[44]⟩] w fun e w' => e = .returned (.int .i64 (N : Int)) ∧ w = w') := fun w => by
   have h := Nj.uK X ⟨#[44]⟩ w (by omega) (by decide)
   rw [hX2, show (⟨#[44]⟩ : ByteArray).data.toList = [44] from rfl, ← hN] at h
   exact h
  clear hBL hH0 hR0 hN hY hX hYs
  go_enter Tryz.func14, Tryz.ntmps14
  go_upto_region 1 with (fail)
  generalize hw : World.alloc (World.alloc w _) _ = w1
  have h1 : UB w1 w.heap.size u (.slice A n c) ∧ Z3 29 w1 (w.heap.size + 1) ∧ Below w.heap.size w w1 := by
   subst hw
   exact tZ.laid2 w _ _ _ _
  clear hw
  have HU1 := hid h1.1
  have jr := hid h1.2.1
  have HB1 := hid h1.2.2
  clear h1
  obtain ⟨d0, d1, d2, d3, d4, d5, d6, d7, d8, d9, d10, d11, d12⟩ := HU1.out.facts
  go_wp2_with fail
  clear q1 q2 d0 d1 d2 d3 d4 d5 d6 d7 d8 d9 d10 d11 d12
  refine (Qh.out _ HB1.out).mono ?_
  rintro e w2 ⟨rfl, hb2⟩
  clear HU1 Qh
  have iG : Hid (Z3 29 w2 (w.heap.size + 1)) := B3.below jr.out hb2
  have HB2 := hid (bel HB1.out hb2)
  clear jr HB1 hb2
  go_wp2_with fail
  refine (HFI.out _).mono ?_
  rintro e wx ⟨rfl, hwx⟩
  obtain rfl : w2 = wx := by first | exact hwx | exact hwx.symm
  clear hwx HFI hy5 hy5n hyx
  by_cases hn : N < L.length
  ·
   rw [decide_eq_true hn] at hcut
   rw [L9 hcut] at hP1 kU
   have hne : ¬ (N : Int) = (X.size : Int) := by omega
   have hnb : ((N : Int) == (X.size : Int)) = false := by rw [beq_eq_false_iff_ne]; exact hne
   obtain ⟨H, hH⟩ : ∃ H, H = Lib.trimS H0 ws := ⟨_, rfl⟩
   obtain ⟨B, hB⟩ : ∃ B, B = pO.dec R0 := ⟨_, rfl⟩
   rw [← hH, ← hB] at hP1 kU
   have hH0l : H0.length ≤ 500000 := by rw [hH0t, List.length_take]; omega
   have hR0l : R0.length ≤ 500000 := by rw [hR0t, List.length_drop]; omega
   have hHl : H.length ≤ 500000 := by rw [hH]; have := ML ws H0; omega
   have hBl : B.length ≤ 500000 := by rw [hB]; have := pO.lu R0; omega
   obtain ⟨SH, hSH0⟩ : ∃ S, S = strOf H := ⟨_, rfl⟩
   obtain ⟨SB, hSB0⟩ : ∃ S, S = strOf B := ⟨_, rfl⟩
   have xE : SH.data.toList = H := by rw [hSH0]; rfl
   have acf : SH.size = H.length := by rw [hSH0, ah]
   have acd : SB.size = B.length := by rw [hSB0, ah]
   have xq : Hid (SB = strOf B) := hSB0
   have hx1 : X.extract 0 N = strOf H0 := by rw [ext_to, hX2, hH0t]
   have hx2 : X.extract (N + 1) X.size = strOf R0 := by rw [ext_from X (N + 1) X.size rfl, hX2, hR0t]
   have HTS : Hid (∀ w : World, Calls Tryz.prog 37 #[.string (strOf H0), .string ⟨#[32, 9, 10, 12, 13]⟩] w fun e w' => e = .returned (.string SH) ∧ w = w') := fun w => by
    have h := ZC ws2 (by decide) (strOf H0) w (by rw [ah]; omega)
    rw [show (strOf H0).data.toList = H0 from rfl, trim_ws, ← hH] at h
    rw [hSH0]
    exact h
   have Yd : Hid (∀ w : World, Calls Tryz.prog 38 #[.string (strOf R0)] w fun e w' => e = .returned (.string SB) ∧ Below w.heap.size w w') := fun w => by
    rw [hSB0, hB]
    exact EscF.UK (strOf R0) w (by rw [ah]; omega)
   have hni : (N : Int) ≤ (X.size : Int) := by omega
   have hni1 : (N : Int) + 1 ≤ (X.size : Int) := by omega
   have hnn : N ≤ X.size := by omega
   have hnn1 : N + 1 ≤ X.size := by omega
   have hN5 : (N : Int) ≤ 500000 := by omega
   obtain ⟨M1, hM1⟩ : ∃ m, m = N + 1 := ⟨_, rfl⟩
   rw [← hM1] at hx2 hnn1
   have hm1 : (N : Int) + 1 = (M1 : Int) := by omega
   rw [hm1] at hni1
   clear hcut hH hB hSH0 hSB0 hM1 hn hH0t hR0t hNl hH0l hR0l hXl
   go_upto_region 7 with (fail)
   generalize ((N : Int) == (X.size : Int)) = bq
   clear hne hnb
   refine dY (by kernel_rfl) [is (.string X), is (.int .i64 (N : Int)), is (.string (strOf H0)), is (.string SH), is (.string X), is (.int .i64 (N : Int)), is (.int .i64 (M1 : Int)), is (.string (strOf R0)), is (.string SB), is (.string SH), is (.string SB)] [[], [], [0, 1], [2], [], [], [5], [4, 6], [7], [3], [8]] (by kernel_rfl) ?_ ?_
   ·refine ⟨?_, ?_, ?_, ?_, ?_, ?_, ?_, ?_, ?_, ?_, ?_, trivial⟩
    all_goals (intro t wq hbq hh K hK; simp only [filled, upd, Have, is, any, row, pick, Act.put, List.setIfInBounds_toArray, List.set_cons_zero, List.set_cons_succ, Nat.reduceAdd, Nat.reduceEqDiff, reduceIte, List.tail_cons, List.headD_cons] at hh hK ⊢; (try simp only [hh] at hK ⊢); try clear hh)
    iterate 3 · go_simp; exact hK _ _ (Below.refl _ _) rfl
    ·go_simp; refine (HTS.out _).mono ?_; rintro e wz ⟨rfl, hwz⟩; subst hwz; exact hK _ _ (Below.refl _ _) rfl
    iterate 2 · go_simp; exact hK _ _ (Below.refl _ _) rfl
    ·go_simp; exact hK _ _ (Below.refl _ _) (by first | rfl | exact congrArg (Value.int .i64) hm1 | (rw [← hm1]; exact iU (by omega) (by omega)))
    ·go_simp; exact hK _ _ (Below.refl _ _) rfl
    ·go_simp; refine (Yd.out _).mono ?_; rintro e wz ⟨rfl, hbz⟩; exact hK _ _ hbz rfl
    iterate 2 · go_simp; exact hK _ _ (Below.refl _ _) rfl
   ·intro t wq hbq hh
    have f3 := aS hh 3 (by decide)
    simp only [pick] at f3
    replace f3 : t 3 = (.string SH) := f3
    have f4 := aS hh 4 (by decide)
    simp only [pick] at f4
    replace f4 : t 4 = (.string X) := f4
    have f5 := aS hh 5 (by decide)
    simp only [pick] at f5
    replace f5 : t 5 = (.int .i64 (N : Int)) := f5
    have f6 := aS hh 6 (by decide)
    simp only [pick] at f6
    replace f6 : t 6 = (.int .i64 (M1 : Int)) := f6
    have f7 := aS hh 7 (by decide)
    simp only [pick] at f7
    replace f7 : t 7 = (.string (strOf R0)) := f7
    have f8 := aS hh 8 (by decide)
    simp only [pick] at f8
    replace f8 : t 8 = (.string SB) := f8
    have f9 := aS hh 9 (by decide)
    simp only [pick] at f9
    replace f9 : t 9 = (.string SH) := f9
    have f10 := aS hh 10 (by decide)
    simp only [pick] at f10
    replace f10 : t 10 = (.string SB) := f10
    clear hh
    simp only [filled, upd, Have, is, any, row, pick, Act.put, List.setIfInBounds_toArray, List.set_cons_zero, List.set_cons_succ, Nat.reduceAdd, Nat.reduceEqDiff, reduceIte]
    simp only [f3, f4, f5, f6, f7, f8, f9, f10]
    have jd : Hid (Z3 29 wq (w.heap.size + 1)) := B3.below iG.out hbq
    have HB3 := hid (bel HB2.out hbq)
    clear iG HB2 hbq hx1 hx2 hni hni1 hnn hnn1 hm1 hN5 HTS Yd
    generalize wq = w3 at jd HB3 ⊢
    have hHs5 : SH.size ≤ 500000 := by omega
    have hSBs5 : SB.size ≤ 500000 := by omega
    ·
     by_cases h6 : SH.size < 6
     focus
      have hib : FY H = false := by unfold FY; rw [decide_eq_false (by omega)]; rfl
      have HP : Hid (P = (typ H, B)) := by show _ = _; rw [hP1, hib]; rfl
      have HR : Hid (er = 0) := by show _ = _; rw [kU, hib]; rfl
      clear hP1 kU hib 
      clear acf acd hX2
      have hi0 : ¬ (0 : Int) ≤ (SH.size : Int) - 6 := by omega
      have hi1 : (SH.size : Int) - 6 < 0 := by omega
      have mQ := jd
      have HB4 := HB3
      clear jd HB3
      generalize w3 = w4 at mQ HB4 ⊢
     rotate_left
     obtain ⟨k, hk⟩ : ∃ k, SH.size = k + 6 := ⟨SH.size - 6, by omega⟩
     have hsz : (SH.size : Int) - 6 = (k : Int) := by omega
     have hk0 : (0 : Int) ≤ (k : Int) := by omega
     have hk1 : (k : Int) ≤ (SH.size : Int) := by omega
     have hk2 : k ≤ SH.size := by omega
     obtain ⟨DL, hDL⟩ : ∃ D, D = strOf (H.drop k) := ⟨_, rfl⟩
     obtain ⟨HT, hHT⟩ : ∃ D, D = strOf (H.take k) := ⟨_, rfl⟩
     obtain ⟨XL, hXL⟩ : ∃ X, X = strOf (lower (H.drop k)) := ⟨_, rfl⟩
     have hx3 : SH.extract k SH.size = DL := by rw [ext_from SH k SH.size rfl, xE, hDL]
     have hx4 : SH.extract 0 k = HT := by rw [ext_to, xE, hHT]
     have Yf : Hid (∀ w : World, Calls Tryz.prog 39 #[.string DL] w fun e w' => e = .returned (.string XL) ∧ Below w.heap.size w w') := fun w => by
      rw [hXL, hDL]
      exact AP.gq _ w (by rw [ah, List.length_drop]; omega)
     have hB0 : FY H = (decide (lower (H.drop k) = CQ) && Lib.hasSuffix (ahd H) [59]) := by
      unfold FY
      rw [decide_eq_true (show 6 ≤ H.length by omega), show H.length - 6 = k by omega]
      rfl
     by_cases hb : lower (H.drop k) = CQ
     focus
      have q3 : (XL.toList == [98, 97, 115, 101, 54, 52]) = true := by rw [hXL, aK, hb]; rfl
      have q4 : XL.toList = [98, 97, 115, 101, 54, 52] := by rw [hXL, aK, hb]; rfl
      rw [hb, decide_eq_true rfl, Bool.true_and] at hB0
      obtain ⟨V, hV⟩ : ∃ V, V = ahd H := ⟨_, rfl⟩
      have hVe : Pm [32] (H.take k) = V := by rw [hV]; unfold ahd; rw [show H.length - 6 = k by omega]; rfl
      have hVl : V.length ≤ 500000 := by rw [hV]; have := NK H; omega
      have hub : JK H = Lib.trimSuffix V [59] := by rw [hV]; rfl
      rw [← hV] at hB0
      obtain ⟨SV, hSV⟩ : ∃ S, S = strOf V := ⟨_, rfl⟩
      have Kt : SV.data.toList = V := by rw [hSV]; rfl
      have HRI : Hid (∀ w : World, Calls Tryz.prog 40 #[.string HT, .string ⟨#[32]⟩] w fun e w' => e = .returned (.string SV) ∧ w = w') := fun w => by
       have h := BG [32] (by decide) HT w (by rw [hHT, ah, List.length_take]; omega)
       rw [show HT.data.toList = H.take k by rw [hHT]; rfl, hVe] at h
       rw [hSV]
       exact h
      clear hDL hHT hXL hb hV hVe
      by_cases hv : V = []
      focus
       have hib : FY H = false := by rw [hB0, hv]; rfl
       have HP : Hid (P = (typ H, B)) := by show _ = _; rw [hP1, hib]; rfl
       have HR : Hid (er = 0) := by show _ = _; rw [kU, hib]; rfl
       clear hP1 kU hib hub hB0
       have HV1 : Hid (SV.toList = []) := by show _ = _; rw [Lib.toList_data, Kt, hv]
       clear hSV Kt hv
       clear hk h6 acf acd hX2
       go_wp2_with fail
       refine (Yf.out _).mono ?_
       rintro e w4 ⟨rfl, hb4⟩
       clear Yf
       have mQ : Hid (Z3 29 w4 (w.heap.size + 1)) := B3.below jd.out hb4
       have HB4 := hid (bel HB3.out hb4)
       clear jd HB3 hb4
       go_wp2_with fail
       refine (HRI.out _).mono ?_
       rintro e wx ⟨rfl, hwx⟩
       obtain rfl : w4 = wx := by first | exact hwx | exact hwx.symm
       clear hwx HRI q3 q4 hsz hk0 hk1 hk2 hx3 hx4
       have v1 := HV1.out
       have v2 : (SV.toList == []) = true := by rw [v1]; rfl
      rotate_left
      focus
       obtain ⟨Nv, d, hvd⟩ := last_of V hv
       have v1 : (SV.toList == []) = false := by rw [Lib.toList_data, Kt, beq_eq_false_iff_ne]; exact hv
       have v2 : SV.toList.isEmpty = false := by rw [Lib.toList_data, Kt]; simpa using hv
       have v3 : ¬ SV.toList = [] := by rw [Lib.toList_data, Kt]; exact hv
       have hsv : SV.size = Nv.length + 1 := by rw [hSV, ah, hvd]; simp
       have v4 : (SV.size : Int) - 1 = (Nv.length : Int) := by omega
       have v5 : Nv.length < SV.size := by omega
       have v6 : SV[Nv.length]'v5 = d := by
        have : SV.data.toList[Nv.length]'(by rw [Kt, hvd]; simp) = SV[Nv.length]'v5 := rfl
        rw [← this]
        simp only [Kt, hvd]
        simp
       have v7 : (Nv.length : Int) < (SV.size : Int) := by omega
       have v8 : (0 : Int) ≤ (Nv.length : Int) := by omega
       rw [hvd, ZT] at hB0
       obtain ⟨nv, hnv⟩ : ∃ nv, nv = Nv.length := ⟨_, rfl⟩
       by_cases hd : d = 59
       ·
        rw [decide_eq_true hd] at hB0
        rw [hB0, if_pos rfl] at hP1 kU
        have huN : JK H = Nv := by rw [hub, hvd]; unfold Lib.trimSuffix; rw [ZT, decide_eq_true hd, if_pos rfl]; simp
        have v9 : ((d.toNat : Int) == 59) = true := by rw [hd]; rfl
        have v10 : (d.toNat : Int) = 59 := by rw [hd]; rfl
        have hx5 : SV.extract 0 Nv.length = strOf Nv := by rw [ext_to, Kt, hvd, List.take_left]
        obtain ⟨SN, hSN⟩ : ∃ S, S = strOf Nv := ⟨_, rfl⟩
        have hSSN : SN.data.toList = Nv := by rw [hSN]; rfl
        have hVN : V.length = Nv.length + 1 := by rw [hvd]; simp
        have hNl : Nv.length ≤ 500000 := by omega
        clear hVN
        rw [← hSN] at hx5
        have hSNs : SN.size ≤ 500000 := by rw [hSN, ah]; exact hNl
        obtain ⟨ok, hok⟩ : ∃ x, x = Aw.pY B := ⟨_, rfl⟩
        obtain ⟨D, hD⟩ : ∃ x, x = Aw.dB B := ⟨_, rfl⟩
        have HBD : Hid (∀ w : World, Calls Tryz.prog 41 #[.string SB] w fun e w' => ∃ A c, e = .returned (.tuple #[.slice A D.length c, .bool ok]) ∧ D.length ≤ c ∧ c ≤ maxLen ∧ dS w' A D.length (ak D) ∧ Below w.heap.size w w') := fun w => by
         have h := B64F.VO SB w (by omega)
         rw [show SB.data.toList = B by rw [xq.out]; rfl, ← hok, ← hD] at h
         exact h
        have hDl : D.length ≤ 500000 := by rw [hD]; have := Aw.dB_len B; omega
        rw [← hok, ← hD, huN] at hP1
        rw [← hok] at kU
        clear hok hD hub hB0 hSV Kt hvd hv hd huN hSN
        clear hk h6 acf acd hX2
        go_wp2_with fail
        refine (Yf.out _).mono ?_
        rintro e w4 ⟨rfl, hb4⟩
        clear Yf
        have mQ : Hid (Z3 29 w4 (w.heap.size + 1)) := B3.below jd.out hb4
        have HB4 := hid (bel HB3.out hb4)
        clear jd HB3 hb4
        go_wp2_with fail
        refine (HRI.out _).mono ?_
        rintro e wx ⟨rfl, hwx⟩
        obtain rfl : w4 = wx := by first | exact hwx | exact hwx.symm
        clear hwx HRI q3 q4 hsz hk0 hk1 hk2 hx3 hx4
        go_wp2_with fail
        refine (HBD.out _).mono ?_
        rintro e w5 ⟨A5, c5, rfl, l1, l2, hr5, hb5⟩
        clear HBD v1 v2 v3 v6 v9 v10
        have F5 : Hid (Z3 29 w5 (w.heap.size + 1)) := B3.below mQ.out hb5
        have mO := hid (bel HB4.out hb5)
        clear mQ HB4 hb5
        have HD5 := hid hr5
        clear hr5
        cases ok with
        | false =>
         have HP : Hid (P = (lJ.xH, [])) := by show _ = _; rw [hP1]; rfl
         have HR : Hid (er = 2) := by show _ = _; rw [kU]; rfl
         clear hP1 kU
         go_wp2_with (refine aO F5.out ⟨#[]⟩ ⟨#[]⟩ none 0 0 (.tmp 2) (.tmp 71) rfl rfl rfl rfl ?_)
         try simp only [Exit.inBlock, Exit.then]
         exact bodyPost_ret (w := World.setRow w5 (w.heap.size + 1) #[.string ⟨#[]⟩, .string ⟨#[]⟩, .slice none 0 0]) (fU rfl (bV F5.out _ _ _) (.string ⟨#[]⟩) (.int .i64 2) _ rfl rfl rfl) rfl ⟨by rw [HP.out, HR.out]; exact Ew rfl, below_setRow mO.out (by omega) _⟩
        | true =>
         have HP : Hid (P = (typ Nv, D)) := by show _ = _; rw [hP1]; rfl
         have HR : Hid (er = 0) := by show _ = _; rw [kU]; rfl
         have v13 : (SV.size : Int) ≤ 600000 := by omega
         clear hP1 kU hsv
         have v11 : nv ≤ SV.size := by omega
         have v12 : (nv : Int) ≤ (SV.size : Int) := by omega
         rw [← hnv] at v4 v5 v7 v8 hx5
         clear hnv
         obtain ⟨S2, hS2⟩ : ∃ S, S = strOf D := ⟨_, rfl⟩
         have HSB2 : Hid (S2 = strOf D) := hS2
         clear hS2
         go_upto_region 15 with (fail)
         refine dY (by kernel_rfl) [is (.string SV), is (.string SV), is (.int .i64 (SV.size : Int)), is (.int .i64 (nv : Int)), is (.string SN), is (.slice A5 D.length c5), is (.string S2), is (.string SN), is (.string S2)] [[], [], [1], [2], [0, 3], [], [5], [4], [6]] (by kernel_rfl) ?_ ?_
         ·refine ⟨?_, ?_, ?_, ?_, ?_, ?_, ?_, ?_, ?_, trivial⟩
          all_goals (intro t wq hbq hh K hK; simp only [filled, upd, Have, is, any, row, pick, Act.put, List.setIfInBounds_toArray, List.set_cons_zero, List.set_cons_succ, Nat.reduceAdd, Nat.reduceEqDiff, reduceIte, List.tail_cons, List.headD_cons] at hh hK ⊢; (try simp only [hh] at hK ⊢); try clear hh)
          iterate 3 · go_simp; exact hK _ _ (Below.refl _ _) rfl
          ·go_simp; exact hK _ _ (Below.refl _ _) (by first | rfl | exact congrArg (Value.int .i64) v4 | (rw [← v4]; exact iU (by omega) (by omega)))
          iterate 2 · go_simp; exact hK _ _ (Below.refl _ _) rfl
          ·have hs6 := aQ (P := Tryz.prog) 30 9 5 Tryz.underlying30 Tryz.underlying5 Tryz.underlying9 _ c5 (HD5.out.below hbq); rw [← HSB2.out] at hs6; go_simp; exact hK _ _ (Below.refl _ _) rfl
          iterate 2 · go_simp; exact hK _ _ (Below.refl _ _) rfl
         ·intro t wq hbq hh
          have f7 := aS hh 7 (by decide)
          simp only [pick] at f7
          replace f7 : t 7 = (.string SN) := f7
          have f8 := aS hh 8 (by decide)
          simp only [pick] at f8
          replace f8 : t 8 = (.string S2) := f8
          clear hh
          simp only [filled, upd, Have, is, any, row, pick, Act.put, List.setIfInBounds_toArray, List.set_cons_zero, List.set_cons_succ, Nat.reduceAdd, Nat.reduceEqDiff, reduceIte]
          simp only [f7, f8]
          have Nh : Hid (Z3 29 wq (w.heap.size + 1)) := B3.below F5.out hbq
          have sW := hid (bel mO.out hbq)
          clear F5 mO hbq HD5 hx5 v4 v5 v7 v8 v11 v12
          generalize wq = w6 at Nh sW ⊢
          rename Hid (SB = strOf B) => HSBo
          clear HSBo
          have xq := HSB2
          clear HSB2
          ·
           obtain ⟨o, ho⟩ : ∃ o, o = mime (iK (Nv)) := ⟨_, rfl⟩
           have jX : Hid (typ (Nv) = o.getD fall) := by show _ = _; rw [ho]; rfl
           obtain ⟨XT, rY⟩ : ∃ X, X = strOf (iK (Nv)) := ⟨_, rfl⟩
           have rH : Hid (∀ w : World, Calls Tryz.prog 42 #[.string XT] w fun e w' => Yl o e w' ∧ Below w.heap.size w w') := fun w => by
            have h := Yk.parse_any XT w (by rw [rY, ah]; have := qH (Nv); omega)
            rw [show XT.data.toList = iK (Nv) by rw [rY]; rfl, ← ho] at h
            exact h
           clear ho
           rcases hd_cases SN (Nv) hSSN with ⟨x, g1, g2, ⟨g0, g3⟩, g4, g5, g6⟩ | ⟨g1, g2, g3⟩ | ⟨x, g1, g2, ⟨g0, g3⟩, g4, g5, g6⟩
           focus
            have a1 : ∀ w : World, (Op.stringOp .add ⟨#[116, 101, 120, 116, 47, 112, 108, 97, 105, 110]⟩ SN).run Tryz.prog w = .ok (.string XT) w := fun w => by
             rw [rY, g6, ← hSSN]
             exact bf ⟨#[116, 101, 120, 116, 47, 112, 108, 97, 105, 110]⟩ SN w (by show 10 + SN.size ≤ _; omega)
            clear rY g6
            go_wp2_with fail
            clear a1
           rotate_left
           focus
            obtain rfl : XT = SN := by rw [rY, g3, ← hSSN, ay]
            clear rY g3
            go_wp2_with fail
           rotate_left
           focus
            obtain rfl : XT = SN := by rw [rY, g6, ← hSSN, ay]
            clear rY g6
            go_wp2_with fail
           rotate_left
           all_goals
            refine (rH.out _).mono ?_
            rintro e wa ⟨⟨Ap, cp, rfl, k1, k2, k3⟩, hba⟩
            have je := hid k3
            clear k3 rH
            have iq : Hid (Z3 29 wa (w.heap.size + 1)) := B3.below Nh.out hba
            have gZ := hid (bel sW.out hba)
            clear Nh sW hba
            cases o with
            | none =>
             have HM : Hid (typ (Nv) = fall) := jX.out
             clear jX je
             go_upto_region 19 with (fail)
             generalize hwb : World.alloc wa _ = wb
             have hxb : B3 29 wb wa.heap.size (.string ⟨#[]⟩) (.string ⟨#[]⟩) (.slice Ap 0 cp) := by rw [← hwb]; exact heap_alloc_new _ _
             have hbb : Below wa.heap.size wa wb := by rw [← hwb]; exact (Below.refl _ _).alloc (Nat.le_refl _) _
             have gU : Hid (Z3 29 wb (w.heap.size + 1)) := B3.below iq.out hbb
             have rG := hid hxb
             have jP := hid (bel gZ.out hbb)
             have NE : Hid (wa.heap.size ≠ (w.heap.size + 1)) := by show _ ≠ _; have := B3.lt iq.out; omega
             have LE : Hid (w.heap.size ≤ wa.heap.size) := gZ.out.size
             clear hwb iq gZ hbb hxb
             go_wp2_with fail
             refine (dF _).mono ?_
             rintro e wd ⟨⟨Af, cf, rfl, j1, j2, j3⟩, hbd⟩
             have rO : Hid (Z3 29 wd (w.heap.size + 1)) := B3.below gU.out hbd
             have jQ := hid (B3.below rG.out hbd)
             have rE := hid (bel jP.out hbd)
             have rJ := hid j3
             clear gU rG jP hbd j3
             go_upto_region 21 with (refine aO jQ.out (strOf fall.ty) (strOf fall.sub) Af fall.ps.length cf (.tmp 13) (.tmp 95) rfl rfl rfl rfl ?_)
             have su := bV jQ.out (.string (strOf fall.ty)) (.string (strOf fall.sub)) (.slice Af fall.ps.length cf)
             have jS : Hid (Z3 29 (World.setRow wd wa.heap.size #[.string (strOf fall.ty), .string (strOf fall.sub), .slice Af fall.ps.length cf]) (w.heap.size + 1)) := jy rO.out NE.out _
             have rM := hid (bI (aY _ bK) rJ.out jQ.out #[.string (strOf fall.ty), .string (strOf fall.sub), .slice Af fall.ps.length cf])
             have rF := hid (below_setRow rE.out LE.out #[.string (strOf fall.ty), .string (strOf fall.sub), .slice Af fall.ps.length cf])
             clear rO jQ rE rJ
             generalize World.setRow wd _ _ = wf at su jS rM rF ⊢
             obtain ⟨f0, f1, f2⟩ := su.facts
             go_wp2_with (refine aO jS.out (strOf fall.ty) (strOf fall.sub) Af fall.ps.length cf (.tmp 2) (.tmp 96) rfl rfl rfl rfl ?_)
             try simp only [Exit.inBlock, Exit.then]
             exact bodyPost_ret (w := World.setRow wf (w.heap.size + 1) #[.string (strOf fall.ty), .string (strOf fall.sub), .slice Af fall.ps.length cf]) (fU rfl (bV jS.out _ _ _) (.string S2) (.int .i64 0) _ rfl rfl rfl) rfl ⟨by rw [HP.out, HR.out, xq.out]; show kT (typ (Nv)) (D) 0 _ _; rw [HM.out]; exact ⟨Af, cf, rfl, j1, j2, bI (aY _ bK) rM.out jS.out _⟩, below_setRow rF.out (by omega) _⟩
            | some M =>
             have HM : Hid (typ (Nv) = M) := jX.out
             clear jX
             have qI := hid (aY M (by rw [← HM.out]; exact fD _))
             go_upto_region 19 with (fail)
             generalize hwb : World.alloc wa _ = wb
             have hxb : B3 29 wb wa.heap.size (.string (strOf M.ty)) (.string (strOf M.sub)) (.slice Ap M.ps.length cp) := by rw [← hwb]; exact heap_alloc_new _ _
             have hbb : Below wa.heap.size wa wb := by rw [← hwb]; exact (Below.refl _ _).alloc (Nat.le_refl _) _
             have gU : Hid (Z3 29 wb (w.heap.size + 1)) := B3.below iq.out hbb
             have jP := hid (bel gZ.out hbb)
             have Cc : Hid (kV wb Ap M.ps.length (mF M.ps)) := kV.below je.out hbb
             clear hwb iq gZ hbb je
             obtain ⟨f0, f1, f2⟩ := hxb.facts
             go_wp2_with (refine aO gU.out (strOf M.ty) (strOf M.sub) Ap M.ps.length cp (.tmp 2) (.tmp 96) rfl rfl rfl rfl ?_)
             try simp only [Exit.inBlock, Exit.then]
             exact bodyPost_ret (w := World.setRow wb (w.heap.size + 1) #[.string (strOf M.ty), .string (strOf M.sub), .slice Ap M.ps.length cp]) (fU rfl (bV gU.out _ _ _) (.string S2) (.int .i64 0) _ rfl rfl rfl) rfl ⟨by rw [HP.out, HR.out, xq.out]; show kT (typ (Nv)) (D) 0 _ _; rw [HM.out]; exact ⟨Ap, cp, rfl, k1, k2, bI qI.out Cc.out gU.out _⟩, below_setRow jP.out (by omega) _⟩
       rw [decide_eq_false hd] at hB0
       have hib : FY H = false := hB0
       have HP : Hid (P = (typ H, B)) := by show _ = _; rw [hP1, hib]; rfl
       have HR : Hid (er = 0) := by show _ = _; rw [kU, hib]; rfl
       clear hP1 kU hib hub hB0
       have hVN : V.length = Nv.length + 1 := by rw [hvd]; simp
       have v14 : (Nv.length : Int) ≤ 600000 := by omega
       clear hVN
       have v9 : ((d.toNat : Int) == 59) = false := by rw [beq_eq_false_iff_ne]; exact fun e => hd (UInt8.toNat_inj.1 (by show _ = 59; omega))
       have v10 : ¬ (d.toNat : Int) = 59 := fun e => hd (UInt8.toNat_inj.1 (by show _ = 59; omega))
       clear hSV Kt hvd hv hd
       clear hk h6 acf acd hX2
       go_wp2_with fail
       refine (Yf.out _).mono ?_
       rintro e w4 ⟨rfl, hb4⟩
       clear Yf
       have mQ : Hid (Z3 29 w4 (w.heap.size + 1)) := B3.below jd.out hb4
       have HB4 := hid (bel HB3.out hb4)
       clear jd HB3 hb4
       go_wp2_with fail
       refine (HRI.out _).mono ?_
       rintro e wx ⟨rfl, hwx⟩
       obtain rfl : w4 = wx := by first | exact hwx | exact hwx.symm
       clear hwx HRI q3 q4 hsz hk0 hk1 hk2 hx3 hx4
       clear hsv hnv
     rotate_left 2
     focus
      have q3 : (XL.toList == [98, 97, 115, 101, 54, 52]) = false := by rw [hXL, aK, beq_eq_false_iff_ne]; exact hb
      have q4 : ¬ XL.toList = [98, 97, 115, 101, 54, 52] := by rw [hXL, aK]; exact hb
      have hib : FY H = false := by rw [hB0, decide_eq_false hb]; rfl
      have HP : Hid (P = (typ H, B)) := by show _ = _; rw [hP1, hib]; rfl
      have HR : Hid (er = 0) := by show _ = _; rw [kU, hib]; rfl
      clear hP1 kU hib hB0
      clear hDL hHT hXL hb
      clear hk h6 acf acd hX2
      go_wp2_with fail
      refine (Yf.out _).mono ?_
      rintro e w4 ⟨rfl, hb4⟩
      clear Yf
      have mQ : Hid (Z3 29 w4 (w.heap.size + 1)) := B3.below jd.out hb4
      have HB4 := hid (bel HB3.out hb4)
      clear jd HB3 hb4
     all_goals
      ·
       obtain ⟨o, ho⟩ : ∃ o, o = mime (iK (H)) := ⟨_, rfl⟩
       have jX : Hid (typ (H) = o.getD fall) := by show _ = _; rw [ho]; rfl
       obtain ⟨XT, rY⟩ : ∃ X, X = strOf (iK (H)) := ⟨_, rfl⟩
       have rH : Hid (∀ w : World, Calls Tryz.prog 42 #[.string XT] w fun e w' => Yl o e w' ∧ Below w.heap.size w w') := fun w => by
        have h := Yk.parse_any XT w (by rw [rY, ah]; have := qH (H); omega)
        rw [show XT.data.toList = iK (H) by rw [rY]; rfl, ← ho] at h
        exact h
       clear ho
       rcases hd_cases SH (H) xE with ⟨x, g1, g2, ⟨g0, g3⟩, g4, g5, g6⟩ | ⟨g1, g2, g3⟩ | ⟨x, g1, g2, ⟨g0, g3⟩, g4, g5, g6⟩
       focus
        have a1 : ∀ w : World, (Op.stringOp .add ⟨#[116, 101, 120, 116, 47, 112, 108, 97, 105, 110]⟩ SH).run Tryz.prog w = .ok (.string XT) w := fun w => by
         rw [rY, g6, ← xE]
         exact bf ⟨#[116, 101, 120, 116, 47, 112, 108, 97, 105, 110]⟩ SH w (by show 10 + SH.size ≤ _; omega)
        clear rY g6
        go_wp2_with fail
        clear a1
       rotate_left
       focus
        obtain rfl : XT = SH := by rw [rY, g3, ← xE, ay]
        clear rY g3
        go_wp2_with fail
       rotate_left
       focus
        obtain rfl : XT = SH := by rw [rY, g6, ← xE, ay]
        clear rY g6
        go_wp2_with fail
       rotate_left
       all_goals
        refine (rH.out _).mono ?_
        rintro e wa ⟨⟨Ap, cp, rfl, k1, k2, k3⟩, hba⟩
        have je := hid k3
        clear k3 rH
        have iq : Hid (Z3 29 wa (w.heap.size + 1)) := B3.below mQ.out hba
        have gZ := hid (bel HB4.out hba)
        clear mQ HB4 hba
        cases o with
        | none =>
         have HM : Hid (typ (H) = fall) := jX.out
         clear jX je
         go_upto_region 19 with (fail)
         generalize hwb : World.alloc wa _ = wb
         have hxb : B3 29 wb wa.heap.size (.string ⟨#[]⟩) (.string ⟨#[]⟩) (.slice Ap 0 cp) := by rw [← hwb]; exact heap_alloc_new _ _
         have hbb : Below wa.heap.size wa wb := by rw [← hwb]; exact (Below.refl _ _).alloc (Nat.le_refl _) _
         have gU : Hid (Z3 29 wb (w.heap.size + 1)) := B3.below iq.out hbb
         have rG := hid hxb
         have jP := hid (bel gZ.out hbb)
         have NE : Hid (wa.heap.size ≠ (w.heap.size + 1)) := by show _ ≠ _; have := B3.lt iq.out; omega
         have LE : Hid (w.heap.size ≤ wa.heap.size) := gZ.out.size
         clear hwb iq gZ hbb hxb
         go_wp2_with fail
         refine (dF _).mono ?_
         rintro e wd ⟨⟨Af, cf, rfl, j1, j2, j3⟩, hbd⟩
         have rO : Hid (Z3 29 wd (w.heap.size + 1)) := B3.below gU.out hbd
         have jQ := hid (B3.below rG.out hbd)
         have rE := hid (bel jP.out hbd)
         have rJ := hid j3
         clear gU rG jP hbd j3
         go_upto_region 21 with (refine aO jQ.out (strOf fall.ty) (strOf fall.sub) Af fall.ps.length cf (.tmp 13) (.tmp 95) rfl rfl rfl rfl ?_)
         have su := bV jQ.out (.string (strOf fall.ty)) (.string (strOf fall.sub)) (.slice Af fall.ps.length cf)
         have jS : Hid (Z3 29 (World.setRow wd wa.heap.size #[.string (strOf fall.ty), .string (strOf fall.sub), .slice Af fall.ps.length cf]) (w.heap.size + 1)) := jy rO.out NE.out _
         have rM := hid (bI (aY _ bK) rJ.out jQ.out #[.string (strOf fall.ty), .string (strOf fall.sub), .slice Af fall.ps.length cf])
         have rF := hid (below_setRow rE.out LE.out #[.string (strOf fall.ty), .string (strOf fall.sub), .slice Af fall.ps.length cf])
         clear rO jQ rE rJ
         generalize World.setRow wd _ _ = wf at su jS rM rF ⊢
         obtain ⟨f0, f1, f2⟩ := su.facts
         go_wp2_with (refine aO jS.out (strOf fall.ty) (strOf fall.sub) Af fall.ps.length cf (.tmp 2) (.tmp 96) rfl rfl rfl rfl ?_)
         try simp only [Exit.inBlock, Exit.then]
         exact bodyPost_ret (w := World.setRow wf (w.heap.size + 1) #[.string (strOf fall.ty), .string (strOf fall.sub), .slice Af fall.ps.length cf]) (fU rfl (bV jS.out _ _ _) (.string SB) (.int .i64 0) _ rfl rfl rfl) rfl ⟨by rw [HP.out, HR.out, xq.out]; show kT (typ (H)) (B) 0 _ _; rw [HM.out]; exact ⟨Af, cf, rfl, j1, j2, bI (aY _ bK) rM.out jS.out _⟩, below_setRow rF.out (by omega) _⟩
        | some M =>
         have HM : Hid (typ (H) = M) := jX.out
         clear jX
         have qI := hid (aY M (by rw [← HM.out]; exact fD _))
         go_upto_region 19 with (fail)
         generalize hwb : World.alloc wa _ = wb
         have hxb : B3 29 wb wa.heap.size (.string (strOf M.ty)) (.string (strOf M.sub)) (.slice Ap M.ps.length cp) := by rw [← hwb]; exact heap_alloc_new _ _
         have hbb : Below wa.heap.size wa wb := by rw [← hwb]; exact (Below.refl _ _).alloc (Nat.le_refl _) _
         have gU : Hid (Z3 29 wb (w.heap.size + 1)) := B3.below iq.out hbb
         have jP := hid (bel gZ.out hbb)
         have Cc : Hid (kV wb Ap M.ps.length (mF M.ps)) := kV.below je.out hbb
         clear hwb iq gZ hbb je
         obtain ⟨f0, f1, f2⟩ := hxb.facts
         go_wp2_with (refine aO gU.out (strOf M.ty) (strOf M.sub) Ap M.ps.length cp (.tmp 2) (.tmp 96) rfl rfl rfl rfl ?_)
         try simp only [Exit.inBlock, Exit.then]
         exact bodyPost_ret (w := World.setRow wb (w.heap.size + 1) #[.string (strOf M.ty), .string (strOf M.sub), .slice Ap M.ps.length cp]) (fU rfl (bV gU.out _ _ _) (.string SB) (.int .i64 0) _ rfl rfl rfl) rfl ⟨by rw [HP.out, HR.out, xq.out]; show kT (typ (H)) (B) 0 _ _; rw [HM.out]; exact ⟨Ap, cp, rfl, k1, k2, bI qI.out Cc.out gU.out _⟩, below_setRow jP.out (by omega) _⟩
  ·
   have hne : (N : Int) = (X.size : Int) := by omega
   have hnb : ((N : Int) == (X.size : Int)) = true := by rw [beq_iff_eq]; exact hne
   rw [decide_eq_false hn] at hcut
   have HP : Hid (P = (lJ.xH, [])) := by show _ = _; rw [hP1, uX (by rw [hcut])]; rfl
   have HR : Hid (er = 2) := by show _ = _; rw [kU, uX (by rw [hcut])]; rfl
   clear hP1 kU hcut hH0t hR0t hn
   go_wp2_with (refine aO iG.out ⟨#[]⟩ ⟨#[]⟩ none 0 0 (.tmp 2) (.tmp 28) rfl rfl rfl rfl ?_)
   try simp only [Exit.inBlock, Exit.then]
   exact bodyPost_ret (w := World.setRow w2 (w.heap.size + 1) #[.string ⟨#[]⟩, .string ⟨#[]⟩, .slice none 0 0]) (fU rfl (bV iG.out _ _ _) (.string ⟨#[]⟩) (.int .i64 2) _ rfl rfl rfl) rfl ⟨by rw [HP.out, HR.out]; exact Ew rfl, below_setRow HB2.out (by omega) _⟩
 ·
  have q1 : ((strOf u.aj).toList == [100, 97, 116, 97]) = false := by rw [aK, beq_eq_false_iff_ne]; exact hs
  have q2 : ¬ (strOf u.aj).toList = [100, 97, 116, 97] := by rw [aK]; exact hs
  have HP : Hid (P = (lJ.xH, [])) := by show _ = _; rw [hP]; unfold ans; rw [if_neg hs]
  have HR : Hid (er = 1) := by show _ = _; rw [her]; unfold err; rw [if_neg hs]
  clear hP her hs hL Qh
  go_enter Tryz.func14, Tryz.ntmps14
  go_upto_region 1 with (fail)
  generalize hw : World.alloc (World.alloc w _) _ = w1
  have h1 : UB w1 w.heap.size u (.slice A n c) ∧ Z3 29 w1 (w.heap.size + 1) ∧ Below w.heap.size w w1 := by
   subst hw
   exact tZ.laid2 w _ _ _ _
  clear hw
  have HU1 := hid h1.1
  have jr := hid h1.2.1
  have HB1 := hid h1.2.2
  clear h1
  obtain ⟨d0, d1, d2, d3, d4, d5, d6, d7, d8, d9, d10, d11, d12⟩ := HU1.out.facts
  go_wp2_with (refine aO jr.out ⟨#[]⟩ ⟨#[]⟩ none 0 0 (.tmp 2) (.tmp 18) rfl rfl rfl rfl ?_)
  try simp only [Exit.inBlock, Exit.then]
  exact bodyPost_ret (w := World.setRow w1 (w.heap.size + 1) #[.string ⟨#[]⟩, .string ⟨#[]⟩, .slice none 0 0]) (fU rfl (bV jr.out _ _ _) (.string ⟨#[]⟩) (.int .i64 1) _ rfl rfl rfl) rfl ⟨by rw [HP.out, HR.out]; exact Ew rfl, below_setRow HB1.out (by omega) _⟩
end Go.Proofs.YtcfgioklgmlclaaGreatDoor.X8
namespace Go.Proofs.YtcfgioklgmlclaaGreatDoor.UrlH
open Go.RowKit Base aP dD Uu UrlD
def Ji (f : Bool) (s0 : ByteArray) (s1 : ByteArray) (s2 : ByteArray) (s3 : ByteArray) (b4 : Bool) (z5 : Int) (b6 : Bool) (s7 : ByteArray) (A : Option Addr) (n cap : Nat) (l : List ByteArray) (b9 : Bool) (b10 : Bool) (s11 : ByteArray) (s12 : ByteArray) : List UInt8 := uG s0 s1 s2 s3 b4 z5 b6 s7 l b9 s11 ++ (if b10 && f then 35 :: s12.data.toList else [])
theorem OX (f : Bool) (s0 : ByteArray) (s1 : ByteArray) (s2 : ByteArray) (s3 : ByteArray) (b4 : Bool) (z5 : Int) (b6 : Bool) (s7 : ByteArray) (A : Option Addr) (n cap : Nat) (l : List ByteArray) (b9 : Bool) (b10 : Bool) (s11 : ByteArray) (s12 : ByteArray) (w : World) (hR : dS w A n (l.map Value.string)) (hnc : n ≤ cap) (hcm : cap ≤ maxLen) (hs0 : s0.size ≤ 1073741824) (hs1 : s1.size ≤ 1073741824) (hs2 : s2.size ≤ 1073741824) (hs3 : s3.size ≤ 1073741824) (hs7 : s7.size ≤ 1073741824) (hs11 : s11.size ≤ 1073741824) (Ou : s12.size ≤ 1073741824) (hz : -9223372036854775808 ≤ z5) (hz' : z5 ≤ 9223372036854775807) (hl : (aN l).length ≤ 1073741824) :
  Calls Tryz.prog 21 #[.agg #[.string s0, .string s1, .string s2, .string s3, .bool b4, .int .i64 z5, .bool b6, .string s7, .slice A n cap, .bool b9, .bool b10, .string s11, .string s12], .bool f] w fun e w' => e = .returned (.string (strOf (Ji f s0 s1 s2 s3 b4 z5 b6 s7 A n cap l b9 b10 s11 s12))) ∧ Below w.heap.size w w' := by
 have hn : l.length = n := by rw [← hR.1, List.length_map]
 have HN := hid hn
 have hl0 : s0.data.toList.length = s0.size := Array.length_toList
 have hl7 : s7.data.toList.length = s7.size := Array.length_toList
 obtain ⟨IT, hIT⟩ : ∃ X, X = Lib.itoa z5 := ⟨_, rfl⟩
 have lIT : IT.length ≤ 20 := by rw [hIT]; exact IE z5 hz hz'
 have HIT := hid hIT
 obtain ⟨PL, hPL⟩ : ∃ X, X = lq b6 s7 l := ⟨_, rfl⟩
 have lPL : PL.length ≤ 1073741824 := by rw [hPL]; unfold lq; split <;> omega
 have JV := hid hPL
 obtain ⟨X0, hX0⟩ : ∃ X, X = s0.data.toList ++ [58] := ⟨_, rfl⟩
 have lX0 : X0.length ≤ 1073741825 := by rw [hX0, List.length_append]; show _ + 1 ≤ _; omega
 have aX0 : ∀ w : World, (Op.stringOp .add s0 ⟨#[58]⟩).run Tryz.prog w = .ok (.string (strOf X0)) w := fun w => by rw [hX0]; exact bf s0 ⟨#[58]⟩ w (by show s0.size + 1 ≤ _; omega)
 have HX0 := hid hX0
 obtain ⟨M, hM⟩ : ∃ X, X = X0 ++ kF s1 s2 s3 b4 z5 b6 l := ⟨_, rfl⟩
 have lM : M.length ≤ 5368709121 := by rw [hM, List.length_append]; have := OE s1 s2 s3 b4 z5 b6 l hs1 hs2 hs3 hz hz'; omega
 have HM := hid hM
 clear hn hl0 hl7 hIT hPL hX0 hM
 obtain ⟨N1, hN1⟩ : ∃ R, R = M ++ PL := ⟨_, rfl⟩
 have lN1 : N1.length ≤ 6442450945 := by rw [hN1, List.length_append]; omega
 have aN1 : ∀ w : World, (Op.stringOp .add (strOf M) (strOf PL)).run Tryz.prog w = .ok (.string (strOf N1)) w := fun w => by rw [hN1]; exact gK _ _ w (by omega)
 have HN1 := hid hN1
 clear hN1
 obtain ⟨N2, hN2⟩ : ∃ R, R = N1 ++ [63] := ⟨_, rfl⟩
 have lN2 : N2.length ≤ 6442450946 := by rw [hN2, List.length_append]; show _ + 1 ≤ _; omega
 have aN2 : ∀ w : World, (Op.stringOp .add (strOf N1) ⟨#[63]⟩).run Tryz.prog w = .ok (.string (strOf N2)) w := fun w => by rw [hN2]; exact bf _ ⟨#[63]⟩ w (by rw [ah]; show _ + 1 ≤ _; omega)
 have xk := hid hN2
 clear hN2
 obtain ⟨N3, hN3⟩ : ∃ R, R = N2 ++ s11.data.toList := ⟨_, rfl⟩
 have lN3 : N3.length ≤ 7516192770 := by rw [hN3, List.length_append, show s11.data.toList.length = s11.size from Array.length_toList]; omega
 have aN3 : ∀ w : World, (Op.stringOp .add (strOf N2) s11).run Tryz.prog w = .ok (.string (strOf N3)) w := fun w => by rw [hN3]; exact bf _ s11 w (by rw [ah]; omega)
 have HN3 := hid hN3
 clear hN3
 have HR := hid hR
 have TI := hid hl
 clear hR hl
 have hcm' := hcm
 unfold maxLen at hcm
 go_enter Tryz.func21, Tryz.ntmps21
 go_upto_region 1 with (fail)
 generalize hw1 : w.alloc _ = w1
 have hb1 : Below w.heap.size w w1 := by rw [← hw1]; exact (Below.refl _ _).alloc (Nat.le_refl _) _
 have hlt1 : w.heap.size < w1.heap.size := by rw [← hw1]; simp
 have HBX1 : Hid (Box w1 w.heap.size #[.string s0, .string s1, .string s2, .string s3, .bool b4, .int .i64 z5, .bool b6, .string s7, .slice A n cap, .bool b9, .bool b10, .string s11, .string s12]) := by
  show _ = _
  rw [← hw1]
  exact heap_alloc_new w _
 clear hw1
 obtain ⟨c0, c1, c2, c3, c4, c5, c6, c7, c8, c9, c10, c11, c12⟩ := jB HBX1.out
 go_upto_if 10 with (fail)
 go_cut [5] (fun v wx => v = .string (strOf M) ∧ Hid (Below w1.heap.size w1 wx))
 case first =>
  cases b4 with
  | true =>
   obtain ⟨Y1, hY1⟩ : ∃ R, R = X0 ++ [47, 47] := ⟨_, rfl⟩
   have lY1 : Y1.length ≤ 1073741827 := by rw [hY1, List.length_append]; show _ + 2 ≤ _; omega
   have aY1 : ∀ w : World, (Op.stringOp .add (strOf X0) ⟨#[47, 47]⟩).run Tryz.prog w = .ok (.string (strOf Y1)) w := fun w => by rw [hY1]; exact bf _ ⟨#[47, 47]⟩ w (by rw [ah]; show _ + 2 ≤ _; omega)
   have HY1 := hid hY1
   clear hY1
   obtain ⟨Y2, hY2⟩ : ∃ R, R = Y1 ++ s1.data.toList := ⟨_, rfl⟩
   have lY2 : Y2.length ≤ 2147483651 := by rw [hY2, List.length_append, show s1.data.toList.length = s1.size from Array.length_toList]; omega
   have aY2 : ∀ w : World, (Op.stringOp .add (strOf Y1) s1).run Tryz.prog w = .ok (.string (strOf Y2)) w := fun w => by rw [hY2]; exact bf _ s1 w (by rw [ah]; omega)
   have HY2 := hid hY2
   clear hY2
   obtain ⟨V, hV⟩ : ∃ V, V = strOf (s1.data.toList ++ s2.data.toList) := ⟨_, rfl⟩
   have aV : ∀ w : World, (Op.stringOp .add s1 s2).run Tryz.prog w = .ok (.string V) w := fun w => by rw [hV]; exact bf s1 s2 w (by omega)
   have HVV := hid hV
   clear hV
   by_cases e2 : s2.data.toList = []
   ·have q2 : s2.toList = [] := by rw [tl]; exact e2
    by_cases e1 : s1.data.toList = []
    ·have q3 : V.toList = [] := by rw [tl, HVV.out]; show _ ++ _ = _; rw [e1, e2]; rfl
     have HCR : Hid (iT s1 s2 = []) := by show _ = _; unfold iT; rw [if_pos e2, if_pos e1]
     have FT := hid e1
     clear e1 e2
     obtain ⟨Z1, hZ1⟩ : ∃ R, R = Y2 ++ s3.data.toList := ⟨_, rfl⟩
     have lZ1 : Z1.length ≤ 3221225475 := by rw [hZ1, List.length_append, show s3.data.toList.length = s3.size from Array.length_toList]; omega
     have aZ1 : ∀ w : World, (Op.stringOp .add (strOf Y2) s3).run Tryz.prog w = .ok (.string (strOf Z1)) w := fun w => by rw [hZ1]; exact bf _ s3 w (by rw [ah]; omega)
     have HZ1 := hid hZ1
     clear hZ1
     by_cases hp : z5 = -1
     ·have q1 : (z5 == -1) = true := by simpa using hp
      have q2 : (z5 != -1) = false := by simpa using hp
      have HP : Hid (iI z5 = []) := if_pos hp
      have HV : Hid (M = Z1) := by show _ = _; rw [HM.out, HZ1.out, HY2.out, HY1.out, FT.out]; unfold kF; rw [if_pos rfl, HP.out, HCR.out]; simp
      clear hp
      go_wp2
      go_meet
      exact ⟨by rw [HV.out], Below.refl _ _⟩
     ·have q1 : (z5 == -1) = false := by simpa using hp
      have q2 : (z5 != -1) = true := by simpa using hp
      have HP : Hid (iI z5 = 58 :: Lib.itoa z5) := if_neg hp
      obtain ⟨Z2, hZ2⟩ : ∃ R, R = Z1 ++ [58] := ⟨_, rfl⟩
      have lZ2 : Z2.length ≤ 3221225476 := by rw [hZ2, List.length_append]; show _ + 1 ≤ _; omega
      have aZ2 : ∀ w : World, (Op.stringOp .add (strOf Z1) ⟨#[58]⟩).run Tryz.prog w = .ok (.string (strOf Z2)) w := fun w => by rw [hZ2]; exact bf _ ⟨#[58]⟩ w (by rw [ah]; show _ + 1 ≤ _; omega)
      have HZ2 := hid hZ2
      clear hZ2
      obtain ⟨Z3, hZ3⟩ : ∃ R, R = Z2 ++ IT := ⟨_, rfl⟩
      have lZ3 : Z3.length ≤ 3221225496 := by rw [hZ3, List.length_append]; omega
      have aZ3 : ∀ w : World, (Op.stringOp .add (strOf Z2) (strOf IT)).run Tryz.prog w = .ok (.string (strOf Z3)) w := fun w => by rw [hZ3]; exact gK _ _ w (by omega)
      have HZ3 := hid hZ3
      clear hZ3
      have HV : Hid (M = Z3) := by show _ = _; rw [HM.out, HZ3.out, HZ2.out, HZ1.out, HY2.out, HY1.out, FT.out, HIT.out]; unfold kF; rw [if_pos rfl, HP.out, HCR.out]; simp
      clear hp
      go_wp2_with fail
      refine (uV z5 _ hz hz').mono ?_
      rintro e w3 ⟨rfl, hb3⟩
      rw [← HIT.out]
      go_wp2
      go_meet
      exact ⟨by rw [HV.out], hb3⟩
    ·have q3 : (V.toList == []) = false := by rw [tl, HVV.out]; show (_ ++ _ == _) = false; rw [e2]; simpa using e1
     have q4 : V.toList.isEmpty = false := by rw [tl, HVV.out]; show List.isEmpty (_ ++ _) = false; rw [e2]; simpa using e1
     have HCR : Hid (iT s1 s2 = s1.data.toList ++ [64]) := by show _ = _; unfold iT; rw [if_pos e2, if_neg e1]
     clear e1 e2
     obtain ⟨Y5, hY5⟩ : ∃ R, R = Y2 ++ [64] := ⟨_, rfl⟩
     have lY5 : Y5.length ≤ 2147483652 := by rw [hY5, List.length_append]; show _ + 1 ≤ _; omega
     have aY5 : ∀ w : World, (Op.stringOp .add (strOf Y2) ⟨#[64]⟩).run Tryz.prog w = .ok (.string (strOf Y5)) w := fun w => by rw [hY5]; exact bf _ ⟨#[64]⟩ w (by rw [ah]; show _ + 1 ≤ _; omega)
     have HY5 := hid hY5
     clear hY5
     obtain ⟨Z1, hZ1⟩ : ∃ R, R = Y5 ++ s3.data.toList := ⟨_, rfl⟩
     have lZ1 : Z1.length ≤ 3221225476 := by rw [hZ1, List.length_append, show s3.data.toList.length = s3.size from Array.length_toList]; omega
     have aZ1 : ∀ w : World, (Op.stringOp .add (strOf Y5) s3).run Tryz.prog w = .ok (.string (strOf Z1)) w := fun w => by rw [hZ1]; exact bf _ s3 w (by rw [ah]; omega)
     have HZ1 := hid hZ1
     clear hZ1
     by_cases hp : z5 = -1
     ·have q1 : (z5 == -1) = true := by simpa using hp
      have q2 : (z5 != -1) = false := by simpa using hp
      have HP : Hid (iI z5 = []) := if_pos hp
      have HV : Hid (M = Z1) := by show _ = _; rw [HM.out, HZ1.out, HY5.out, HY2.out, HY1.out]; unfold kF; rw [if_pos rfl, HP.out, HCR.out]; simp
      clear hp
      go_wp2
      go_meet
      exact ⟨by rw [HV.out], Below.refl _ _⟩
     ·have q1 : (z5 == -1) = false := by simpa using hp
      have q2 : (z5 != -1) = true := by simpa using hp
      have HP : Hid (iI z5 = 58 :: Lib.itoa z5) := if_neg hp
      obtain ⟨Z2, hZ2⟩ : ∃ R, R = Z1 ++ [58] := ⟨_, rfl⟩
      have lZ2 : Z2.length ≤ 3221225477 := by rw [hZ2, List.length_append]; show _ + 1 ≤ _; omega
      have aZ2 : ∀ w : World, (Op.stringOp .add (strOf Z1) ⟨#[58]⟩).run Tryz.prog w = .ok (.string (strOf Z2)) w := fun w => by rw [hZ2]; exact bf _ ⟨#[58]⟩ w (by rw [ah]; show _ + 1 ≤ _; omega)
      have HZ2 := hid hZ2
      clear hZ2
      obtain ⟨Z3, hZ3⟩ : ∃ R, R = Z2 ++ IT := ⟨_, rfl⟩
      have lZ3 : Z3.length ≤ 3221225497 := by rw [hZ3, List.length_append]; omega
      have aZ3 : ∀ w : World, (Op.stringOp .add (strOf Z2) (strOf IT)).run Tryz.prog w = .ok (.string (strOf Z3)) w := fun w => by rw [hZ3]; exact gK _ _ w (by omega)
      have HZ3 := hid hZ3
      clear hZ3
      have HV : Hid (M = Z3) := by show _ = _; rw [HM.out, HZ3.out, HZ2.out, HZ1.out, HY5.out, HY2.out, HY1.out, HIT.out]; unfold kF; rw [if_pos rfl, HP.out, HCR.out]; simp
      clear hp
      go_wp2_with fail
      refine (uV z5 _ hz hz').mono ?_
      rintro e w3 ⟨rfl, hb3⟩
      rw [← HIT.out]
      go_wp2
      go_meet
      exact ⟨by rw [HV.out], hb3⟩
   ·have q2 : (s2.toList == []) = false := by rw [tl]; simpa using e2
    have q2' : s2.toList.isEmpty = false := by rw [tl]; simpa using e2
    have q3 : (V.toList == []) = false := by rw [tl, HVV.out]; show (_ ++ _ == _) = false; simp [e2]
    have q4 : V.toList.isEmpty = false := by rw [tl, HVV.out]; show List.isEmpty (_ ++ _) = false; simp [e2]
    have HCR : Hid (iT s1 s2 = s1.data.toList ++ [58] ++ s2.data.toList ++ [64]) := by show _ = _; unfold iT; rw [if_neg e2]
    clear e2
    obtain ⟨Y3, hY3⟩ : ∃ R, R = Y2 ++ [58] := ⟨_, rfl⟩
    have lY3 : Y3.length ≤ 2147483652 := by rw [hY3, List.length_append]; show _ + 1 ≤ _; omega
    have aY3 : ∀ w : World, (Op.stringOp .add (strOf Y2) ⟨#[58]⟩).run Tryz.prog w = .ok (.string (strOf Y3)) w := fun w => by rw [hY3]; exact bf _ ⟨#[58]⟩ w (by rw [ah]; show _ + 1 ≤ _; omega)
    have HY3 := hid hY3
    clear hY3
    obtain ⟨Y4, hY4⟩ : ∃ R, R = Y3 ++ s2.data.toList := ⟨_, rfl⟩
    have lY4 : Y4.length ≤ 3221225476 := by rw [hY4, List.length_append, show s2.data.toList.length = s2.size from Array.length_toList]; omega
    have aY4 : ∀ w : World, (Op.stringOp .add (strOf Y3) s2).run Tryz.prog w = .ok (.string (strOf Y4)) w := fun w => by rw [hY4]; exact bf _ s2 w (by rw [ah]; omega)
    have HY4 := hid hY4
    clear hY4
    obtain ⟨Y5, hY5⟩ : ∃ R, R = Y4 ++ [64] := ⟨_, rfl⟩
    have lY5 : Y5.length ≤ 3221225477 := by rw [hY5, List.length_append]; show _ + 1 ≤ _; omega
    have aY5 : ∀ w : World, (Op.stringOp .add (strOf Y4) ⟨#[64]⟩).run Tryz.prog w = .ok (.string (strOf Y5)) w := fun w => by rw [hY5]; exact bf _ ⟨#[64]⟩ w (by rw [ah]; show _ + 1 ≤ _; omega)
    have HY5 := hid hY5
    clear hY5
    obtain ⟨Z1, hZ1⟩ : ∃ R, R = Y5 ++ s3.data.toList := ⟨_, rfl⟩
    have lZ1 : Z1.length ≤ 4294967301 := by rw [hZ1, List.length_append, show s3.data.toList.length = s3.size from Array.length_toList]; omega
    have aZ1 : ∀ w : World, (Op.stringOp .add (strOf Y5) s3).run Tryz.prog w = .ok (.string (strOf Z1)) w := fun w => by rw [hZ1]; exact bf _ s3 w (by rw [ah]; omega)
    have HZ1 := hid hZ1
    clear hZ1
    by_cases hp : z5 = -1
    ·have q1 : (z5 == -1) = true := by simpa using hp
     have q2 : (z5 != -1) = false := by simpa using hp
     have HP : Hid (iI z5 = []) := if_pos hp
     have HV : Hid (M = Z1) := by show _ = _; rw [HM.out, HZ1.out, HY5.out, HY4.out, HY3.out, HY2.out, HY1.out]; unfold kF; rw [if_pos rfl, HP.out, HCR.out]; simp
     clear hp
     go_wp2
     go_meet
     exact ⟨by rw [HV.out], Below.refl _ _⟩
    ·have q1 : (z5 == -1) = false := by simpa using hp
     have q2 : (z5 != -1) = true := by simpa using hp
     have HP : Hid (iI z5 = 58 :: Lib.itoa z5) := if_neg hp
     obtain ⟨Z2, hZ2⟩ : ∃ R, R = Z1 ++ [58] := ⟨_, rfl⟩
     have lZ2 : Z2.length ≤ 4294967302 := by rw [hZ2, List.length_append]; show _ + 1 ≤ _; omega
     have aZ2 : ∀ w : World, (Op.stringOp .add (strOf Z1) ⟨#[58]⟩).run Tryz.prog w = .ok (.string (strOf Z2)) w := fun w => by rw [hZ2]; exact bf _ ⟨#[58]⟩ w (by rw [ah]; show _ + 1 ≤ _; omega)
     have HZ2 := hid hZ2
     clear hZ2
     obtain ⟨Z3, hZ3⟩ : ∃ R, R = Z2 ++ IT := ⟨_, rfl⟩
     have lZ3 : Z3.length ≤ 4294967322 := by rw [hZ3, List.length_append]; omega
     have aZ3 : ∀ w : World, (Op.stringOp .add (strOf Z2) (strOf IT)).run Tryz.prog w = .ok (.string (strOf Z3)) w := fun w => by rw [hZ3]; exact gK _ _ w (by omega)
     have HZ3 := hid hZ3
     clear hZ3
     have HV : Hid (M = Z3) := by show _ = _; rw [HM.out, HZ3.out, HZ2.out, HZ1.out, HY5.out, HY4.out, HY3.out, HY2.out, HY1.out, HIT.out]; unfold kF; rw [if_pos rfl, HP.out, HCR.out]; simp
     clear hp
     go_wp2_with fail
     refine (uV z5 _ hz hz').mono ?_
     rintro e w3 ⟨rfl, hb3⟩
     rw [← HIT.out]
     go_wp2
     go_meet
     exact ⟨by rw [HV.out], hb3⟩
  | false =>
   cases b6 with
   | true =>
    have HV : Hid (M = X0) := by show _ = _; rw [HM.out]; unfold kF; rw [if_neg (by decide), if_neg (by simp [dotted]), List.append_nil]
    go_wp2
    go_meet
    exact ⟨by rw [HV.out], Below.refl _ _⟩
   | false =>
    by_cases h1n : 1 < n
    ·obtain ⟨x, y, r, hlx⟩ : ∃ x y r, l = x :: y :: r := by
      have := HN.out
      match l, this with
      | x :: y :: r, _ => exact ⟨x, y, r, rfl⟩
      | [_], h => simp at h; omega
      | [], h => simp at h; omega
     have hRr := HR.out.below hb1
     obtain ⟨g, off, rfl, hg, hcell⟩ := hRr.spot (by omega)
     have hc := hcell 0 (by rw [List.length_map, HN.out]; omega)
     have e0 : (l.map Value.string)[0]'(by rw [List.length_map, HN.out]; omega) = .string x := by simp [hlx]
     rw [e0, Nat.add_zero] at hc
     have HD : Hid (dotted false l = decide (x.data.toList = [])) := by show _ = _; rw [hlx]; rfl
     clear hRr hcell e0 hlx
     by_cases hx : x.data.toList = []
     ·have q1 : x.toList = [] := by rw [tl]; exact hx
      have GH : Hid (dotted false l = true) := HD.out.trans (decide_eq_true hx)
      clear hx
      obtain ⟨Z1, hZ1⟩ : ∃ R, R = X0 ++ [47, 46] := ⟨_, rfl⟩
      have lZ1 : Z1.length ≤ 1073741827 := by rw [hZ1, List.length_append]; show _ + 2 ≤ _; omega
      have aZ1 : ∀ w : World, (Op.stringOp .add (strOf X0) ⟨#[47, 46]⟩).run Tryz.prog w = .ok (.string (strOf Z1)) w := fun w => by rw [hZ1]; exact bf _ ⟨#[47, 46]⟩ w (by rw [ah]; show _ + 2 ≤ _; omega)
      have HZ1 := hid hZ1
      clear hZ1
      have HV : Hid (M = Z1) := by show _ = _; rw [HM.out, HZ1.out]; unfold kF; rw [if_neg (by decide), if_pos GH.out]
      go_wp2
      go_meet
      exact ⟨by rw [HV.out], Below.refl _ _⟩
     ·have q1 : (x.toList == []) = false := by rw [tl]; simpa using hx
      have q1' : x.toList.isEmpty = false := by rw [tl]; simpa using hx
      have GH : Hid (¬ dotted false l = true) := by show ¬ _; rw [HD.out]; simpa using hx
      have HV : Hid (M = X0) := by show _ = _; rw [HM.out]; unfold kF; rw [if_neg (by decide), if_neg GH.out, List.append_nil]
      clear hx
      go_wp2
      go_meet
      exact ⟨by rw [HV.out], Below.refl _ _⟩
    ·have GH : Hid (¬ dotted false l = true) := by
      have := HN.out
      match l, this with
      | x :: y :: r, h => simp at h; omega
      | [_], h => simp [dotted, Hid]
      | [], h => simp [dotted, Hid]
     have HV : Hid (M = X0) := by show _ = _; rw [HM.out]; unfold kF; rw [if_neg (by decide), if_neg GH.out, List.append_nil]
     go_wp2
     go_meet
     exact ⟨by rw [HV.out], Below.refl _ _⟩
 case rest =>
 obtain ⟨rfl, HB2⟩ := hcut
 clear c0 c1 c2 c3 c4 c5 c6 c7 c8 c9 c10 c11 c12
 have hbx := HBX1.out.below HB2.out hlt1
 have aav := hid hbx
 obtain ⟨c0, c1, c2, c3, c4, c5, c6, c7, c8, c9, c10, c11, c12⟩ := jB hbx
 clear hbx
 have hlt2 : w.heap.size < wc.heap.size := Nat.lt_of_lt_of_le hlt1 HB2.out.size
 go_wp2_with fail
 refine (Sv s0 s1 s2 s3 b4 z5 b6 s7 A n cap l b9 b10 s11 s12 _ (HR.out.below (bel hb1 HB2.out)) hnc hcm' hs7 TI.out).mono ?_
 rintro e w5 ⟨rfl, hb5⟩
 rw [← JV.out]
 clear c0 c1 c2 c3 c4 c5 c6 c7 c8 c9 c10 c11 c12
 have hbx := aav.out.below hb5 hlt2
 obtain ⟨c0, c1, c2, c3, c4, c5, c6, c7, c8, c9, c10, c11, c12⟩ := jB hbx
 clear hbx
 have mO := hid (bel (bel hb1 HB2.out) hb5)
 have HQ : Hid (uG s0 s1 s2 s3 b4 z5 b6 s7 l b9 s11 = if b9 then N3 else N1) := by
  show _ = _
  unfold uG
  rw [HN3.out, xk.out, HN1.out, JV.out, HM.out, HX0.out]
  cases b9 <;> simp
 have HRF : Hid (Ji f s0 s1 s2 s3 b4 z5 b6 s7 A n cap l b9 b10 s11 s12 = (if b9 then N3 else N1) ++ (if b10 && f then 35 :: s12.data.toList else [])) := by show _ = _; unfold Ji; rw [HQ.out]
 cases b9 with
 | true =>
  cases b10 with
  | true =>
   cases f with
   | true =>
    obtain ⟨W1, hW1⟩ : ∃ R, R = N3 ++ [35] := ⟨_, rfl⟩
    have lW1 : W1.length ≤ 7516192771 := by rw [hW1, List.length_append]; show _ + 1 ≤ _; omega
    have aW1 : ∀ w : World, (Op.stringOp .add (strOf N3) ⟨#[35]⟩).run Tryz.prog w = .ok (.string (strOf W1)) w := fun w => by rw [hW1]; exact bf _ ⟨#[35]⟩ w (by rw [ah]; show _ + 1 ≤ _; omega)
    have HW1 := hid hW1
    clear hW1
    obtain ⟨W2, hW2⟩ : ∃ R, R = W1 ++ s12.data.toList := ⟨_, rfl⟩
    have lW2 : W2.length ≤ 8589934595 := by rw [hW2, List.length_append, show s12.data.toList.length = s12.size from Array.length_toList]; omega
    have aW2 : ∀ w : World, (Op.stringOp .add (strOf W1) s12).run Tryz.prog w = .ok (.string (strOf W2)) w := fun w => by rw [hW2]; exact bf _ s12 w (by rw [ah]; omega)
    have HW2 := hid hW2
    clear hW2
    have HE : Hid (Ji true s0 s1 s2 s3 b4 z5 b6 s7 A n cap l true true s11 s12 = W2) := by show _ = _; rw [HRF.out, HW2.out, HW1.out]; simp
    go_wp2
    go_ret
    exact ⟨by rw [HE.out]; rfl, mO.out⟩
   | false =>
    have HE : Hid (Ji false s0 s1 s2 s3 b4 z5 b6 s7 A n cap l true true s11 s12 = N3) := by show _ = _; rw [HRF.out]; simp
    go_wp2
    go_ret
    exact ⟨by rw [HE.out]; rfl, mO.out⟩
  | false =>
   have HE : Hid (Ji f s0 s1 s2 s3 b4 z5 b6 s7 A n cap l true false s11 s12 = N3) := by show _ = _; rw [HRF.out]; simp
   go_wp2
   go_ret
   exact ⟨by rw [HE.out]; rfl, mO.out⟩
 | false =>
  cases b10 with
  | true =>
   cases f with
   | true =>
    obtain ⟨W1, hW1⟩ : ∃ R, R = N1 ++ [35] := ⟨_, rfl⟩
    have lW1 : W1.length ≤ 6442450946 := by rw [hW1, List.length_append]; show _ + 1 ≤ _; omega
    have aW1 : ∀ w : World, (Op.stringOp .add (strOf N1) ⟨#[35]⟩).run Tryz.prog w = .ok (.string (strOf W1)) w := fun w => by rw [hW1]; exact bf _ ⟨#[35]⟩ w (by rw [ah]; show _ + 1 ≤ _; omega)
    have HW1 := hid hW1
    clear hW1
    obtain ⟨W2, hW2⟩ : ∃ R, R = W1 ++ s12.data.toList := ⟨_, rfl⟩
    have lW2 : W2.length ≤ 7516192770 := by rw [hW2, List.length_append, show s12.data.toList.length = s12.size from Array.length_toList]; omega
    have aW2 : ∀ w : World, (Op.stringOp .add (strOf W1) s12).run Tryz.prog w = .ok (.string (strOf W2)) w := fun w => by rw [hW2]; exact bf _ s12 w (by rw [ah]; omega)
    have HW2 := hid hW2
    clear hW2
    have HE : Hid (Ji true s0 s1 s2 s3 b4 z5 b6 s7 A n cap l false true s11 s12 = W2) := by show _ = _; rw [HRF.out, HW2.out, HW1.out]; simp
    go_wp2
    go_ret
    exact ⟨by rw [HE.out]; rfl, mO.out⟩
   | false =>
    have HE : Hid (Ji false s0 s1 s2 s3 b4 z5 b6 s7 A n cap l false true s11 s12 = N1) := by show _ = _; rw [HRF.out]; simp
    go_wp2
    go_ret
    exact ⟨by rw [HE.out]; rfl, mO.out⟩
  | false =>
   have HE : Hid (Ji f s0 s1 s2 s3 b4 z5 b6 s7 A n cap l false false s11 s12 = N1) := by show _ = _; rw [HRF.out]; simp
   go_wp2
   go_ret
   exact ⟨by rw [HE.out]; rfl, mO.out⟩
end Go.Proofs.YtcfgioklgmlclaaGreatDoor.UrlH
namespace Go.Proofs.YtcfgioklgmlclaaGreatDoor.Laws
open Go.RowKit Base aP fE aH tZ Uo Ulw uq qL lJ MV rC X7 Nk Qv kX Fh J8 aas
open Go.Proofs.YtcfgioklgmlclaaGreatDoor.dD (Dp)
theorem Jj {u : U} {A : Option Addr} {n c : Nat} (hS : Sh u n c) (hF : u.fG.length ≤ 400000) (w : World) (hR : Rs w A n u.aN) : Calls Tryz.prog 21 #[.agg #[.string (strOf u.aj), .string (strOf u.usr), .string (strOf u.dR), .string (strOf u.hst), .bool u.hh, .int .i64 u.port, .bool u.opq, .string (strOf u.txt), .slice A n c, .bool u.hq, .bool u.hf, .string (strOf u.eF), .string (strOf u.fG)], .bool false] w fun e w' => e = .returned (.string (strOf (lU u))) ∧ Below w.heap.size w w' := by
 have h := hS.all
 have k := UrlH.OX false (strOf u.aj) (strOf u.usr) (strOf u.dR) (strOf u.hst) u.hh u.port u.opq (strOf u.txt) A n c u.aN u.hq u.hf (strOf u.eF) (strOf u.fG) w hR.OW hS.nc hS.cm (by rw [ah]; omega) (by rw [ah]; omega) (by rw [ah]; omega) (by rw [ah]; omega) (by rw [ah]; omega) (by rw [ah]; omega) (by rw [ah]; exact Nat.le_trans hF (by decide)) hS.lo hS.hi (by omega)
 have e : UrlH.Ji false (strOf u.aj) (strOf u.usr) (strOf u.dR) (strOf u.hst) u.hh u.port u.opq (strOf u.txt) A n c u.aN u.hq u.hf (strOf u.eF) (strOf u.fG) = lU u := by
  unfold UrlH.Ji lU
  simp
 rw [e] at k
 exact k
theorem OY {u : U} {A : Option Addr} {n c : Nat} (hS : Sh u n c) (hF : u.fG.length ≤ 400000) (w : World) (hR : Rs w A n u.aN) : Calls Tryz.prog 14 #[.agg #[.string (strOf u.aj), .string (strOf u.usr), .string (strOf u.dR), .string (strOf u.hst), .bool u.hh, .int .i64 u.port, .bool u.opq, .string (strOf u.txt), .slice A n c, .bool u.hq, .bool u.hf, .string (strOf u.eF), .string (strOf u.fG)]] w fun e w' => (∃ A1 c1, e = .returned (.tuple #[.agg #[.string (strOf (tH u).1.ty), .string (strOf (tH u).1.sub), .slice A1 (tH u).1.ps.length c1], .string (strOf (tH u).2), .int .i64 (AY u)]) ∧ Mp w' (tH u).1 A1 c1) ∧ Below w.heap.size w w' := by
 refine (X8.Jk u A n c (lU u) (wZ u) w (fun w1 hb => Jj hS hF w1 (hR.below hb)) ZE ?_).mono ?_
 ·have h1 := SC u
  have h2 := CU hS.all hS.lo hS.hi
  omega
 ·rintro e w' ⟨h1, h2⟩
  exact ⟨dat_s h1, h2⟩
theorem ZB {M : MT} {A A2 : Option Addr} {c c2 : Nat} (w : World) (h : Mp w M A c) (k : Mp w M A2 c2) : Calls Tryz.prog 15 #[.agg #[.string (strOf M.ty), .string (strOf M.sub), .slice A M.ps.length c], .agg #[.string (strOf M.ty), .string (strOf M.sub), .slice A2 M.ps.length c2]] w fun e w' => e = .returned (.bool true) ∧ Below w.heap.size w w' := by
 have h1 := Nk.yS (strOf M.ty) (strOf M.sub) A M.ps.length c (mF M.ps) (strOf M.ty) (strOf M.sub) A2 M.ps.length c2 (mF M.ps) w h.prm k.prm h.nc h.cm k.nc k.cm
 rw [Qv.EN] at h1
 exact h1
end Go.Proofs.YtcfgioklgmlclaaGreatDoor.Laws
