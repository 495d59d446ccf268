/- Texts that belong together: Yk. -/
import Derived.Test.YtcfgioklgmlclaaGreatDoorPD
import Derived.IntWalk
set_option linter.unusedSimpArgs false
set_option linter.unusedVariables false
set_option maxRecDepth 100000
set_option maxHeartbeats 64000000
namespace Go.Proofs.YtcfgioklgmlclaaGreatDoor.Yk
open Go Go.RowKit Base aP aan fE nV qL GZ G5 J7 lJ Nj uq
theorem ext_mid (s : ByteArray) (a b : Nat) : (s.extract a b).data.toList = (s.data.toList.drop a).take (b - a) := by
 rw [ByteArray.data_extract]
 simp [Array.toList_extract, List.extract_eq_take_drop]
theorem Pg (c : UInt8) : xJ (low c) = xJ c := by
 have H : ∀ n : Fin 256, xJ (low (UInt8.ofNat n.val)) = xJ (UInt8.ofNat n.val) := by decide +kernel
 have := H ⟨c.toNat, c.toNat_lt⟩
 simpa using this
theorem sD (L : List UInt8) : cZ (lower L) = cZ L := by
 unfold cZ lower
 rw [List.all_map]
 congr 1
 ·congr 1
  funext c
  exact Pg c
 ·cases L <;> rfl
theorem zJ {w : World} {g : Nat} {a b c : Value} (h : B3 29 w g a b c) (ok : Bool) (tmps : Array Value) (h2 : tmps.getD 2 undef = .pointer (some ⟨g, 0, none⟩)) (h3 : tmps.getD 3 undef = .bool ok) :
  (results Tryz.f42 tmps).run Tryz.prog w = .ok (.tuple #[.agg #[a, b, c], .bool ok]) w := by
 have hp' : tmps[2]?.getD undef = .pointer (some ⟨g, 0, none⟩) := by simpa using h2
 have hq' : tmps[3]?.getD undef = .bool ok := by simpa using h3
 simp [results, Tryz.results42, hp', hq', asAddr, h.load]
theorem Hg {T : TypeId} {w : World} {g k i : Nat} {a b c x : Value} (h : B3 T w g a b c) (hne : g ≠ k) : B3 T (w.setCell ⟨k, i, none⟩ x) g a b c := (heap_setCell_other w ⟨k, i, none⟩ g x hne).trans h
theorem b3_set1 {T : TypeId} {w : World} {g : Nat} {a b c : Value} (h : B3 T w g a b c) (x : Value) : B3 T (w.setCell ⟨g, 1, none⟩ x) g a x c := heap_setCell_same w g 1 _ _ x h
theorem WJ {T : TypeId} {w : World} {g : Nat} {a b c : Value} (h : B3 T w g a b c) (x : Value) : B3 T (w.setCell ⟨g, 2, none⟩ x) g a b x := heap_setCell_same w g 2 _ _ x h
theorem parse_any (s : ByteArray) (w : World) (hs : s.size ≤ 1048576) : Calls Tryz.prog 42 #[.string s] w fun e w' => Yl (mime s.data.toList) e w' ∧ Below w.heap.size w w' := by
 obtain ⟨i0, hi, hz0, hz1, hz2⟩ := info_parts Iz
 have hl : s.data.toList.length = s.size := Array.length_toList
 obtain ⟨o, ho⟩ : ∃ o, o = mime s.data.toList := ⟨_, rfl⟩
 rw [← ho]
 obtain ⟨T, hT⟩ : ∃ T : ByteArray, T = strOf (nI s.data.toList) := ⟨_, rfl⟩
 have hTd : T.data.toList = nI s.data.toList := by rw [hT]; rfl
 have hTs : T.size ≤ 1048576 := by rw [hT, ah]; have := Pn s.data.toList; omega
 have htl : T.data.toList.length = T.size := Array.length_toList
 have KH : Hid (∀ w, Calls Tryz.prog 37 #[.string s, .string ⟨#[9, 10, 13, 32]⟩] w fun e w' => e = .returned (.string T) ∧ w = w') := by
  show ∀ w, _
  rw [hT]
  exact fun w => CG.adE s w (by omega)
 obtain ⟨n0, hn0⟩ : ∃ n, n = (tw [47] T.data.toList).length := ⟨_, rfl⟩
 have HF0 : Hid (∀ w, Calls Tryz.prog 36 #[.string T, .string ⟨#[47]⟩] w fun e w' => e = .returned (.int .i64 (n0 : Int)) ∧ w = w') := by
  show ∀ w, _
  rw [hn0]
  exact fun w => uK T ⟨#[47]⟩ w (by omega) (by decide)
 have hn0l : n0 ≤ T.size := by rw [hn0, ← htl]; exact nJ _ _
 have GL := hid (fun (e : Ending) (w3 : World) (h1 : o = none) (h2 : e = .returned (.tuple #[.agg #[.string ⟨#[]⟩, .string ⟨#[]⟩, .slice none 0 0], .bool false])) => (show Yl o e w3 by
  rw [h1, h2]
  exact ⟨none, 0, rfl, Nat.le_refl _, Nat.zero_le _, rfl, fun j hj => by simp [mF, xH] at hj⟩))
 by_cases he0 : n0 = T.size
 ·have hd : dw [47] (nI s.data.toList) = [] := by rw [← hTd, qc, ← hn0, List.drop_eq_nil_of_le (by omega)]
  have HO : Hid (o = none) := by show _ = _; rw [ho]; unfold mime; rw [hd]
  have hq : ((n0 : Int) == (T.size : Int)) = true := by rw [beq_iff_eq]; omega
  clear ho hT hTd hTs htl hn0 hn0l he0 hd hl
  go_enter Tryz.func42, Tryz.ntmps42
  go_upto_region 1 with (fail)
  generalize hw1 : w.alloc _ = w1
  have HB1 : Hid (Below w.heap.size w w1) := by show Below _ _ _; rw [← hw1]; exact (Below.refl _ _).alloc (Nat.le_refl _) _
  have jr : Hid (B3 29 w1 w.heap.size (.string ⟨#[]⟩) (.string ⟨#[]⟩) (.slice none 0 0)) := by show B3 _ _ _ _ _ _; rw [← hw1]; exact heap_alloc_new _ _
  clear hw1
  go_wp2_with fail
  refine (KH.out _).mono ?_
  rintro e w2 ⟨rfl, hw2⟩
  subst hw2
  go_wp2_with fail
  refine (HF0.out _).mono ?_
  rintro e w2 ⟨rfl, hw2⟩
  subst hw2
  obtain ⟨f0, f1, f2⟩ := jr.out.thaw
  obtain ⟨k0, k1, k2⟩ := jr.out.facts
  go_wp2
  refine bodyPost_ret (w := zW _ w.heap.size _ _ _) (zJ (jr.out.put _ _ _) false _ rfl rfl) rfl ⟨GL.out _ _ HO.out rfl, iZ HB1.out (Nat.le_refl _) _ _ _⟩
 ·have hlt0 : n0 < T.size := by omega
  have hq : ((n0 : Int) == (T.size : Int)) = false := by rw [beq_eq_false_iff_ne]; omega
  have hn0i : (n0 : Int) ≤ (T.size : Int) := by omega
  obtain ⟨K, hK⟩ : ∃ K, K = T.extract 0 n0 := ⟨_, rfl⟩
  have hKd : K.data.toList = tw [47] (nI s.data.toList) := by rw [hK, ext_take, ← hTd, wU [47] T.data.toList, ← hn0]
  have hKs : K.size ≤ 1048576 := by rw [hK, ByteArray.size_extract]; omega
  obtain ⟨S, hS⟩ : ∃ S, S = T.extract (n0 + 1) T.size := ⟨_, rfl⟩
  have hSs : S.size ≤ 1048576 := by rw [hS, ByteArray.size_extract]; omega
  have hSd : S.data.toList = T.data.toList.drop (n0 + 1) := by rw [hS, ext_drop]
  have hdw : ∃ c, dw [47] (nI s.data.toList) = c :: S.data.toList := by
   rw [hSd, ← hTd, qc, ← hn0]
   exact ⟨_, List.drop_eq_getElem_cons (by omega)⟩
  have hk := fun w => vN.Jl K w (by omega)
  have HK := hid hK
  have HS := hid hS
  have FU := hid hSs
  cases hki : cZ K.data.toList with
  | false =>
   have HO : Hid (o = none) := by
    show _ = _
    obtain ⟨c, hdw⟩ := hdw
    rw [ho]
    unfold mime
    rw [hdw, ← hKd, hki]
    rfl
   rw [hki] at hk
   have HKI := hid hk
   clear ho hT hTd hTs htl hn0 hn0l he0 hl hK hKd hKs hS hSs hSd hdw hk hki
   go_enter Tryz.func42, Tryz.ntmps42
   go_upto_region 1 with (fail)
   generalize hw1 : w.alloc _ = w1
   have HB1 : Hid (Below w.heap.size w w1) := by show Below _ _ _; rw [← hw1]; exact (Below.refl _ _).alloc (Nat.le_refl _) _
   have jr : Hid (B3 29 w1 w.heap.size (.string ⟨#[]⟩) (.string ⟨#[]⟩) (.slice none 0 0)) := by show B3 _ _ _ _ _ _; rw [← hw1]; exact heap_alloc_new _ _
   clear hw1
   go_wp2_with fail
   refine (KH.out _).mono ?_
   rintro e w2 ⟨rfl, hw2⟩
   subst hw2
   go_wp2_with fail
   refine (HF0.out _).mono ?_
   rintro e w2 ⟨rfl, hw2⟩
   subst hw2
   go_wp2_with fail
   rw [← HK.out]
   refine (HKI.out _).mono ?_
   rintro e w2 ⟨rfl, hw2⟩
   subst hw2
   obtain ⟨f0, f1, f2⟩ := jr.out.thaw
   obtain ⟨k0, k1, k2⟩ := jr.out.facts
   go_wp2
   refine bodyPost_ret (w := zW _ w.heap.size _ _ _) (zJ (jr.out.put _ _ _) false _ rfl rfl) rfl ⟨GL.out _ _ HO.out rfl, iZ HB1.out (Nat.le_refl _) _ _ _⟩
  | true =>
   rw [hki] at hk
   have HKI := hid hk
   obtain ⟨LK, hLK⟩ : ∃ L : ByteArray, L = strOf (lower K.data.toList) := ⟨_, rfl⟩
   have HLK : Hid (∀ w, Calls Tryz.prog 39 #[.string K] w fun e w' => e = .returned (.string LK) ∧ Below w.heap.size w w') := by
    show ∀ w, _
    rw [hLK]
    exact fun w => AP.gq K w (by omega)
   have hsl : S.data.toList.length = S.size := Array.length_toList
   obtain ⟨n1, hn1⟩ : ∃ n, n = (tw [59] S.data.toList).length := ⟨_, rfl⟩
   have HF1 : Hid (∀ w, Calls Tryz.prog 36 #[.string S, .string ⟨#[59]⟩] w fun e w' => e = .returned (.int .i64 (n1 : Int)) ∧ w = w') := by
    show ∀ w, _
    rw [hn1]
    exact fun w => uK S ⟨#[59]⟩ w (by omega) (by decide)
   have hn1l : n1 ≤ S.size := by rw [hn1, ← hsl]; exact nJ _ _
   have hn1i : (n1 : Int) ≤ (S.size : Int) := by omega
   obtain ⟨X, hX⟩ : ∃ X, X = S.extract 0 n1 := ⟨_, rfl⟩
   have Gh : X.data.toList = tw [59] S.data.toList := by rw [hX, ext_take, wU [59] S.data.toList, ← hn1]
   have Qd : X.size ≤ 1048576 := by rw [hX, ByteArray.size_extract]; omega
   obtain ⟨U, hU⟩ : ∃ U : ByteArray, U = strOf (tr X.data.toList) := ⟨_, rfl⟩
   have Ku : U.data.toList = tr (tw [59] S.data.toList) := by rw [hU, ← Gh]; rfl
   have hxl : X.data.toList.length = X.size := Array.length_toList
   have hUs : U.size ≤ 1048576 := by rw [hU, ah]; have := E8 X.data.toList; omega
   have Ce : Hid (∀ w, Calls Tryz.prog 40 #[.string X, .string ⟨#[9, 10, 13, 32]⟩] w fun e w' => e = .returned (.string U) ∧ w = w') := by
    show ∀ w, _
    rw [hU]
    exact fun w => CG.zI X w (by omega)
   have hu := fun w => vN.Jl U w (by omega)
   have hom : o = if cZ U.data.toList = true then some ⟨lower K.data.toList, lower U.data.toList, jF (dw [59] S.data.toList) []⟩ else none := by
    obtain ⟨c, hdw⟩ := hdw
    rw [ho]
    unfold mime
    rw [hdw]
    simp only []
    rw [← hKd, hki, Ku, Bool.true_and]
   have HX := hid hX
   have hn0p : (n0 : Int) + 1 ≤ (T.size : Int) := by omega
   have hTm : (T.size : Int) ≤ 1048576 := by omega
   cases Y8 : cZ U.data.toList with
   | false =>
    have HO : Hid (o = none) := by show _ = _; rw [hom, Y8]; rfl
    rw [Y8] at hu
    have HU := hid hu
    clear ho hT hTd hTs htl hn0 hn0l he0 hl hK hKd hKs hS hSs hSd hdw hk hki hLK hsl hn1 hn1l hX Gh Qd hU Ku hxl hUs hu hom Y8
    go_enter Tryz.func42, Tryz.ntmps42
    go_upto_region 1 with (fail)
    generalize hw1 : w.alloc _ = w1
    have HB1 : Hid (Below w.heap.size w w1) := by show Below _ _ _; rw [← hw1]; exact (Below.refl _ _).alloc (Nat.le_refl _) _
    have jr : Hid (B3 29 w1 w.heap.size (.string ⟨#[]⟩) (.string ⟨#[]⟩) (.slice none 0 0)) := by show B3 _ _ _ _ _ _; rw [← hw1]; exact heap_alloc_new _ _
    clear hw1
    go_wp2_with fail
    refine (KH.out _).mono ?_
    rintro e w2 ⟨rfl, hw2⟩
    subst hw2
    go_wp2_with fail
    refine (HF0.out _).mono ?_
    rintro e w2 ⟨rfl, hw2⟩
    subst hw2
    go_wp2_with fail
    rw [← HK.out]
    refine (HKI.out _).mono ?_
    rintro e w2 ⟨rfl, hw2⟩
    subst hw2
    go_wp2_with fail
    rw [← HK.out]
    refine (HLK.out _).mono ?_
    rintro e w2 ⟨rfl, hb2⟩
    have iG := hid (jr.out.below hb2)
    have HB2 := hid (bel HB1.out hb2)
    clear hb2
    go_upto_region 6 with (fail)
    generalize hw4 : w2.alloc _ = w4
    obtain ⟨g5, hg5⟩ : ∃ g, g = w2.heap.size := ⟨_, rfl⟩
    rw [← hg5]
    have HM4 : Hid (B3 29 w4 g5 (.string LK) (.string ⟨#[]⟩) (.slice none 0 0)) := by show B3 _ _ _ _ _ _; rw [← hw4, hg5]; exact heap_alloc_new _ _
    have mQ : Hid (B3 29 w4 w.heap.size (.string ⟨#[]⟩) (.string ⟨#[]⟩) (.slice none 0 0)) := by show B3 _ _ _ _ _ _; rw [← hw4]; exact iG.out.below ((Below.refl _ _).alloc (Nat.le_refl _) _)
    have HB4 : Hid (Below w.heap.size w w4) := by show Below _ _ _; rw [← hw4]; exact HB2.out.alloc HB2.out.size _
    have HGE : Hid (w.heap.size ≤ g5) := by show _ ≤ _; rw [hg5]; exact HB2.out.size
    have HGN : Hid (w.heap.size ≠ g5) := by show _ ≠ _; rw [hg5]; have := iG.out.lt; omega
    clear hw4 hg5 iG HB2 jr HB1
    go_wp2_with fail
    rw [← HS.out]
    refine (HF1.out _).mono ?_
    rintro e w2 ⟨rfl, hw2⟩
    subst hw2
    go_wp2_with fail
    rw [← HX.out]
    refine (Ce.out _).mono ?_
    rintro e w2 ⟨rfl, hw2⟩
    subst hw2
    go_wp2_with fail
    refine (HU.out _).mono ?_
    rintro e w2 ⟨rfl, hw2⟩
    subst hw2
    obtain ⟨f0, f1, f2⟩ := mQ.out.thaw
    obtain ⟨k0, k1, k2⟩ := mQ.out.facts
    go_wp2
    refine bodyPost_ret (w := zW _ w.heap.size _ _ _) (zJ (mQ.out.put _ _ _) false _ rfl rfl) rfl ⟨GL.out _ _ HO.out rfl, iZ HB4.out (Nat.le_refl _) _ _ _⟩
   | true =>
    obtain ⟨PS, hPS⟩ : ∃ PS, PS = jF (dw [59] S.data.toList) [] := ⟨_, rfl⟩
    rw [Y8, if_pos rfl, ← hPS] at hom
    obtain ⟨LU, hLU⟩ : ∃ L : ByteArray, L = strOf (lower U.data.toList) := ⟨_, rfl⟩
    have HLU : Hid (∀ w, Calls Tryz.prog 39 #[.string U] w fun e w' => e = .returned (.string LU) ∧ Below w.heap.size w w') := by
     show ∀ w, _
     rw [hLU]
     exact fun w => AP.gq U w (by omega)
    rw [Y8] at hu
    have HU := hid hu
    have Yg : Hid (LK = strOf (lower K.data.toList) ∧ LU = strOf (lower U.data.toList)) := ⟨hLK, hLU⟩
    have HO := hid hom
    have HW1 : Hid (jF (S.data.toList.drop n1) [] = PS) := by show _ = _; rw [hPS, qc, ← hn1]
    have HSL := hid hsl
    clear ho hT hTd hTs htl hn0 hn0l he0 hl hK hKd hKs hS hSs hSd hdw hk hki hLK hsl hn1 hX Gh Qd hU Ku hxl hUs hu hom Y8 hPS hLU
    go_enter Tryz.func42, Tryz.ntmps42
    go_upto_region 1 with (fail)
    generalize hw1 : w.alloc _ = w1
    have HB1 : Hid (Below w.heap.size w w1) := by show Below _ _ _; rw [← hw1]; exact (Below.refl _ _).alloc (Nat.le_refl _) _
    have jr : Hid (B3 29 w1 w.heap.size (.string ⟨#[]⟩) (.string ⟨#[]⟩) (.slice none 0 0)) := by show B3 _ _ _ _ _ _; rw [← hw1]; exact heap_alloc_new _ _
    clear hw1
    go_wp2_with fail
    refine (KH.out _).mono ?_
    rintro e w2 ⟨rfl, hw2⟩
    subst hw2
    go_wp2_with fail
    refine (HF0.out _).mono ?_
    rintro e w2 ⟨rfl, hw2⟩
    subst hw2
    go_wp2_with fail
    rw [← HK.out]
    refine (HKI.out _).mono ?_
    rintro e w2 ⟨rfl, hw2⟩
    subst hw2
    go_wp2_with fail
    rw [← HK.out]
    refine (HLK.out _).mono ?_
    rintro e w2 ⟨rfl, hb2⟩
    have iG := hid (jr.out.below hb2)
    have HB2 := hid (bel HB1.out hb2)
    clear hb2
    go_upto_region 6 with (fail)
    generalize hw4 : w2.alloc _ = w4
    obtain ⟨g5, hg5⟩ : ∃ g, g = w2.heap.size := ⟨_, rfl⟩
    rw [← hg5]
    have HM4 : Hid (B3 29 w4 g5 (.string LK) (.string ⟨#[]⟩) (.slice none 0 0)) := by show B3 _ _ _ _ _ _; rw [← hw4, hg5]; exact heap_alloc_new _ _
    have mQ : Hid (B3 29 w4 w.heap.size (.string ⟨#[]⟩) (.string ⟨#[]⟩) (.slice none 0 0)) := by show B3 _ _ _ _ _ _; rw [← hw4]; exact iG.out.below ((Below.refl _ _).alloc (Nat.le_refl _) _)
    have HB4 : Hid (Below w.heap.size w w4) := by show Below _ _ _; rw [← hw4]; exact HB2.out.alloc HB2.out.size _
    have HGE : Hid (w.heap.size ≤ g5) := by show _ ≤ _; rw [hg5]; exact HB2.out.size
    have HGN : Hid (w.heap.size ≠ g5) := by show _ ≠ _; rw [hg5]; have := iG.out.lt; omega
    clear hw4 hg5 iG HB2 jr HB1
    go_wp2_with fail
    rw [← HS.out]
    refine (HF1.out _).mono ?_
    rintro e w2 ⟨rfl, hw2⟩
    subst hw2
    go_wp2_with fail
    rw [← HX.out]
    refine (Ce.out _).mono ?_
    rintro e w2 ⟨rfl, hw2⟩
    subst hw2
    go_wp2_with fail
    refine (HU.out _).mono ?_
    rintro e w2 ⟨rfl, hw2⟩
    subst hw2
    go_wp2_with fail
    refine (HLU.out _).mono ?_
    rintro e w5 ⟨rfl, hb5⟩
    have F5 := hid (mQ.out.below hb5)
    have HM5 := hid (HM4.out.below hb5)
    have mO := hid (bel HB4.out hb5)
    clear hb5
    obtain ⟨f0, f1, f2⟩ := HM5.out.thaw
    obtain ⟨k0, k1, k2⟩ := HM5.out.facts
    go_wp2
    clear f0 f1 f2 k0 k1 k2
    generalize hw6 : w5.setCell _ _ = w6
    have HM6 : Hid (B3 29 w6 g5 (.string LK) (.string LU) (.slice none 0 0)) := by show B3 _ _ _ _ _ _; rw [← hw6]; exact b3_set1 HM5.out _
    have Nh : Hid (B3 29 w6 w.heap.size (.string ⟨#[]⟩) (.string ⟨#[]⟩) (.slice none 0 0)) := by show B3 _ _ _ _ _ _; rw [← hw6]; exact Hg F5.out HGN.out
    have sW : Hid (Below w.heap.size w w6) := by show Below _ _ _; rw [← hw6]; exact mO.out.setCell HGE.out _
    clear hw6 F5 HM5 mO
    obtain ⟨Bs, hBs⟩ : ∃ B, B = w6.heap.size := ⟨_, rfl⟩
    have HGB : Hid (g5 < Bs) := by show _ < _; rw [hBs]; exact HM6.out.lt
    have HWB : Hid (w.heap.size ≤ Bs) := by show _ ≤ _; rw [hBs]; exact sW.out.size
    have HB66 : Hid (Bs ≤ w6.heap.size) := by show _ ≤ _; omega
    clear hBs
    go_loopw [4, 7, 8, 9, 10, 11, 12] (fun v4 _ _ _ _ _ _ wr => ∃ (at_ : Nat) (acc : List (List UInt8 × List UInt8)) (v : Value), at_ ≤ S.size ∧ acc.length ≤ at_ ∧ v4 = .int .i64 (at_ : Int) ∧ Hid (B3 29 wr g5 (.string LK) (.string LU) v) ∧ Hid (B3 29 wr w.heap.size (.string ⟨#[]⟩) (.string ⟨#[]⟩) (.slice none 0 0)) ∧ Hid (wr.ownsRow Bs 69 2 v acc.length (cu acc)) ∧ Hid (Below w.heap.size w wr) ∧ Hid (Bs ≤ wr.heap.size) ∧ Hid (jF (S.data.toList.drop at_) acc = PS)) (fun v4 _ _ _ _ _ _ _ => S.size - (intOf v4).toNat)
    case atStart => exact ⟨n1, [], _, by omega, Nat.zero_le _, rfl, HM6.out, Nh.out, World.ownsRow_nil _ _ _ _, sW.out, HB66.out, HW1.out⟩
    case round =>
     obtain ⟨at_, acc, v, hat, hal, rfl, HM, HX, kW, HB, HBS, HW⟩ := hrel
     have hS6 : S.size ≤ 1048576 := FU.out
     by_cases hlt : at_ < S.size
     ·have hal' : at_ < S.data.toList.length := by rw [HSL.out]; exact hlt
      obtain ⟨t, ht⟩ : ∃ t, t = S.data.toList.drop (at_ + 1) := ⟨_, rfl⟩
      have hpr : jF (pm t).2 (xA acc (pm t).1) = PS := by rw [← HW.out, List.drop_eq_getElem_cons hal', ← ht, zH]
      have je := hid hpr
      have HT := hid ht
      clear hal' hpr ht HW
      go_wp2
      go_loopw [4] (fun v4 wx => ∃ j : Nat, at_ + 1 ≤ j ∧ j ≤ S.size ∧ v4 = .int .i64 (j : Int) ∧ wx = wr ∧ Hid (tl t = tl (S.data.toList.drop j))) (fun v4 _ => S.size - (intOf v4).toNat)
      case atStart => exact ⟨at_ + 1, Nat.le_refl _, by omega, by go_num, rfl, by show _ = _; rw [HT.out]⟩
      case round =>
       obtain ⟨j, haj, hj, rfl, rfl, HTL⟩ := hrel
       by_cases hjl : j < S.size
       ·obtain ⟨x, hx⟩ : ∃ x, S[j] = x := ⟨_, rfl⟩
        have hjd : j < S.data.toList.length := by rw [HSL.out]; exact hjl
        have hxd : S.data.toList[j] = x := hx
        have hdj : S.data.toList.drop j = x :: S.data.toList.drop (j + 1) := by rw [← hxd]; exact List.drop_eq_getElem_cons hjd
        have hbl := fun w => vN.lC ⟨#[9, 10, 13, 32]⟩ x w (by decide)
        cases hb : vN.has (⟨#[9, 10, 13, 32]⟩ : ByteArray).data.toList x with
        | true =>
         rw [hb] at hbl
         have iM := hid hbl
         have HTN : Hid (tl t = tl (S.data.toList.drop (j + 1))) := by
          show _ = _
          rw [HTL.out, hdj, CG.Gu, if_pos]
          exact hb
         clear hjd hxd hdj hbl hb
         go_wp2_with fail
         refine (iM.out _).mono ?_
         rintro e w2 ⟨rfl, hw2⟩
         subst hw2
         go_wp2
         go_roundw
         case rel => exact ⟨j + 1, by omega, by omega, by go_num, by first | rfl | trivial, HTN.out⟩
         case measure => simp [intOf]; omega
        | false =>
         rw [hb] at hbl
         have iM := hid hbl
         obtain ⟨D, hD⟩ : ∃ D, D = S.data.toList.drop j := ⟨_, rfl⟩
         have htD : tl t = D := by
          rw [HTL.out, hD, hdj, CG.Gu, if_neg]
          intro h
          have h2 : vN.has (⟨#[9, 10, 13, 32]⟩ : ByteArray).data.toList x = true := h
          rw [hb] at h2
          cases h2
         have hDl : D.length = S.size - j := by rw [hD, List.length_drop, HSL.out]
         clear hjd hxd hdj hbl hb
         have hjm : j ≤ 1048576 := by omega
         obtain ⟨X1, hX1⟩ : ∃ X, X = S.extract j S.size := ⟨_, rfl⟩
         have hX1d : X1.data.toList = D := by rw [hX1, ext_drop, hD]
         have hX1s : X1.size ≤ 1073741824 := by rw [hX1, ByteArray.size_extract]; omega
         obtain ⟨n2, hn2⟩ : ∃ n, n = (tw [59, 61] D).length := ⟨_, rfl⟩
         have HF2 : Hid (∀ w, Calls Tryz.prog 36 #[.string X1, .string ⟨#[59, 61]⟩] w fun e w' => e = .returned (.int .i64 (n2 : Int)) ∧ w = w') := by
          show ∀ w, _
          rw [hn2, ← hX1d]
          exact fun w => uK X1 ⟨#[59, 61]⟩ w hX1s (by decide)
         have hn2l : n2 ≤ D.length := by rw [hn2]; exact nJ _ _
         obtain ⟨e1, he1⟩ : ∃ e, e = j + n2 := ⟨_, rfl⟩
         have he1l : e1 ≤ S.size := by omega
         have he1i : (j : Int) + (n2 : Int) = (e1 : Int) := by omega
         obtain ⟨Nm, hNm⟩ : ∃ N, N = S.extract j e1 := ⟨_, rfl⟩
         have hNmd : Nm.data.toList = tw [59, 61] (tl t) := by rw [hNm, ext_mid, ← hD, htD, wU [59, 61] D, ← hn2]; congr 1; omega
         have hNms : Nm.size ≤ 1048576 := by rw [hNm, ByteArray.size_extract]; omega
         obtain ⟨NL, hNL⟩ : ∃ L : ByteArray, L = strOf (lower Nm.data.toList) := ⟨_, rfl⟩
         have HLN : Hid (∀ w, Calls Tryz.prog 39 #[.string Nm] w fun e w' => e = .returned (.string NL) ∧ Below w.heap.size w w') := by
          show ∀ w, _
          rw [hNL]
          exact fun w => AP.gq Nm w (by omega)
         have hdwd : dw [59, 61] (tl t) = S.data.toList.drop e1 := by
          rw [htD, qc, ← hn2, hD, List.drop_drop, he1]
         have jr := hid hX1
         have HNM := hid hNm
         have HNL := hid hNL
         have HNMD := hid hNmd
         have HDW := hid hdwd
         have HE1I := hid he1i
         have hn2b : (n2 : Int) ≤ 1048576 := by omega
         have hn20 : (0 : Int) ≤ (n2 : Int) := by omega
         have hje : (j : Int) ≤ (e1 : Int) := by omega
         have hei : (e1 : Int) ≤ (S.size : Int) := by omega
         have hji : (j : Int) ≤ (S.size : Int) := by omega
         have haje : at_ + 1 ≤ e1 := by omega
         clear hX1 hX1d hX1s hn2 hNm hNmd hNms hNL hdwd hD htD hDl hn2l he1 HTL HT
         go_wp2_with fail
         refine (iM.out _).mono ?_
         rintro e w2 ⟨rfl, hw2⟩
         subst hw2
         go_wp2_with fail
         rw [← jr.out]
         refine (HF2.out _).mono ?_
         rintro e w2 ⟨rfl, hw2⟩
         subst hw2
         go_wp2_with fail
         rw [← HNM.out]
         refine (HLN.out _).mono ?_
         rintro e w3 ⟨rfl, hb3⟩
         have jd := hid (HX.out.below hb3)
         have Wx := hid (HM.out.below hb3)
         have HB3 := hid (bel HB.out hb3)
         have ig := hid (aI kW.out hb3)
         have HBS3 : Hid (Bs ≤ w3.heap.size) := Nat.le_trans HBS.out hb3.size
         clear hb3 he1i
         by_cases hee : e1 = S.size
         ·have hq2 : ((e1 : Int) == (S.size : Int)) = true := by rw [beq_iff_eq]; omega
          have HPE : Hid (acc = PS) := by
           show _ = _
           rw [← je.out]
           unfold pm
           rw [HDW.out, List.drop_eq_nil_of_le (by rw [HSL.out]; omega)]
           rfl
          have xR := jd
          have HM7 := Wx
          have rD := HB3
          have PU := ig
          clear hee
          obtain ⟨f0, f1, f2⟩ := xR.out.thaw
          obtain ⟨k0, k1, k2⟩ := xR.out.facts
          obtain ⟨l0, l1, l2⟩ := HM7.out.facts
          obtain ⟨A, cp, rfl, hc1, hc2, yJ⟩ := zC PU.out
          have Ud := hid yJ
          clear yJ
          go_wp2
          refine bodyPost_ret (w := zW _ w.heap.size _ _ _) (zJ (xR.out.put _ _ _) true _ rfl rfl) rfl ⟨?_, iZ rD.out (Nat.le_refl _) _ _ _⟩
          rw [HO.out]
          refine ⟨A, cp, ?_, ?_, hc2, ?_⟩
          ·show _ = Ending.returned (.tuple #[.agg #[.string (strOf (lower K.data.toList)), .string (strOf (lower U.data.toList)), .slice A PS.length cp], .bool true])
           rw [← Yg.out.1, ← Yg.out.2, ← HPE.out]
          ·show PS.length ≤ cp
           rw [← HPE.out]
           exact hc1
          ·show kV _ A PS.length (mF PS)
           rw [← HPE.out]
           refine Gs Ud.out ?_ _ _ _
           rintro b off rfl
           intro e
           have := (PU.out.lt b rfl).1
           have := HWB.out
           have := HGB.out
           have := HGE.out
           have := HGN.out
           omega
         ·have hq2 : ((e1 : Int) == (S.size : Int)) = false := by rw [beq_eq_false_iff_ne]; omega
          have hel : e1 < S.size := by omega
          have heli : (e1 : Int) < (S.size : Int) := by omega
          obtain ⟨y, hy⟩ : ∃ y, S[e1]'hel = y := ⟨_, rfl⟩
          have hed : e1 < S.data.toList.length := by rw [HSL.out]; exact hel
          have hyd : S.data.toList[e1] = y := hy
          obtain ⟨r, hr⟩ : ∃ r, r = S.data.toList.drop (e1 + 1) := ⟨_, rfl⟩
          have hdr : S.data.toList.drop e1 = y :: r := by rw [← hyd, hr]; exact List.drop_eq_getElem_cons hed
          by_cases Y9 : y = 59
          ·have hyc : ((y.toNat : Int) == 59) = true := by rw [Y9]; rfl
           have Nc : Hid (jF (S.data.toList.drop e1) acc = PS) := by
            show _ = _
            rw [← je.out]
            unfold pm
            rw [HDW.out, hdr]
            simp only []
            rw [if_pos Y9]
            rfl
           clear hee hed hyd hr hdr Y9
           go_wp2
           go_roundw
           case rel => exact ⟨e1, acc, v, by omega, by omega, rfl, Wx.out, jd.out, ig.out, HB3.out, HBS3.out, Nc.out⟩
           case measure => simp [intOf]; omega
          ·have hyc : ((y.toNat : Int) == 59) = false := by
            rw [beq_eq_false_iff_ne]
            intro e
            exact Y9 (UInt8.toNat_inj.1 (by show _ = 59; omega))
           have hpm : pm t = (if ((vl r).2.1 && cZ Nm.data.toList && vO.quotable (vl r).1) = true then some (lower Nm.data.toList, (vl r).1) else none, (vl r).2.2) := by
            unfold pm
            rw [HDW.out, hdr, HNMD.out]
            simp only []
            rw [if_neg Y9]
            rfl
           obtain ⟨a4, ha4⟩ : ∃ a, a = e1 + 1 := ⟨_, rfl⟩
           have ha4i : (e1 : Int) + 1 = (a4 : Int) := by omega
           obtain ⟨X2, hX2⟩ : ∃ X, X = S.extract a4 S.size := ⟨_, rfl⟩
           have hX2d : X2.data.toList = r := by rw [hX2, ext_drop, hr, ha4]
           have hX2s : X2.size ≤ 1073741824 := by rw [hX2, ByteArray.size_extract]; omega
           obtain ⟨n3, hn3⟩ : ∃ n, n = (iJ r).2 := ⟨_, rfl⟩
           obtain ⟨R, hV⟩ : ∃ R : ByteArray, R = strOf (iJ r).1 := ⟨_, rfl⟩
           have HQ : Hid (∀ w, Calls Tryz.prog 86 #[.string X2] w fun e w' => e = .returned (.tuple #[.string R, .int .i64 (n3 : Int)]) ∧ Below w.heap.size w w') := by
            show ∀ w, _
            rw [hV, hn3, ← hX2d]
            exact fun w => TokR.VQ X2 w hX2s
           have hrl : r.length + a4 = S.size := by rw [hr, List.length_drop, HSL.out]; omega
           have hn3l : n3 ≤ r.length := by rw [hn3]; exact Sl r
           obtain ⟨a5, ha5⟩ : ∃ a, a = a4 + n3 := ⟨_, rfl⟩
           have ha5i : (a4 : Int) + (n3 : Int) = (a5 : Int) := by omega
           have ha5l : a5 ≤ S.size := by omega
           obtain ⟨X3, hX3⟩ : ∃ X, X = S.extract a5 S.size := ⟨_, rfl⟩
           have hX3d : X3.data.toList = r.drop n3 := by rw [hX3, ext_drop, hr, List.drop_drop, ha5, ha4]
           have hX3s : X3.size ≤ 1073741824 := by rw [hX3, ByteArray.size_extract]; omega
           obtain ⟨n4, hn4⟩ : ∃ n, n = (tw [59] (r.drop n3)).length := ⟨_, rfl⟩
           have HF4 : Hid (∀ w, Calls Tryz.prog 36 #[.string X3, .string ⟨#[59]⟩] w fun e w' => e = .returned (.int .i64 (n4 : Int)) ∧ w = w') := by
            show ∀ w, _
            rw [hn4, ← hX3d]
            exact fun w => uK X3 ⟨#[59]⟩ w hX3s (by decide)
           have hn4l : n4 ≤ r.length - n3 := by rw [hn4, ← List.length_drop]; exact nJ _ _
           obtain ⟨e6, he6⟩ : ∃ e, e = a5 + n4 := ⟨_, rfl⟩
           have he6i : (a5 : Int) + (n4 : Int) = (e6 : Int) := by omega
           have he6l : e6 ≤ S.size := by omega
           have hdd : dw [59] (r.drop n3) = S.data.toList.drop e6 := by
            rw [qc, ← hn4, List.drop_drop, hr, List.drop_drop, he6, ha5, ha4]
            congr 1
            omega
           have iG := hid hX2
           have HX3' := hid hX3
           have hb4 : (a4 : Int) ≤ (S.size : Int) := by omega
           have hb5 : (a5 : Int) ≤ (S.size : Int) := by omega
           have hb6 : (e6 : Int) ≤ (S.size : Int) := by omega
           have hb56 : (a5 : Int) ≤ (e6 : Int) := by omega
           have hate6 : at_ + 1 ≤ e6 := by omega
           have hq3 : ((NL.data.toList).length = Nm.data.toList.length) := by rw [HNL.out]; show (lower _).length = _; simp [lower]
           obtain ⟨gv, hgv⟩ : ∃ g, g = zU NL.data.toList acc := ⟨_, rfl⟩
           have hNLd : NL.data.toList = lower Nm.data.toList := by rw [HNL.out]; rfl
           have hst : cZ NL.data.toList = cZ Nm.data.toList := by rw [hNLd, sD]
           have hHASN := hgv
           have HVL := hid hV
           have acH : 0 < n3 → vl r = ((iJ r).1, true, S.data.toList.drop e6) := fun h => by
            unfold vl
            rw [if_pos (by rw [← hn3]; exact h), ← hn3, hdd]
           have hval2 : n3 = 0 → vl r = (tr (tw [59] r), decide (tr (tw [59] r) ≠ []), S.data.toList.drop e6) := fun h => by
            unfold vl
            rw [if_neg (by rw [← hn3]; omega), ← hdd, h, List.drop_zero]
           have hX5 : n3 = 0 → (S.extract a5 e6).data.toList = tw [59] r := fun h => by
            rw [ext_mid, wU [59] r]
            rw [h, List.drop_zero] at hn4
            rw [← hn4, ha5, ha4, h, Nat.add_zero, ← hr]
            congr 1
            omega
           have Uc := hid hpm
           have HV1 := hid acH
           have Ci := hid hval2
           have F5 := hid hX5
           have HST := hid hst
           have HGV := hid hgv
           have HNLD := hid hNLd
           have hNLs : NL.size ≤ 1048576 := by
            rw [HNL.out, ah]
            have h1 : Nm.data.toList.length = Nm.size := Array.length_toList
            have h2 : Nm.size ≤ 1048576 := by rw [HNM.out, ByteArray.size_extract]; omega
            simp [lower]
            omega
           have hVs : R.size ≤ 1048576 := by
            rw [hV, ah]
            have h1 := BR r
            by_cases h : 0 < n3
            ·rw [acH h] at h1
             have h2 : (iJ r).1.length ≤ r.length := h1
             omega
            ·have : (iJ r).1 = [] := by
              cases hrr : r with
              | nil => rfl
              | cons c u =>
               by_cases Aa : c = 34
               ·rw [hn3, hrr, iJ, if_pos Aa] at h
                exact absurd (Nat.succ_pos _) h
               ·rw [iJ, if_neg Aa]
             rw [this]
             simp
           have HVS := hid hVs
           clear hed hyd hdr Y9 hpm hX2 hX2d hX2s hV hn3l hrl hX3 hX3d hX3s hn4 hn4l hdd hq3 hgv hHASN hNLd hst acH hval2 hX5 hee ha4 ha5 he6 hn3 hVs hr
           go_wp2_with fail
           rw [← iG.out]
           refine (HQ.out _).mono ?_
           rintro e w4 ⟨rfl, Y0⟩
           have HX4' := hid (jd.out.below Y0)
           have HM4' := hid (Wx.out.below Y0)
           have HB4' := hid (bel HB3.out Y0)
           have HO4' := hid (aI ig.out Y0)
           have HBS4 : Hid (Bs ≤ w4.heap.size) := Nat.le_trans HBS3.out Y0.size
           clear Y0
           by_cases h30 : 0 < n3
           focus
            have h30i : ((n3 : Int) == 0) = false := by rw [beq_eq_false_iff_ne]; omega
            have h30g : (0 : Int) < (n3 : Int) := by omega
            have HVE : Hid (vl r = (R.data.toList, true, S.data.toList.drop e6)) := by show _ = _; rw [HV1.out h30, HVL.out]; rfl
            have hVs := HVS.out
            clear h30
            go_wp2_with fail
            rw [← HX3'.out]
            refine (HF4.out _).mono ?_
            rintro e w5 ⟨rfl, hw5⟩
            subst hw5
            obtain ⟨A, cp, rfl, hc1, hc2, yJ⟩ := zC HO4'.out
            have hgt := Jh A acc.length cp (mF acc) NL _ yJ hc1 (by omega)
            have HGT := hid hgt
            obtain ⟨gx, gb, hgx, hgb⟩ : ∃ (gx : ByteArray) (gb : Bool), Yb (Dw (mF acc) NL.data.toList) = .tuple #[.string gx, .bool gb] ∧ gb = zU NL.data.toList acc := by
             rw [← Lp]
             cases Dw (mF acc) NL.data.toList with
             | none => exact ⟨_, _, rfl, rfl⟩
             | some z => exact ⟨_, _, rfl, rfl⟩
            have HGX := hid hgx
            clear hgt yJ hgx hc1 hc2
            obtain ⟨l0, l1, l2⟩ := HM4'.out.facts
            go_wp2_with fail
            clear l0 l1 l2
            refine (HGT.out).mono ?_
            rintro e w8 ⟨rfl, hb8⟩
            rw [HGX.out]
            have PW := hid (HX4'.out.below hb8)
            have HM8 := hid (HM4'.out.below hb8)
            have PO := hid (bel HB4'.out hb8)
            have HO8 := hid (aI HO4'.out hb8)
            have JZ : Hid (Bs ≤ w8.heap.size) := Nat.le_trans HBS4.out hb8.size
            clear hb8
           rotate_left
           focus
            have h30z : n3 = 0 := by omega
            have h30i : ((n3 : Int) == 0) = true := by rw [beq_iff_eq]; omega
            have h30g : ¬ (0 : Int) < (n3 : Int) := by omega
            obtain ⟨X5, hX5⟩ : ∃ X, X = S.extract a5 e6 := ⟨_, rfl⟩
            have hX5d : X5.data.toList = tw [59] r := by rw [hX5]; exact F5.out h30z
            have hX5s : X5.size ≤ 1048576 := by rw [hX5, ByteArray.size_extract]; omega
            have hX5l : X5.data.toList.length = X5.size := Array.length_toList
            obtain ⟨R, hR⟩ : ∃ R : ByteArray, R = strOf (tr X5.data.toList) := ⟨_, rfl⟩
            have HRR : Hid (∀ w, Calls Tryz.prog 40 #[.string X5, .string ⟨#[9, 10, 13, 32]⟩] w fun e w' => e = .returned (.string R) ∧ w = w') := by
             show ∀ w, _
             rw [hR]
             exact fun w => CG.zI X5 w (by omega)
            have UZ : R.data.toList = tr (tw [59] r) := by rw [hR, ← hX5d]; rfl
            have hRs : R.size ≤ 1048576 := by rw [hR, ah]; have := E8 X5.data.toList; omega
            have hv := Ci.out h30z
            rw [← UZ] at hv
            have HX5E := hid hX5
            clear h30 h30z hX5 hX5d hX5s hX5l hR UZ
            go_wp2_with fail
            rw [← HX3'.out]
            refine (HF4.out _).mono ?_
            rintro e w5 ⟨rfl, hw5⟩
            subst hw5
            go_wp2_with fail
            rw [← HX5E.out]
            refine (HRR.out _).mono ?_
            rintro e w5 ⟨rfl, hw5⟩
            subst hw5
            obtain ⟨A, cp, rfl, hc1, hc2, yJ⟩ := zC HO4'.out
            have hgt := Jh A acc.length cp (mF acc) NL _ yJ hc1 (by omega)
            have HGT := hid hgt
            obtain ⟨gx, gb, hgx, hgb⟩ : ∃ (gx : ByteArray) (gb : Bool), Yb (Dw (mF acc) NL.data.toList) = .tuple #[.string gx, .bool gb] ∧ gb = zU NL.data.toList acc := by
             rw [← Lp]
             cases Dw (mF acc) NL.data.toList with
             | none => exact ⟨_, _, rfl, rfl⟩
             | some z => exact ⟨_, _, rfl, rfl⟩
            have HGX := hid hgx
            clear hgt yJ hgx hc1 hc2
            obtain ⟨l0, l1, l2⟩ := HM4'.out.facts
            go_wp2_with fail
            clear l0 l1 l2
            refine (HGT.out).mono ?_
            rintro e w8 ⟨rfl, hb8⟩
            rw [HGX.out]
            have PW := hid (HX4'.out.below hb8)
            have HM8 := hid (HM4'.out.below hb8)
            have PO := hid (bel HB4'.out hb8)
            have HO8 := hid (aI HO4'.out hb8)
            have JZ : Hid (Bs ≤ w8.heap.size) := Nat.le_trans HBS4.out hb8.size
            clear hb8
            by_cases hre : R.data.toList = []
            ·have Qp : Hid (jF (S.data.toList.drop e6) acc = PS) := by
              show _ = _
              rw [← je.out, Uc.out, hv, decide_eq_false (by simp [hre])]
              rfl
             have hq1 := qY hre
             have hq2 : (R.toList == []) = true := by rw [hq1]; rfl
             clear hre hv hq1 hgb
             go_wp2
             go_roundw
             case rel => exact ⟨e6, acc, _, by omega, by omega, rfl, HM8.out, PW.out, HO8.out, PO.out, JZ.out, Qp.out⟩
             case measure => simp [intOf]; omega
            have HVE : Hid (vl r = (R.data.toList, true, S.data.toList.drop e6)) := by show _ = _; rw [hv, decide_eq_true hre]
            have hq1 : (R.toList == []) = false := by rw [Lib.toList_data, beq_eq_false_iff_ne]; exact hre
            have hq2 : R.toList.isEmpty = false := by rw [Lib.toList_data]; simpa using hre
            have hq3 : ¬ R.toList = [] := by rw [Lib.toList_data]; exact hre
            clear hre hv
           rotate_left
           all_goals
            cases yF : zU NL.data.toList acc with
            | true =>
             have Qp : Hid (jF (S.data.toList.drop e6) acc = PS) := by
              show _ = _
              rw [← je.out, Uc.out, HVE.out]
              simp only []
              split
              ·unfold xA
               simp only []
               rw [← HNLD.out, yF]
               rfl
              ·rfl
             obtain rfl : gb = true := hgb.trans yF
             clear hgb
             clear yF
             go_wp2
             go_roundw
             case rel => exact ⟨e6, acc, _, by omega, by omega, rfl, HM8.out, PW.out, HO8.out, PO.out, JZ.out, Qp.out⟩
             case measure => simp [intOf]; omega
            | false =>
             obtain rfl : gb = false := hgb.trans yF
             clear hgb
             have hit := fun w => vN.Jl NL w (by omega)
             cases hti : cZ NL.data.toList with
             | false =>
              have Qp : Hid (jF (S.data.toList.drop e6) acc = PS) := by
               show _ = _
               rw [← je.out, Uc.out, HVE.out, ← HST.out, hti]
               rfl
              rw [hti] at hit
              have HIT := hid hit
              clear yF hit hti
              go_wp2_with fail
              refine (HIT.out _).mono ?_
              rintro e w9 ⟨rfl, Kv⟩
              subst Kv
              go_wp2
              go_roundw
              case rel => exact ⟨e6, acc, _, by omega, by omega, rfl, HM8.out, PW.out, HO8.out, PO.out, JZ.out, Qp.out⟩
              case measure => simp [intOf]; omega
             | true =>
              have Rj := fun w => TokU.DY R w (by omega)
              rw [hti] at hit
              have HIT := hid hit
              cases hqi : vO.quotable R.data.toList with
              | false =>
               have Qp : Hid (jF (S.data.toList.drop e6) acc = PS) := by
                show _ = _
                rw [← je.out, Uc.out, HVE.out]
                simp only []
                rw [← HST.out, hti, hqi]
                rfl
               rw [hqi] at Rj
               have WA := hid Rj
               clear yF hit hti Rj hqi
               go_wp2_with fail
               refine (HIT.out _).mono ?_
               rintro e w9 ⟨rfl, Kv⟩
               subst Kv
               go_wp2_with fail
               refine (WA.out _).mono ?_
               rintro e w9 ⟨rfl, nP⟩
               have HX9 := hid (PW.out.below nP)
               have HM9 := hid (HM8.out.below nP)
               have HB9 := hid (bel PO.out nP)
               have HO9 := hid (aI HO8.out nP)
               have Na : Hid (Bs ≤ w9.heap.size) := Nat.le_trans JZ.out nP.size
               clear nP
               go_wp2
               go_roundw
               case rel => exact ⟨e6, acc, _, by omega, by omega, rfl, HM9.out, HX9.out, HO9.out, HB9.out, Na.out, Qp.out⟩
               case measure => simp [intOf]; omega
              | true =>
               have Qp : Hid (jF (S.data.toList.drop e6) (acc ++ [(NL.data.toList, R.data.toList)]) = PS) := by
                show _ = _
                rw [← je.out, Uc.out, HVE.out]
                simp only []
                rw [← HST.out, hti, hqi, if_pos (show (true && true && true) = true from rfl)]
                unfold xA
                simp only []
                rw [← HNLD.out, yF]
                rfl
               rw [hqi] at Rj
               have WA := hid Rj
               clear yF hit hti Rj hqi
               go_wp2_with fail
               refine (HIT.out _).mono ?_
               rintro e w9 ⟨rfl, Kv⟩
               subst Kv
               go_wp2_with fail
               refine (WA.out _).mono ?_
               rintro e w9 ⟨rfl, nP⟩
               have HX9 := hid (PW.out.below nP)
               have HM9 := hid (HM8.out.below nP)
               have HB9 := hid (bel PO.out nP)
               have HO9 := hid (aI HO8.out nP)
               have Na : Hid (Bs ≤ w9.heap.size) := Nat.le_trans JZ.out nP.size
               clear nP
               obtain ⟨l0, l1, l2⟩ := HM9.out.facts
               go_wp2_with (at_builtin; refine zk 2 rfl _ _ 27 rfl Bs 69 i0 _ 32 Tryz.underlying27 hi hz0 hz1 hz2 rfl (by decide) (.slice A acc.length cp) acc.length (cu acc) rfl HO9.out (Below.refl _ _) Na.out [.string NL, .string R] 1 rfl rfl (Px _ _) (by unfold maxLen; omega) (by omega) ?_)
               intro v' w10 Bd qR acu
               obtain ⟨A', n', cap', rfl⟩ : ∃ A' n' cap', v' = .slice A' n' cap' := by
                rcases Bd.2 with ⟨hv, _⟩ | ⟨g, cap, cur, hv, _⟩
                ·exact ⟨_, _, _, hv⟩
                ·exact ⟨_, _, _, hv⟩
               clear l0 l1 l2
               have HX10 : Hid (B3 29 w10 w.heap.size (.string ⟨#[]⟩) (.string ⟨#[]⟩) (.slice none 0 0)) := (qR.block _ (by have := HWB.out; have := HGB.out; have := HGE.out; have := HGN.out; omega)).trans HX9.out
               have TV : Hid (B3 29 w10 g5 (.string LK) (.string LU) (.slice A acc.length cp)) := (qR.block _ HGB.out).trans HM9.out
               have HB10 : Hid (Below w.heap.size w w10) := HB9.out.trans (qR.mono HWB.out)
               have aau : Hid (Bs ≤ w10.heap.size) := Nat.le_trans Na.out qR.size
               have aaC := hid Bd
               clear Bd qR acu
               obtain ⟨f0, f1, f2⟩ := TV.out.thaw
               obtain ⟨k0, k1, k2⟩ := TV.out.facts
               go_wp2
               go_roundw
               case rel => exact ⟨e6, acc ++ [(NL.data.toList, R.data.toList)], _, by omega, by simp; omega, rfl, WJ TV.out _, Hg HX10.out HGN.out, by
                 show World.ownsRow _ _ _ _ _ _ _
                 rw [yN, List.length_append, ay, ay]
                 refine sK aaC.out ?_
                 intro e
                 have := (aaC.out.lt _ e).1
                 have := HGB.out
                 omega, HB10.out.setCell HGE.out _, by show _ ≤ _; simpa using aau.out, Qp.out⟩
               case measure => simp [intOf]; omega
       ·obtain rfl : j = S.size := by omega
        have hE : tl t = [] := by rw [HTL.out, List.drop_eq_nil_of_le (by rw [HSL.out]; omega)]; rfl
        have HPE : Hid (acc = PS) := by
         show _ = _
         rw [← je.out]
         unfold pm
         rw [hE]
         rfl
        have HFE : Hid (∀ w, Calls Tryz.prog 36 #[.string ByteArray.empty, .string ⟨#[59, 61]⟩] w fun e w' => e = .returned (.int .i64 0) ∧ w = w') := fun w => uK ByteArray.empty ⟨#[59, 61]⟩ w (by decide) (by decide)
        have TU : Hid (∀ w, Calls Tryz.prog 39 #[.string ByteArray.empty] w fun e w' => e = .returned (.string ⟨#[]⟩) ∧ Below w.heap.size w w') := fun w => AP.gq ByteArray.empty w (by decide)
        clear hE
        go_wp2_with fail
        refine (HFE.out _).mono ?_
        rintro e w2 ⟨rfl, hw2⟩
        subst hw2
        go_wp2_with fail
        refine (TU.out _).mono ?_
        rintro e w7 ⟨rfl, hb7⟩
        have xR := hid (HX.out.below hb7)
        have HM7 := hid (HM.out.below hb7)
        have rD := hid (bel HB.out hb7)
        have PU := hid (aI kW.out hb7)
        clear hb7
        obtain ⟨f0, f1, f2⟩ := xR.out.thaw
        obtain ⟨k0, k1, k2⟩ := xR.out.facts
        obtain ⟨l0, l1, l2⟩ := HM7.out.facts
        obtain ⟨A, cp, rfl, hc1, hc2, yJ⟩ := zC PU.out
        have Ud := hid yJ
        clear yJ
        go_wp2
        refine bodyPost_ret (w := zW _ w.heap.size _ _ _) (zJ (xR.out.put _ _ _) true _ rfl rfl) rfl ⟨?_, iZ rD.out (Nat.le_refl _) _ _ _⟩
        rw [HO.out]
        refine ⟨A, cp, ?_, ?_, hc2, ?_⟩
        ·show _ = Ending.returned (.tuple #[.agg #[.string (strOf (lower K.data.toList)), .string (strOf (lower U.data.toList)), .slice A PS.length cp], .bool true])
         rw [← Yg.out.1, ← Yg.out.2, ← HPE.out]
        ·show PS.length ≤ cp
         rw [← HPE.out]
         exact hc1
        ·show kV _ A PS.length (mF PS)
         rw [← HPE.out]
         refine Gs Ud.out ?_ _ _ _
         rintro b off rfl
         intro e
         have := (PU.out.lt b rfl).1
         have := HWB.out
         have := HGB.out
         have := HGE.out
         have := HGN.out
         omega
     ·obtain rfl : at_ = S.size := by omega
      have HPE : Hid (acc = PS) := by show _ = _; rw [← HW.out, List.drop_eq_nil_of_le (by rw [HSL.out]; omega), Jd]
      have xR := HX
      have HM7 := HM
      have rD := HB
      have PU := kW
      obtain ⟨f0, f1, f2⟩ := xR.out.thaw
      obtain ⟨k0, k1, k2⟩ := xR.out.facts
      obtain ⟨l0, l1, l2⟩ := HM7.out.facts
      obtain ⟨A, cp, rfl, hc1, hc2, yJ⟩ := zC PU.out
      have Ud := hid yJ
      clear yJ
      go_wp2
      refine bodyPost_ret (w := zW _ w.heap.size _ _ _) (zJ (xR.out.put _ _ _) true _ rfl rfl) rfl ⟨?_, iZ rD.out (Nat.le_refl _) _ _ _⟩
      rw [HO.out]
      refine ⟨A, cp, ?_, ?_, hc2, ?_⟩
      ·show _ = Ending.returned (.tuple #[.agg #[.string (strOf (lower K.data.toList)), .string (strOf (lower U.data.toList)), .slice A PS.length cp], .bool true])
       rw [← Yg.out.1, ← Yg.out.2, ← HPE.out]
      ·show PS.length ≤ cp
       rw [← HPE.out]
       exact hc1
      ·show kV _ A PS.length (mF PS)
       rw [← HPE.out]
       refine Gs Ud.out ?_ _ _ _
       rintro b off rfl
       intro e
       have := (PU.out.lt b rfl).1
       have := HWB.out
       have := HGB.out
       have := HGE.out
       have := HGN.out
       omega
end Go.Proofs.YtcfgioklgmlclaaGreatDoor.Yk
