/- Types: a type, by the code. -/
import Derived.Test.YtlbgcibdpeaomaaDoorMimC
import Derived.Test.YtlbgcibdpeaomaaDoorMim0
namespace Go.Proofs.YtlbgcibdpeaomaaDoor.MimD
open Go.RowKit Go.Proofs.YtlbgcibdpeaomaaDoor.Base Go.Proofs.YtlbgcibdpeaomaaDoor.Base2 Go.Proofs.YtlbgcibdpeaomaaDoor.UtfL Go.Proofs.YtlbgcibdpeaomaaDoor.TokP Go.Proofs.YtlbgcibdpeaomaaDoor.MimP Go.Proofs.YtlbgcibdpeaomaaDoor.MimA Go.Proofs.YtlbgcibdpeaomaaDoor.MimB Go.Proofs.YtlbgcibdpeaomaaDoor.MimC Go.Proofs.YtlbgcibdpeaomaaDoor.Mim0

def psS (l : List (List UInt8 × List UInt8)) : List (ByteArray × ByteArray) := l.map fun p => (strOf p.1, strOf p.2)
theorem psS_len (l : List (List UInt8 × List UInt8)) : (psS l).length = l.length := by simp [psS]
theorem pcells_len (l : List (List UInt8 × List UInt8)) : (pcells l).length = l.length * 2 := by
  induction l with
  | nil => rfl
  | cons p l ih =>
    show ([_, _] ++ pcells l).length = _
    rw [List.length_append, ih]
    simp
    omega
theorem pcells_at (l : List (List UInt8 × List UInt8)) : ∀ (j : Nat) (h : j < l.length), (pcells l)[j * 2]? = some (.string (strOf l[j].1)) ∧ (pcells l)[j * 2 + 1]? = some (.string (strOf l[j].2)) := by
  induction l with
  | nil => intro j h; simp at h
  | cons p l ih =>
    intro j h
    have e : pcells (p :: l) = .string (strOf p.1) :: .string (strOf p.2) :: pcells l := rfl
    rw [e]
    cases j with
    | zero => exact ⟨rfl, rfl⟩
    | succ j =>
      have := ih j (by simpa using h)
      rw [show (j + 1) * 2 = j * 2 + 1 + 1 by omega]
      simpa using this
theorem own_prm {w : World} {B : Nat} {v : Value} {l : List (List UInt8 × List UInt8)} (h : w.ownsRow B 40 2 v l.length (pcells l)) : ∃ A c, v = .slice A l.length c ∧ l.length ≤ c ∧ c ≤ maxLen ∧ Prm w A l.length (psS l) := by
  rcases h.2 with ⟨rfl, h0⟩ | ⟨g, cap, cur, rfl, _, hh, hnc, hcm, _, htake⟩
  · have : l = [] := List.eq_nil_of_length_eq_zero h0
    subst this
    exact ⟨none, 0, rfl, Nat.le_refl _, Nat.zero_le _, rfl, fun j hj => by simp [psS] at hj⟩
  · refine ⟨some ⟨g, 0, none⟩, cap, rfl, hnc, hcm, by rw [psS_len], fun j hj => ?_⟩
    rw [psS_len] at hj
    obtain ⟨h0, h1⟩ := pcells_at l j hj
    refine ⟨g, 0, rfl, (Array.getElem?_eq_some_iff.1 hh).1, ?_, ?_⟩
    · rw [h.cellAt _ (by omega), Nat.zero_add]
      simpa [psS] using h0
    · rw [h.cellAt _ (by omega), Nat.zero_add]
      simpa [psS] using h1
/-- A block of three cells. -/
def B3 (T : TypeId) (w : World) (g : Nat) (a b c : Value) : Prop := w.heap[g]? = some (.cells #[a, b, c] T (0, 0))
section
variable {T : TypeId} {w w' : World} {g : Nat} {a b c : Value}
theorem B3.lt (h : B3 T w g a b c) : g < w.heap.size := (Array.getElem?_eq_some_iff.1 h).1
theorem B3.facts (h : B3 T w g a b c) : w.cell? ⟨g, 0, none⟩ = some a ∧ w.cell? ⟨g, 1, none⟩ = some b ∧ w.cell? ⟨g, 2, none⟩ = some c :=
  ⟨cell_of_row w g 0 _ _ _ h, cell_of_row w g 1 _ _ _ h, cell_of_row w g 2 _ _ _ h⟩
theorem B3.thaw (h : B3 T w g a b c) : w.frozen? ⟨g, 0, none⟩ = false ∧ w.frozen? ⟨g, 1, none⟩ = false ∧ w.frozen? ⟨g, 2, none⟩ = false :=
  ⟨frozen_of_row w g 0 _ _ h, frozen_of_row w g 1 _ _ h, frozen_of_row w g 2 _ _ h⟩
theorem B3.below (h : B3 T w g a b c) (hb : Below w.heap.size w w') : B3 T w' g a b c := (hb.block g h.lt).trans h
def put3 (w : World) (g : Nat) (a b c : Value) : World := ((w.setCell ⟨g, 0, none⟩ a).setCell ⟨g, 1, none⟩ b).setCell ⟨g, 2, none⟩ c
theorem B3.put (h : B3 T w g a b c) (x y z : Value) : B3 T (put3 w g x y z) g x y z :=
  heap_setCell_same _ g 2 _ _ z (heap_setCell_same _ g 1 _ _ y (heap_setCell_same w g 0 _ _ x h))
theorem below_put3 {w0 : World} {B : Nat} (h : Below B w0 w) (hg : B ≤ g) (x y z : Value) : Below B w0 (put3 w g x y z) := ((h.setCell hg _).setCell hg _).setCell hg _
end
theorem B3.load {w : World} {g : Nat} {a b c : Value} (h : B3 25 w g a b c) : (loadVar 25 ⟨g, 0, none⟩).run Tryd.prog w = .ok (.agg #[a, b, c]) w :=
  run_loadVar_row w g _ _ #[a, b, c] (0, 0) _ h Tryd.underlying25 rfl (by
    rw [show (Tryd.prog.info? 25).map (·.size) = some 3 by kernel_rfl]
    rfl)
theorem prm_put {w : World} {g n : Nat} {A : Option Addr} {l : List (ByteArray × ByteArray)} (h : Prm w A n l) (hA : ∀ b off, A = some ⟨b, off, none⟩ → b ≠ g) (x y z : Value) : Prm (put3 w g x y z) A n l :=
  ⟨h.1, fun j hj => by
    obtain ⟨b, off, rfl, hlt, h1, h2⟩ := h.2 j hj
    have hne := hA b off rfl
    have hk : ∀ o, (put3 w g x y z).cell? ⟨b, o, none⟩ = w.cell? ⟨b, o, none⟩ := fun o => by
      unfold put3
      rw [World.cell?_setCell_other _ _ _ _ (by intro e; injection e with e; exact hne e.symm), World.cell?_setCell_other _ _ _ _ (by intro e; injection e with e; exact hne e.symm), World.cell?_setCell_other _ _ _ _ (by intro e; injection e with e; exact hne e.symm)]
    exact ⟨b, off, rfl, by simpa [put3] using hlt, by rw [hk]; exact h1, by rw [hk]; exact h2⟩⟩
theorem res_mt {w : World} {g : Nat} {a b c : Value} (h : B3 25 w g a b c) (ok : Bool) (tmps : Array Value) (h2 : tmps.getD 2 undef = .pointer (some ⟨g, 0, none⟩)) (h3 : tmps.getD 3 undef = .bool ok) :
    (results Tryd.f10 tmps).run Tryd.prog w = .ok (.tuple #[.agg #[a, b, c], .bool ok]) w := by
  have hp' : tmps[2]?.getD undef = .pointer (some ⟨g, 0, none⟩) := by simpa using h2
  have hq' : tmps[3]?.getD undef = .bool ok := by simpa using h3
  simp [results, Tryd.results10, hp', hq', asAddr, h.load]
def mt0 : MT := ⟨[], [], []⟩
/-- What 'Parse' answers. -/
def MtR (o : Option MT) (e : Ending) (w' : World) : Prop := ∃ A c, e = .returned (.tuple #[.agg #[.string (strOf (o.getD mt0).ty), .string (strOf (o.getD mt0).sub), .slice A (o.getD mt0).ps.length c], .bool o.isSome]) ∧ (o.getD mt0).ps.length ≤ c ∧ c ≤ maxLen ∧ Prm w' A (o.getD mt0).ps.length (psS (o.getD mt0).ps)
set_option linter.unusedSimpArgs false in
set_option maxRecDepth 100000 in
set_option maxHeartbeats 8000000 in
theorem parse_any (s : ByteArray) (w : World) (hs : s.size ≤ 1048576) : Calls Tryd.prog 10 #[.string s] w fun e w' => MtR (mime s.data.toList) e w' ∧ Below w.heap.size w w' := by
  have hl : s.data.toList.length = s.size := Array.length_toList
  obtain ⟨o, ho⟩ : ∃ o, o = mime s.data.toList := ⟨_, rfl⟩
  rw [← ho]
  obtain ⟨T, hT⟩ : ∃ T : ByteArray, T = strOf (trm s.data.toList) := ⟨_, rfl⟩
  have hTd : T.data.toList = trm s.data.toList := by rw [hT]; rfl
  have hTs : T.size ≤ 1048576 := by rw [hT, size_strOf]; have := trm_len s.data.toList; omega
  have htl : T.data.toList.length = T.size := Array.length_toList
  have HTR : Hid (∀ w, Calls Tryd.prog 23 #[.string s] w fun e w' => e = .returned (.string T) ∧ Below w.heap.size w w') := by
    show ∀ w, _
    rw [hT]
    exact fun w => TokT.trim_any s w (by omega)
  have HS1 := hid (fun w => split47 T w (by omega))
  obtain ⟨K, hK⟩ : ∃ K, K = strOf (tw [47] T.data.toList) := ⟨_, rfl⟩
  obtain ⟨B, hB⟩ : ∃ B, B = strOf (dw [47] T.data.toList) := ⟨_, rfl⟩
  rw [← hK, ← hB] at HS1
  have hKd : K.data.toList = tw [47] (trm s.data.toList) := by rw [hK, ← hTd]; rfl
  have hBd : B.data.toList = dw [47] (trm s.data.toList) := by rw [hB, ← hTd]; rfl
  have hKs : K.size ≤ 1048576 := by rw [hK, size_strOf]; have := tw_len [47] T.data.toList; omega
  have hBs : B.size ≤ 1048576 := by rw [hB, size_strOf]; have := dw_len [47] T.data.toList; omega
  have hbl : B.data.toList.length = B.size := Array.length_toList
  have hnone : ∀ {w2 w3 : World} (e : Ending), Below w.heap.size w w3 → o = none → e = .returned (.tuple #[.agg #[.string ⟨#[]⟩, .string ⟨#[]⟩, .slice none 0 0], .bool false]) → MtR o e w3 := by
    intro w2 w3 e _ h1 h2
    rw [h1, h2]
    exact ⟨none, 0, rfl, Nat.le_refl _, Nat.zero_le _, rfl, fun j hj => by simp [psS, mt0] at hj⟩
  have HNONE := hid (fun (e : Ending) (w3 : World) (h1 : o = none) (h2 : e = .returned (.tuple #[.agg #[.string ⟨#[]⟩, .string ⟨#[]⟩, .slice none 0 0], .bool false])) => (show MtR o e w3 by
    rw [h1, h2]
    exact ⟨none, 0, rfl, Nat.le_refl _, Nat.zero_le _, rfl, fun j hj => by simp [psS, mt0] at hj⟩))
  clear hnone
  cases hb : B.data.toList with
  | nil =>
    have HO : Hid (o = none) := by show _ = _; rw [ho]; unfold mime; rw [← hBd, hb]
    have hq1 := str_eq_nil hb
    have hq2 : (B.toList == []) = true := by rw [hq1]; rfl
    clear ho hT hTd hTs htl hK hB hKd hBd hKs hBs hbl hb hq1 hl
    go_enter Tryd.func10, Tryd.ntmps10
    go_upto_region 1 with (fail)
    generalize hw1 : w.alloc _ = w1
    have HB1 : Hid (Below w.heap.size w w1) := by show Below _ _ _; rw [← hw1]; exact (Below.refl _ _).alloc (Nat.le_refl _) _
    have HX1 : Hid (B3 25 w1 w.heap.size (.string ⟨#[]⟩) (.string ⟨#[]⟩) (.slice none 0 0)) := by show B3 _ _ _ _ _ _; rw [← hw1]; exact heap_alloc_new _ _
    clear hw1
    go_wp2_with fail
    refine (HTR.out _).mono ?_
    rintro e w2 ⟨rfl, hb2⟩
    have HX2 := hid (HX1.out.below hb2)
    have HB2 := hid (bel HB1.out hb2)
    clear hb2
    go_wp2_with fail
    refine (HS1.out _).mono ?_
    rintro e w3 ⟨rfl, hb3⟩
    have HX3 := hid (HX2.out.below hb3)
    have HB3 := hid (bel HB2.out hb3)
    clear hb3
    obtain ⟨f0, f1, f2⟩ := HX3.out.thaw
    obtain ⟨k0, k1, k2⟩ := HX3.out.facts
    go_wp2
    refine bodyPost_ret (w := put3 _ w.heap.size _ _ _) (res_mt (HX3.out.put _ _ _) false _ rfl rfl) rfl ⟨HNONE.out _ _ HO.out rfl, below_put3 HB3.out (Nat.le_refl _) _ _ _⟩
  | cons c r =>
    have hq1 : (B.toList == []) = false := by rw [Lib.toList_data, hb]; rfl
    have hq2 : B.toList.isEmpty = false := by rw [Lib.toList_data, hb]; rfl
    have hq3 : ¬ B.toList = [] := by rw [Lib.toList_data, hb]; simp
    have hB1 : 1 ≤ B.size := by rw [← hbl, hb]; simp
    have h1i : (1 : Int) ≤ (B.size : Int) := by omega
    obtain ⟨Y, hY⟩ : ∃ Y, Y = B.extract 1 B.size := ⟨_, rfl⟩
    have hYd : Y.data.toList = r := by rw [hY, ext_drop, hb]; rfl
    have hYs : Y.size ≤ 1048576 := by rw [hY, ByteArray.size_extract]; omega
    have hyl : Y.data.toList.length = Y.size := Array.length_toList
    have HS2 := hid (fun w => split59 Y w (by omega))
    obtain ⟨S, hS⟩ : ∃ S, S = strOf (tw [59] Y.data.toList) := ⟨_, rfl⟩
    obtain ⟨R, hR⟩ : ∃ R, R = strOf (dw [59] Y.data.toList) := ⟨_, rfl⟩
    rw [← hS, ← hR] at HS2
    have hSs : S.size ≤ 1048576 := by rw [hS, size_strOf]; have := tw_len [59] Y.data.toList; omega
    have hRs : R.size ≤ 1048576 := by rw [hR, size_strOf]; have := dw_len [59] Y.data.toList; omega
    have hSd : S.data.toList = tw [59] r := by rw [hS, hYd]; rfl
    have hRd : R.data.toList = dw [59] r := by rw [hR, hYd]; rfl
    obtain ⟨U, hU⟩ : ∃ U : ByteArray, U = strOf (tr S.data.toList) := ⟨_, rfl⟩
    have hUd : U.data.toList = tr (tw [59] r) := by rw [hU, ← hSd]; rfl
    have hsl : S.data.toList.length = S.size := Array.length_toList
    have hUs : U.size ≤ 1048576 := by rw [hU, size_strOf]; have := tr_len S.data.toList; omega
    have HRT : Hid (∀ w, Calls Tryd.prog 24 #[.string S] w fun e w' => e = .returned (.string U) ∧ Below w.heap.size w w') := by
      show ∀ w, _
      rw [hU]
      exact fun w => TokT.right_any S w (by omega)
    have hk := fun w => TokA.is_any K w (by omega)
    have hu := fun w => TokA.is_any U w (by omega)
    have hom : o = if (isTok K.data.toList && isTok U.data.toList) = true then some ⟨lower K.data.toList, lower U.data.toList, prms R.data.toList []⟩ else none := by
      rw [ho, hKd, hUd, hRd]
      unfold mime
      rw [← hBd, hb]
    have HY := hid hY
    obtain ⟨LK, hLK⟩ : ∃ L : ByteArray, L = strOf (lower K.data.toList) := ⟨_, rfl⟩
    obtain ⟨LU, hLU⟩ : ∃ L : ByteArray, L = strOf (lower U.data.toList) := ⟨_, rfl⟩
    have HLK : Hid (∀ w, Calls Tryd.prog 26 #[.string K] w fun e w' => e = .returned (.string LK) ∧ Below w.heap.size w w') := by
      show ∀ w, _
      rw [hLK]
      exact fun w => UtfL.lower_any K w (by unfold maxLen; omega)
    have HLU : Hid (∀ w, Calls Tryd.prog 26 #[.string U] w fun e w' => e = .returned (.string LU) ∧ Below w.heap.size w w') := by
      show ∀ w, _
      rw [hLU]
      exact fun w => UtfL.lower_any U w (by unfold maxLen; omega)
    have HLS : Hid (LK = strOf (lower K.data.toList) ∧ LU = strOf (lower U.data.toList)) := ⟨hLK, hLU⟩
    have HPM := hid (fun w => parameters_any R w hRs)
    clear ho hT hTd hTs htl hK hB hKd hBd hKs hBs hbl hb hl hY hYd hYs hyl hS hR hSs hRs hSd hRd hU hUd hsl hUs hLK hLU
    cases hki : isTok K.data.toList with
    | false =>
      have HO : Hid (o = none) := by show _ = _; rw [hom, hki]; rfl
      rw [hki] at hk
      have HK := hid hk
      clear hk hu hom hki
      go_enter Tryd.func10, Tryd.ntmps10
      go_upto_region 1 with (fail)
      generalize hw1 : w.alloc _ = w1
      have HB1 : Hid (Below w.heap.size w w1) := by show Below _ _ _; rw [← hw1]; exact (Below.refl _ _).alloc (Nat.le_refl _) _
      have HX1 : Hid (B3 25 w1 w.heap.size (.string ⟨#[]⟩) (.string ⟨#[]⟩) (.slice none 0 0)) := by show B3 _ _ _ _ _ _; rw [← hw1]; exact heap_alloc_new _ _
      clear hw1
      go_wp2_with fail
      refine (HTR.out _).mono ?_
      rintro e w2 ⟨rfl, hb2⟩
      have HX2 := hid (HX1.out.below hb2)
      have HB2 := hid (bel HB1.out hb2)
      clear hb2
      go_wp2_with fail
      refine (HS1.out _).mono ?_
      rintro e w3 ⟨rfl, hb3⟩
      have HX3 := hid (HX2.out.below hb3)
      have HB3 := hid (bel HB2.out hb3)
      clear hb3
      go_wp2_with fail
      rw [← HY.out]
      refine (HS2.out _).mono ?_
      rintro e w4 ⟨rfl, hb4⟩
      have HX4 := hid (HX3.out.below hb4)
      have HB4 := hid (bel HB3.out hb4)
      clear hb4
      go_wp2_with fail
      refine (HRT.out _).mono ?_
      rintro e w5 ⟨rfl, hb5⟩
      have HX5 := hid (HX4.out.below hb5)
      have HB5 := hid (bel HB4.out hb5)
      clear hb5
      go_wp2_with fail
      refine (HK.out _).mono ?_
      rintro e w6 ⟨rfl, hw6⟩
      subst hw6
      obtain ⟨f0, f1, f2⟩ := HX5.out.thaw
      obtain ⟨k0, k1, k2⟩ := HX5.out.facts
      go_wp2
      refine bodyPost_ret (w := put3 _ w.heap.size _ _ _) (res_mt (HX5.out.put _ _ _) false _ rfl rfl) rfl ⟨HNONE.out _ _ HO.out rfl, below_put3 HB5.out (Nat.le_refl _) _ _ _⟩
    | true =>
      rw [hki] at hk
      have HK := hid hk
      cases hui : isTok U.data.toList with
      | false =>
        have HO : Hid (o = none) := by show _ = _; rw [hom, hki, hui]; rfl
        rw [hui] at hu
        have HU := hid hu
        clear hk hu hom hki hui
        go_enter Tryd.func10, Tryd.ntmps10
        go_upto_region 1 with (fail)
        generalize hw1 : w.alloc _ = w1
        have HB1 : Hid (Below w.heap.size w w1) := by show Below _ _ _; rw [← hw1]; exact (Below.refl _ _).alloc (Nat.le_refl _) _
        have HX1 : Hid (B3 25 w1 w.heap.size (.string ⟨#[]⟩) (.string ⟨#[]⟩) (.slice none 0 0)) := by show B3 _ _ _ _ _ _; rw [← hw1]; exact heap_alloc_new _ _
        clear hw1
        go_wp2_with fail
        refine (HTR.out _).mono ?_
        rintro e w2 ⟨rfl, hb2⟩
        have HX2 := hid (HX1.out.below hb2)
        have HB2 := hid (bel HB1.out hb2)
        clear hb2
        go_wp2_with fail
        refine (HS1.out _).mono ?_
        rintro e w3 ⟨rfl, hb3⟩
        have HX3 := hid (HX2.out.below hb3)
        have HB3 := hid (bel HB2.out hb3)
        clear hb3
        go_wp2_with fail
        rw [← HY.out]
        refine (HS2.out _).mono ?_
        rintro e w4 ⟨rfl, hb4⟩
        have HX4 := hid (HX3.out.below hb4)
        have HB4 := hid (bel HB3.out hb4)
        clear hb4
        go_wp2_with fail
        refine (HRT.out _).mono ?_
        rintro e w5 ⟨rfl, hb5⟩
        have HX5 := hid (HX4.out.below hb5)
        have HB5 := hid (bel HB4.out hb5)
        clear hb5
        go_wp2_with fail
        refine (HK.out _).mono ?_
        rintro e w6 ⟨rfl, hw6⟩
        subst hw6
        go_wp2_with fail
        refine (HU.out _).mono ?_
        rintro e w6 ⟨rfl, hw6⟩
        subst hw6
        obtain ⟨f0, f1, f2⟩ := HX5.out.thaw
        obtain ⟨k0, k1, k2⟩ := HX5.out.facts
        go_wp2
        refine bodyPost_ret (w := put3 _ w.heap.size _ _ _) (res_mt (HX5.out.put _ _ _) false _ rfl rfl) rfl ⟨HNONE.out _ _ HO.out rfl, below_put3 HB5.out (Nat.le_refl _) _ _ _⟩
      | true =>
        have HO : Hid (o = some ⟨lower K.data.toList, lower U.data.toList, prms R.data.toList []⟩) := by show _ = _; rw [hom, hki, hui]; rfl
        rw [hui] at hu
        have HU := hid hu
        clear hk hu hom hki hui
        go_enter Tryd.func10, Tryd.ntmps10
        go_upto_region 1 with (fail)
        generalize hw1 : w.alloc _ = w1
        have HB1 : Hid (Below w.heap.size w w1) := by show Below _ _ _; rw [← hw1]; exact (Below.refl _ _).alloc (Nat.le_refl _) _
        have HX1 : Hid (B3 25 w1 w.heap.size (.string ⟨#[]⟩) (.string ⟨#[]⟩) (.slice none 0 0)) := by show B3 _ _ _ _ _ _; rw [← hw1]; exact heap_alloc_new _ _
        clear hw1
        go_wp2_with fail
        refine (HTR.out _).mono ?_
        rintro e w2 ⟨rfl, hb2⟩
        have HX2 := hid (HX1.out.below hb2)
        have HB2 := hid (bel HB1.out hb2)
        clear hb2
        go_wp2_with fail
        refine (HS1.out _).mono ?_
        rintro e w3 ⟨rfl, hb3⟩
        have HX3 := hid (HX2.out.below hb3)
        have HB3 := hid (bel HB2.out hb3)
        clear hb3
        go_wp2_with fail
        rw [← HY.out]
        refine (HS2.out _).mono ?_
        rintro e w4 ⟨rfl, hb4⟩
        have HX4 := hid (HX3.out.below hb4)
        have HB4 := hid (bel HB3.out hb4)
        clear hb4
        go_wp2_with fail
        refine (HRT.out _).mono ?_
        rintro e w5 ⟨rfl, hb5⟩
        have HX5 := hid (HX4.out.below hb5)
        have HB5 := hid (bel HB4.out hb5)
        clear hb5
        go_wp2_with fail
        refine (HK.out _).mono ?_
        rintro e w6 ⟨rfl, hw6⟩
        subst hw6
        go_wp2_with fail
        refine (HU.out _).mono ?_
        rintro e w6 ⟨rfl, hw6⟩
        subst hw6
        go_wp2_with fail
        refine (HLK.out _).mono ?_
        rintro e w7 ⟨rfl, hb7⟩
        have HX7 := hid (HX5.out.below hb7)
        have HB7 := hid (bel HB5.out hb7)
        clear hb7
        go_wp2_with fail
        refine (HLU.out _).mono ?_
        rintro e w8 ⟨rfl, hb8⟩
        have HX8 := hid (HX7.out.below hb8)
        have HB8 := hid (bel HB7.out hb8)
        clear hb8
        go_wp2_with fail
        refine (HPM.out _).mono ?_
        rintro e w9 ⟨v, rfl, hown, hb9⟩
        have HNB : Hid (v.ownBlock ≠ some w.heap.size) := by
          show _ ≠ _
          intro e
          have := (hown.lt _ e).1
          have := HX8.out.lt
          omega
        obtain ⟨A, cp, rfl, hc1, hc2, hprm⟩ := own_prm hown
        have HX9 := hid (HX8.out.below hb9)
        have HB9 := hid (bel HB8.out hb9)
        have HPRM := hid hprm
        clear hb9 hown hprm
        obtain ⟨f0, f1, f2⟩ := HX9.out.thaw
        obtain ⟨k0, k1, k2⟩ := HX9.out.facts
        go_wp2
        refine bodyPost_ret (w := put3 _ w.heap.size _ _ _) (res_mt (HX9.out.put _ _ _) true _ rfl rfl) rfl ⟨?_, below_put3 HB9.out (Nat.le_refl _) _ _ _⟩
        rw [HO.out]
        refine ⟨A, cp, ?_, hc1, hc2, prm_put HPRM.out ?_ _ _ _⟩
        · rw [HLS.out.1, HLS.out.2]; rfl
        · rintro b off rfl
          intro e
          exact HNB.out (by rw [← e]; rfl)
end Go.Proofs.YtlbgcibdpeaomaaDoor.MimD
