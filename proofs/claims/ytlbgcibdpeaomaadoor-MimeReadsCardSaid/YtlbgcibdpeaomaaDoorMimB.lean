/- Types: a parameter's value, a parameter. -/
import Derived.Test.YtlbgcibdpeaomaaDoorMimA
import Derived.Test.YtlbgcibdpeaomaaDoorTokQ
import Derived.Test.YtlbgcibdpeaomaaDoorTokT
import Derived.Test.YtlbgcibdpeaomaaDoorTokA
import Derived.Test.YtlbgcibdpeaomaaDoorTokV
import Derived.Test.YtlbgcibdpeaomaaDoorUtfL
import Derived.Deep.DeepCutAuto
import Derived.Deep.CutBlock
namespace Go.Proofs.YtlbgcibdpeaomaaDoor.MimB
open Go.RowKit Go.Proofs.YtlbgcibdpeaomaaDoor.Base Go.Proofs.YtlbgcibdpeaomaaDoor.Base2 Go.Proofs.YtlbgcibdpeaomaaDoor.UtfL Go.Proofs.YtlbgcibdpeaomaaDoor.TokP Go.Proofs.YtlbgcibdpeaomaaDoor.MimP Go.Proofs.YtlbgcibdpeaomaaDoor.MimA

theorem qval_len (L : List UInt8) : (qval L).2 ≤ L.length := by
  cases L with
  | nil => simp [qval]
  | cons c t =>
    have := (qd_len t).2
    by_cases h : c = 34
    · rw [qval, if_pos h]
      simpa using this
    · rw [qval, if_neg h]
      simp
theorem str_eq_nil {s : ByteArray} (h : s.data.toList = []) : s.toList = [] := by rw [Lib.toList_data]; exact h
theorem vl_val_len (s : List UInt8) : (vl s).1.length ≤ s.length := by
  unfold vl
  split
  · cases s with
    | nil => simp [qval]
    | cons c t =>
      have := (qd_len t).1
      show (qval (c :: t)).1.length ≤ _
      by_cases h : c = 34
      · rw [qval, if_pos h]; simp; omega
      · rw [qval, if_neg h]; simp
  · have h1 := tr_len (tw [59] s)
    have h2 := tw_len [59] s
    show (tr (tw [59] s)).length ≤ _
    omega
/-- A value. -/
def VlV (s : List UInt8) : Value := .tuple #[.string (strOf (vl s).1), .bool (vl s).2.1, .string (strOf (vl s).2.2)]
set_option linter.unusedSimpArgs false in
set_option maxHeartbeats 2000000 in
theorem value_any (s : ByteArray) (w : World) (hs : s.size ≤ 1073741824) : Calls Tryd.prog 69 #[.string s] w fun e w' => e = .returned (VlV s.data.toList) ∧ Below w.heap.size w w' := by
  have hl : s.data.toList.length = s.size := Array.length_toList
  have hq := TokQ.quoted_any s
  obtain ⟨n, hn⟩ : ∃ n, n = (qval s.data.toList).2 := ⟨_, rfl⟩
  have hnl := qval_len s.data.toList
  obtain ⟨H, hH⟩ : ∃ H, H = VlV s.data.toList := ⟨_, rfl⟩
  rw [← hH]
  obtain ⟨V, hV⟩ : ∃ V : ByteArray, V = strOf (qval s.data.toList).1 := ⟨_, rfl⟩
  have HQ : Hid (∀ w, Calls Tryd.prog 82 #[.string s] w fun e w' => e = .returned (.tuple #[.string V, .int .i64 (n : Int)]) ∧ Below w.heap.size w w') := by
    show ∀ w, _
    rw [hV, hn]
    exact fun w => hq w hs
  clear hq
  by_cases h0 : 0 < n
  · obtain ⟨X, hX⟩ : ∃ X, X = s.extract n s.size := ⟨_, rfl⟩
    have hXd : X.data.toList = s.data.toList.drop n := by rw [hX, ext_drop]
    have hXs : X.size ≤ 1073741824 := by rw [hX, ByteArray.size_extract]; omega
    have HS := hid (fun w => split59 X w hXs)
    obtain ⟨T1, hT1⟩ : ∃ T1, T1 = strOf (tw [59] X.data.toList) := ⟨_, rfl⟩
    obtain ⟨T2, hT2⟩ : ∃ T2, T2 = strOf (dw [59] X.data.toList) := ⟨_, rfl⟩
    rw [← hT1, ← hT2] at HS
    have HE : Hid (H = .tuple #[.string V, .bool true, .string T2]) := by
      show _ = _
      rw [hH, hV, hT2, hXd]
      unfold VlV vl
      rw [if_pos (by rw [← hn]; exact h0), ← hn]
    have h0i : (0 : Int) < (n : Int) := by omega
    have h1i : (n : Int) ≤ (s.size : Int) := by omega
    have HX := hid hX
    clear hX hXd hXs hT1 hT2 hH hV hn hnl hl h0
    go_enter Tryd.func69, Tryd.ntmps69
    go_wp2_with fail
    refine (HQ.out _).mono ?_
    rintro e w2 ⟨rfl, hb2⟩
    have HB2 := hid hb2
    clear hb2
    go_wp2_with fail
    rw [← HX.out]
    refine (HS.out _).mono ?_
    rintro e w3 ⟨rfl, hb3⟩
    have HB3 := hid (bel HB2.out hb3)
    clear hb3
    go_wp2
    go_ret3
    exact ⟨by rw [HE.out]; rfl, HB3.out⟩
  · have HS := hid (fun w => split59 s w hs)
    obtain ⟨T1, hT1⟩ : ∃ T1, T1 = strOf (tw [59] s.data.toList) := ⟨_, rfl⟩
    obtain ⟨T2, hT2⟩ : ∃ T2, T2 = strOf (dw [59] s.data.toList) := ⟨_, rfl⟩
    rw [← hT1, ← hT2] at HS
    have hT1d : T1.data.toList = tw [59] s.data.toList := by rw [hT1]; rfl
    have hT1s : T1.size ≤ 1073741824 := by rw [hT1, size_strOf]; have := tw_len [59] s.data.toList; omega
    obtain ⟨R, hR⟩ : ∃ R : ByteArray, R = strOf (tr T1.data.toList) := ⟨_, rfl⟩
    have HR : Hid (∀ w, Calls Tryd.prog 24 #[.string T1] w fun e w' => e = .returned (.string R) ∧ Below w.heap.size w w') := by
      show ∀ w, _
      rw [hR]
      exact fun w => TokT.right_any T1 w hT1s
    have hRd : R.data.toList = tr (tw [59] s.data.toList) := by rw [hR, ← hT1d]; rfl
    have hE : H = .tuple #[.string R, .bool (decide (R.data.toList ≠ [])), .string T2] := by
      rw [hH, hT2]
      unfold VlV vl
      rw [if_neg (by rw [← hn]; exact h0), ← hRd]
      show Value.tuple #[.string (strOf R.data.toList), _, _] = _
      rw [strOf_toList]
    have h0i : ¬ (0 : Int) < (n : Int) := by omega
    clear hT1d hT1s hR hRd hT1 hT2 hH hV hn hnl hl h0
    by_cases he : R.data.toList = []
    · have hq1 := str_eq_nil he
      have hq2 : (R.toList == []) = true := by rw [hq1]; rfl
      have HE : Hid (H = .tuple #[.string R, .bool false, .string T2]) := by show _ = _; rw [hE, decide_eq_false (by simp [he])]
      clear hq1 he hE
      go_enter Tryd.func69, Tryd.ntmps69
      go_wp2_with fail
      refine (HQ.out _).mono ?_
      rintro e w2 ⟨rfl, hb2⟩
      have HB2 := hid hb2
      clear hb2
      go_wp2_with fail
      refine (HS.out _).mono ?_
      rintro e w3 ⟨rfl, hb3⟩
      have HB3 := hid (bel HB2.out hb3)
      clear hb3
      go_wp2_with fail
      refine (HR.out _).mono ?_
      rintro e w4 ⟨rfl, hb4⟩
      have HB4 := hid (bel HB3.out hb4)
      clear hb4
      go_wp2
      go_ret3
      exact ⟨by rw [HE.out]; rfl, HB4.out⟩
    · have hq1 : (R.toList == []) = false := by rw [Lib.toList_data, beq_eq_false_iff_ne]; exact he
      have hq2 : R.toList.isEmpty = false := by rw [Lib.toList_data]; simpa using he
      have hq3 : ¬ R.toList = [] := by rw [Lib.toList_data]; exact he
      have HE : Hid (H = .tuple #[.string R, .bool true, .string T2]) := by show _ = _; rw [hE, decide_eq_true he]
      clear he hE
      go_enter Tryd.func69, Tryd.ntmps69
      go_wp2_with fail
      refine (HQ.out _).mono ?_
      rintro e w2 ⟨rfl, hb2⟩
      have HB2 := hid hb2
      clear hb2
      go_wp2_with fail
      refine (HS.out _).mono ?_
      rintro e w3 ⟨rfl, hb3⟩
      have HB3 := hid (bel HB2.out hb3)
      clear hb3
      go_wp2_with fail
      refine (HR.out _).mono ?_
      rintro e w4 ⟨rfl, hb4⟩
      have HB4 := hid (bel HB3.out hb4)
      clear hb4
      go_wp2
      go_ret3
      exact ⟨by rw [HE.out]; rfl, HB4.out⟩
/-- A block of two cells. -/
def B2 (T : TypeId) (w : World) (g : Nat) (a b : Value) : Prop := w.heap[g]? = some (.cells #[a, b] T (0, 0))
theorem B2.lt {T : TypeId} {w : World} {g : Nat} {a b : Value} (h : B2 T w g a b) : g < w.heap.size := (Array.getElem?_eq_some_iff.1 h).1
theorem B2.facts {T : TypeId} {w : World} {g : Nat} {a b : Value} (h : B2 T w g a b) : w.cell? ⟨g, 0, none⟩ = some a ∧ w.cell? ⟨g, 1, none⟩ = some b :=
  ⟨cell_of_row w g 0 _ _ _ h, cell_of_row w g 1 _ _ _ h⟩
theorem B2.thaw {T : TypeId} {w : World} {g : Nat} {a b : Value} (h : B2 T w g a b) : w.frozen? ⟨g, 0, none⟩ = false ∧ w.frozen? ⟨g, 1, none⟩ = false :=
  ⟨frozen_of_row w g 0 _ _ h, frozen_of_row w g 1 _ _ h⟩
theorem B2.below {T : TypeId} {w w' : World} {g : Nat} {a b : Value} (h : B2 T w g a b) (hb : Below w.heap.size w w') : B2 T w' g a b := (hb.block g h.lt).trans h
def put2 (w : World) (g : Nat) (a b : Value) : World := (w.setCell ⟨g, 0, none⟩ a).setCell ⟨g, 1, none⟩ b
theorem B2.put {T : TypeId} {w : World} {g : Nat} {a b : Value} (h : B2 T w g a b) (x y : Value) : B2 T (put2 w g x y) g x y :=
  heap_setCell_same _ g 1 _ _ y (heap_setCell_same w g 0 _ _ x h)
theorem below_put2 {w0 w : World} {B g : Nat} (h : Below B w0 w) (hg : B ≤ g) (x y : Value) : Below B w0 (put2 w g x y) := (h.setCell hg _).setCell hg _
theorem B2.load {w : World} {g : Nat} {a b : Value} (h : B2 40 w g a b) : (loadVar 40 ⟨g, 0, none⟩).run Tryd.prog w = .ok (.agg #[a, b]) w :=
  run_loadVar_row w g _ _ #[a, b] (0, 0) _ h Tryd.underlying40 rfl (by
    rw [show (Tryd.prog.info? 40).map (·.size) = some 2 by kernel_rfl]
    rfl)
theorem res_pm {w : World} {g : Nat} {a b : Value} (h : B2 40 w g a b) (ok : Bool) (s : ByteArray) (tmps : Array Value) (h2 : tmps.getD 2 undef = .pointer (some ⟨g, 0, none⟩)) (h3 : tmps.getD 3 undef = .bool ok) (h4 : tmps.getD 4 undef = .string s) :
    (results Tryd.f50 tmps).run Tryd.prog w = .ok (.tuple #[.agg #[a, b], .bool ok, .string s]) w := by
  have hp' : tmps[2]?.getD undef = .pointer (some ⟨g, 0, none⟩) := by simpa using h2
  have hq' : tmps[3]?.getD undef = .bool ok := by simpa using h3
  have hr' : tmps[4]?.getD undef = .string s := by simpa using h4
  simp [results, Tryd.results50, hp', hq', hr', asAddr, h.load]
/-- What 'parameter' answers. -/
def PmR (s : List UInt8) (e : Ending) : Prop := ∃ a b : ByteArray, e = .returned (.tuple #[.agg #[.string a, .string b], .bool (pm s).1.isSome, .string (strOf (pm s).2)]) ∧ ∀ p, (pm s).1 = some p → a = strOf p.1 ∧ b = strOf p.2
set_option linter.unusedSimpArgs false in
set_option maxRecDepth 100000 in
set_option maxHeartbeats 4000000 in
theorem parameter_any (s : ByteArray) (w : World) (hs : s.size ≤ 1073741824) : Calls Tryd.prog 50 #[.string s] w fun e w' => PmR s.data.toList e ∧ Below w.heap.size w w' := by
  have hl : s.data.toList.length = s.size := Array.length_toList
  obtain ⟨U, hU⟩ : ∃ U : ByteArray, U = strOf (tl s.data.toList) := ⟨_, rfl⟩
  have hUd : U.data.toList = tl s.data.toList := by rw [hU]; rfl
  have hUs : U.size ≤ 1073741824 := by rw [hU, size_strOf]; have := tl_len s.data.toList; omega
  have HT : Hid (∀ w, Calls Tryd.prog 68 #[.string s, .string ⟨#[9, 10, 13, 32]⟩] w fun e w' => e = .returned (.string U) ∧ Below w.heap.size w w') := by
    show ∀ w, _
    rw [hU]
    exact fun w => Tryd.strings_TrimLeft_set s ⟨#[9, 10, 13, 32]⟩ w (by decide) (ascii_of_all (by decide))
  have HS := hid (fun w => split2 U w hUs)
  obtain ⟨N, hN⟩ : ∃ N, N = strOf (tw [59, 61] U.data.toList) := ⟨_, rfl⟩
  obtain ⟨R, hR⟩ : ∃ R, R = strOf (dw [59, 61] U.data.toList) := ⟨_, rfl⟩
  rw [← hN, ← hR] at HS
  have hNd : N.data.toList = tw [59, 61] (tl s.data.toList) := by rw [hN, ← hUd]; rfl
  have hRd : R.data.toList = dw [59, 61] (tl s.data.toList) := by rw [hR, ← hUd]; rfl
  have hNs : N.size ≤ 1073741824 := by
    rw [hN, size_strOf, hUd]
    have := tw_len [59, 61] (tl s.data.toList)
    have := tl_len s.data.toList
    omega
  have hRs : R.size ≤ 1073741824 := by
    rw [hR, size_strOf, hUd]
    have := dw_len [59, 61] (tl s.data.toList)
    have := tl_len s.data.toList
    omega
  have hrl : R.data.toList.length = R.size := Array.length_toList
  cases hr : R.data.toList with
  | nil =>
    have hpm : pm s.data.toList = (none, []) := by unfold pm; rw [← hRd, hr]
    have hq1 := str_eq_nil hr
    have hq2 : (R.toList == []) = true := by rw [hq1]; rfl
    have hRe : R = strOf [] := by rw [← strOf_toList R, hr]
    have HF : Hid (∀ e, e = .returned (.tuple #[.agg #[.string ⟨#[]⟩, .string ⟨#[]⟩], .bool false, .string R]) → PmR s.data.toList e) := by
      show ∀ e, _
      intro e he
      refine ⟨⟨#[]⟩, ⟨#[]⟩, ?_, ?_⟩
      · rw [hpm, he, hRe]; rfl
      · rw [hpm]; intro p hp; cases hp
    clear hN hR hNd hRd hNs hRs hrl hr hpm hq1 hRe hU hUd hUs hl
    go_enter Tryd.func50, Tryd.ntmps50
    go_upto_region 1 with (fail)
    generalize hw1 : w.alloc _ = w1
    have HB1 : Hid (Below w.heap.size w w1) := by show Below _ _ _; rw [← hw1]; exact (Below.refl _ _).alloc (Nat.le_refl _) _
    have HX1 : Hid (B2 40 w1 w.heap.size (.string ⟨#[]⟩) (.string ⟨#[]⟩)) := by show B2 _ _ _ _ _; rw [← hw1]; exact heap_alloc_new _ _
    clear hw1
    go_wp2_with fail
    refine (HT.out _).mono ?_
    rintro e w2 ⟨rfl, hb2⟩
    have HX2 := hid (HX1.out.below hb2)
    have HB2 := hid (bel HB1.out hb2)
    clear hb2
    go_wp2_with fail
    refine (HS.out _).mono ?_
    rintro e w3 ⟨rfl, hb3⟩
    have HX3 := hid (HX2.out.below hb3)
    have HB3 := hid (bel HB2.out hb3)
    clear hb3
    obtain ⟨f0, f1⟩ := HX3.out.thaw
    obtain ⟨k0, k1⟩ := HX3.out.facts
    go_wp2
    refine bodyPost_ret (w := put2 _ w.heap.size _ _) (res_pm (HX3.out.put _ _) false R _ rfl rfl rfl) rfl ⟨HF.out _ rfl, below_put2 HB3.out (Nat.le_refl _) _ _⟩
  | cons c r =>
    have hq1 : (R.toList == []) = false := by rw [Lib.toList_data, hr]; rfl
    have hq2 : R.toList.isEmpty = false := by rw [Lib.toList_data, hr]; rfl
    have hq3 : ¬ R.toList = [] := by rw [Lib.toList_data, hr]; simp
    have hR1 : 1 ≤ R.size := by rw [← hrl, hr]; simp
    have h0i : (0 : Int) < (R.size : Int) := by omega
    have h1i : (1 : Int) ≤ (R.size : Int) := by omega
    have hR0 : R[0] = c := by
      have : R.data.toList[0]'(by omega) = R[0] := rfl
      rw [← this]
      simp only [hr, List.getElem_cons_zero]
    by_cases hc : c = 59
    · have hpm : pm s.data.toList = (none, R.data.toList) := by unfold pm; rw [← hRd, hr]; simp only []; rw [if_pos hc]
      have hcc : ((c.toNat : Int) == 59) = true := by rw [hc]; rfl
      have HF : Hid (∀ e, e = .returned (.tuple #[.agg #[.string ⟨#[]⟩, .string ⟨#[]⟩], .bool false, .string R]) → PmR s.data.toList e) := by
        show ∀ e, _
        intro e he
        refine ⟨⟨#[]⟩, ⟨#[]⟩, ?_, ?_⟩
        · rw [hpm, he]
          show _ = Ending.returned (.tuple #[_, _, .string (strOf R.data.toList)])
          rw [strOf_toList]
          rfl
        · rw [hpm]; intro p hp; cases hp
      clear hN hR hNd hRd hNs hRs hrl hr hpm hU hUd hUs hl hc
      go_enter Tryd.func50, Tryd.ntmps50
      go_upto_region 1 with (fail)
      generalize hw1 : w.alloc _ = w1
      have HB1 : Hid (Below w.heap.size w w1) := by show Below _ _ _; rw [← hw1]; exact (Below.refl _ _).alloc (Nat.le_refl _) _
      have HX1 : Hid (B2 40 w1 w.heap.size (.string ⟨#[]⟩) (.string ⟨#[]⟩)) := by show B2 _ _ _ _ _; rw [← hw1]; exact heap_alloc_new _ _
      clear hw1
      go_wp2_with fail
      refine (HT.out _).mono ?_
      rintro e w2 ⟨rfl, hb2⟩
      have HX2 := hid (HX1.out.below hb2)
      have HB2 := hid (bel HB1.out hb2)
      clear hb2
      go_wp2_with fail
      refine (HS.out _).mono ?_
      rintro e w3 ⟨rfl, hb3⟩
      have HX3 := hid (HX2.out.below hb3)
      have HB3 := hid (bel HB2.out hb3)
      clear hb3
      obtain ⟨f0, f1⟩ := HX3.out.thaw
      obtain ⟨k0, k1⟩ := HX3.out.facts
      go_wp2
      refine bodyPost_ret (w := put2 _ w.heap.size _ _) (res_pm (HX3.out.put _ _) false R _ rfl rfl rfl) rfl ⟨HF.out _ rfl, below_put2 HB3.out (Nat.le_refl _) _ _⟩
    · have hcc : ((c.toNat : Int) == 59) = false := by
        rw [beq_eq_false_iff_ne]
        intro e
        exact hc (UInt8.toNat_inj.1 (by show _ = 59; omega))
      obtain ⟨Y, hY⟩ : ∃ Y, Y = R.extract 1 R.size := ⟨_, rfl⟩
      have hYd : Y.data.toList = r := by rw [hY, ext_drop, hr]; rfl
      have hYs : Y.size ≤ 1073741824 := by rw [hY, ByteArray.size_extract]; omega
      obtain ⟨V, hV⟩ : ∃ V : ByteArray, V = strOf (vl r).1 := ⟨_, rfl⟩
      obtain ⟨Z, hZ⟩ : ∃ Z : ByteArray, Z = strOf (vl r).2.2 := ⟨_, rfl⟩
      have hVd : V.data.toList = (vl r).1 := by rw [hV]; rfl
      have hVs : V.size ≤ 1073741824 := by
        rw [hV, size_strOf]
        have := vl_val_len r
        have : r.length + 1 = R.size := by rw [← hrl, hr]; rfl
        omega
      have hvl := fun w => value_any Y w hYs
      rw [hYd, show VlV r = .tuple #[.string V, .bool (vl r).2.1, .string Z] by rw [hV, hZ]; rfl] at hvl
      obtain ⟨L, hL⟩ : ∃ L : ByteArray, L = strOf (lower N.data.toList) := ⟨_, rfl⟩
      have HLW : Hid (∀ w, Calls Tryd.prog 26 #[.string N] w fun e w' => e = .returned (.string L) ∧ Below w.heap.size w w') := by
        show ∀ w, _
        rw [hL]
        exact fun w => UtfL.lower_any N w (by unfold maxLen; omega)
      have hpm : pm s.data.toList = (if ((vl r).2.1 && isTok N.data.toList && TokV.quotable V.data.toList) = true then some (lower N.data.toList, (vl r).1) else none, (vl r).2.2) := by
        unfold pm
        rw [← hRd, hr]
        simp only []
        rw [if_neg hc, ← hNd, hVd]
        rfl
      have HF0 : Hid (∀ (b : Bool) e, b = ((vl r).2.1 && isTok N.data.toList && TokV.quotable V.data.toList) → e = .returned (.tuple #[.agg #[.string L, .string V], .bool b, .string Z]) → PmR s.data.toList e) := by
        show ∀ b e, _
        intro b e hb he
        refine ⟨L, V, ?_, ?_⟩
        · rw [hpm, he, hZ, hb]
          cases ((vl r).2.1 && isTok N.data.toList && TokV.quotable V.data.toList) <;> rfl
        · rw [hpm]
          intro p hp
          split at hp
          · injection hp with hp
            rw [← hp, hL, hV]
            exact ⟨rfl, rfl⟩
          · cases hp
      have HIS0 := fun w => TokA.is_any N w hNs
      have HQU0 := fun w => TokV.quotable_any V w hVs
      have HY := hid hY
      clear hN hR hNd hRd hNs hRs hrl hr hpm hU hUd hUs hl hc hY hYd hYs hVd hVs hV hZ hL
      generalize (vl r).2.1 = bg at hvl HF0
      generalize isTok N.data.toList = bi at HIS0 HF0
      generalize TokV.quotable V.data.toList = bq at HQU0 HF0
      have HVL := hid hvl
      have HIS := hid HIS0
      have HQU := hid HQU0
      clear hvl HIS0 HQU0
      cases bg with
      | false =>
        have HF : Hid (∀ e, e = .returned (.tuple #[.agg #[.string L, .string V], .bool false, .string Z]) → PmR s.data.toList e) := fun e => HF0.out false e (by simp)
        go_enter Tryd.func50, Tryd.ntmps50
        go_upto_region 1 with (fail)
        generalize hw1 : w.alloc _ = w1
        have HB1 : Hid (Below w.heap.size w w1) := by show Below _ _ _; rw [← hw1]; exact (Below.refl _ _).alloc (Nat.le_refl _) _
        have HX1 : Hid (B2 40 w1 w.heap.size (.string ⟨#[]⟩) (.string ⟨#[]⟩)) := by show B2 _ _ _ _ _; rw [← hw1]; exact heap_alloc_new _ _
        clear hw1
        go_wp2_with fail
        refine (HT.out _).mono ?_
        rintro e w2 ⟨rfl, hb2⟩
        have HX2 := hid (HX1.out.below hb2)
        have HB2 := hid (bel HB1.out hb2)
        clear hb2
        go_wp2_with fail
        refine (HS.out _).mono ?_
        rintro e w3 ⟨rfl, hb3⟩
        have HX3 := hid (HX2.out.below hb3)
        have HB3 := hid (bel HB2.out hb3)
        clear hb3
        go_wp2_with fail
        rw [← HY.out]
        refine (HVL.out _).mono ?_
        rintro e w4 ⟨rfl, hb4⟩
        have HX4 := hid (HX3.out.below hb4)
        have HB4 := hid (bel HB3.out hb4)
        clear hb4
        go_wp2_with fail
        refine (HLW.out _).mono ?_
        rintro e w7 ⟨rfl, hb7⟩
        have HX7 := hid (HX4.out.below hb7)
        have HB7 := hid (bel HB4.out hb7)
        clear hb7
        obtain ⟨f0, f1⟩ := HX7.out.thaw
        obtain ⟨k0, k1⟩ := HX7.out.facts
        go_wp2
        refine bodyPost_ret (w := put2 _ w.heap.size _ _) (res_pm (HX7.out.put _ _) false Z _ rfl rfl rfl) rfl ⟨HF.out _ rfl, below_put2 HB7.out (Nat.le_refl _) _ _⟩
      | true =>
        cases bi with
        | false =>
          have HF : Hid (∀ e, e = .returned (.tuple #[.agg #[.string L, .string V], .bool false, .string Z]) → PmR s.data.toList e) := fun e => HF0.out false e (by simp)
          go_enter Tryd.func50, Tryd.ntmps50
          go_upto_region 1 with (fail)
          generalize hw1 : w.alloc _ = w1
          have HB1 : Hid (Below w.heap.size w w1) := by show Below _ _ _; rw [← hw1]; exact (Below.refl _ _).alloc (Nat.le_refl _) _
          have HX1 : Hid (B2 40 w1 w.heap.size (.string ⟨#[]⟩) (.string ⟨#[]⟩)) := by show B2 _ _ _ _ _; rw [← hw1]; exact heap_alloc_new _ _
          clear hw1
          go_wp2_with fail
          refine (HT.out _).mono ?_
          rintro e w2 ⟨rfl, hb2⟩
          have HX2 := hid (HX1.out.below hb2)
          have HB2 := hid (bel HB1.out hb2)
          clear hb2
          go_wp2_with fail
          refine (HS.out _).mono ?_
          rintro e w3 ⟨rfl, hb3⟩
          have HX3 := hid (HX2.out.below hb3)
          have HB3 := hid (bel HB2.out hb3)
          clear hb3
          go_wp2_with fail
          rw [← HY.out]
          refine (HVL.out _).mono ?_
          rintro e w4 ⟨rfl, hb4⟩
          have HX4 := hid (HX3.out.below hb4)
          have HB4 := hid (bel HB3.out hb4)
          clear hb4
          go_wp2_with fail
          refine (HIS.out _).mono ?_
          rintro e w5 ⟨rfl, hw5⟩
          subst hw5
          go_wp2_with fail
          refine (HLW.out _).mono ?_
          rintro e w7 ⟨rfl, hb7⟩
          have HX7 := hid (HX4.out.below hb7)
          have HB7 := hid (bel HB4.out hb7)
          clear hb7
          obtain ⟨f0, f1⟩ := HX7.out.thaw
          obtain ⟨k0, k1⟩ := HX7.out.facts
          go_wp2
          refine bodyPost_ret (w := put2 _ w.heap.size _ _) (res_pm (HX7.out.put _ _) false Z _ rfl rfl rfl) rfl ⟨HF.out _ rfl, below_put2 HB7.out (Nat.le_refl _) _ _⟩
        | true =>
          have HF : Hid (∀ e, e = .returned (.tuple #[.agg #[.string L, .string V], .bool bq, .string Z]) → PmR s.data.toList e) := fun e => HF0.out bq e (by simp)
          go_enter Tryd.func50, Tryd.ntmps50
          go_upto_region 1 with (fail)
          generalize hw1 : w.alloc _ = w1
          have HB1 : Hid (Below w.heap.size w w1) := by show Below _ _ _; rw [← hw1]; exact (Below.refl _ _).alloc (Nat.le_refl _) _
          have HX1 : Hid (B2 40 w1 w.heap.size (.string ⟨#[]⟩) (.string ⟨#[]⟩)) := by show B2 _ _ _ _ _; rw [← hw1]; exact heap_alloc_new _ _
          clear hw1
          go_wp2_with fail
          refine (HT.out _).mono ?_
          rintro e w2 ⟨rfl, hb2⟩
          have HX2 := hid (HX1.out.below hb2)
          have HB2 := hid (bel HB1.out hb2)
          clear hb2
          go_wp2_with fail
          refine (HS.out _).mono ?_
          rintro e w3 ⟨rfl, hb3⟩
          have HX3 := hid (HX2.out.below hb3)
          have HB3 := hid (bel HB2.out hb3)
          clear hb3
          go_wp2_with fail
          rw [← HY.out]
          refine (HVL.out _).mono ?_
          rintro e w4 ⟨rfl, hb4⟩
          have HX4 := hid (HX3.out.below hb4)
          have HB4 := hid (bel HB3.out hb4)
          clear hb4
          go_wp2_with fail
          refine (HIS.out _).mono ?_
          rintro e w5 ⟨rfl, hw5⟩
          subst hw5
          go_wp2_with fail
          refine (HQU.out _).mono ?_
          rintro e w6 ⟨rfl, hb6⟩
          have HX6 := hid (HX4.out.below hb6)
          have HB6 := hid (bel HB4.out hb6)
          clear hb6
          go_wp2_with fail
          refine (HLW.out _).mono ?_
          rintro e w7 ⟨rfl, hb7⟩
          have HX7 := hid (HX6.out.below hb7)
          have HB7 := hid (bel HB6.out hb7)
          clear hb7
          obtain ⟨f0, f1⟩ := HX7.out.thaw
          obtain ⟨k0, k1⟩ := HX7.out.facts
          go_wp2
          refine bodyPost_ret (w := put2 _ w.heap.size _ _) (res_pm (HX7.out.put _ _) bq Z _ rfl rfl rfl) rfl ⟨HF.out _ rfl, below_put2 HB7.out (Nat.le_refl _) _ _⟩
end Go.Proofs.YtlbgcibdpeaomaaDoor.MimB
