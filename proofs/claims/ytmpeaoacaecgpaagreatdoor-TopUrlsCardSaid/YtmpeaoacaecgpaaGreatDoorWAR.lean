/- Texts that belong together: acT. -/
import Derived.Test.YtmpeaoacaecgpaaGreatDoorWAQ
set_option linter.unusedSimpArgs false
set_option linter.unusedVariables false
set_option maxRecDepth 100000
set_option maxHeartbeats 64000000
namespace Go.Proofs.YtmpeaoacaecgpaaGreatDoor.acT
open Go.RowKit Base Base2 aZ UrlA UrlE ag0 Regs
theorem YF (a b : Bool) (s t : ByteArray) : txt a s = txt b t ↔ a = b ∧ (a = true → s.data.toList = t.data.toList) := by
 cases a <;> cases b <;> simp [txt]
theorem sp_iff (b6 c6 : Bool) (s7 t7 : ByteArray) (l m : List ByteArray) : spB b6 c6 s7 t7 l m = true ↔ b6 = c6 ∧ (if b6 then decide (s7.data.toList = t7.data.toList) else decide (l = m)) = true := by
 cases b6 <;> cases c6 <;> simp [spB]
theorem anr (as0 : ByteArray) (Xf : ByteArray) (Xg : ByteArray) (YQ : ByteArray) (rE : Bool) (Xk : Int) (Px : Bool) (LK : ByteArray) (aA : Option Addr) (an Py : Nat) (al : List ByteArray) (rF : Bool) (iJ : Bool) (BJ : ByteArray) (BK : ByteArray) (Xq : ByteArray) (Xr : ByteArray) (Xt : ByteArray) (YR : ByteArray) (Xl : Bool) (Xy : Int) (UO : Bool) (LU : ByteArray) (bA : Option Addr) (bn qo : Nat) (bl : List ByteArray) (Xm : Bool) (zM : Bool) (BO : ByteArray) (BP : ByteArray) : decide (zn as0 Xf Xg YQ rE Xk Px LK al rF iJ BJ BK = zn Xq Xr Xt YR Xl Xy UO LU bl Xm zM BO BP) = ((decide (as0.data.toList = Xq.data.toList) && decide (Xf.data.toList = Xr.data.toList) && decide (Xg.data.toList = Xt.data.toList) && (rE == Xl) && (Xk == Xy) && (Px == UO) && (rF == Xm) && (iJ == zM)) && ((!rE || decide (YQ.data.toList = YR.data.toList)) && (!rF || decide (BJ.data.toList = BO.data.toList)) && (!iJ || decide (BK.data.toList = BP.data.toList))) && (if Px then decide (LK.data.toList = LU.data.toList) else decide (al = bl))) := by
 rw [Bool.eq_iff_iff, decide_eq_true_iff, same_iff as0 Xf Xg YQ rE Xk Px LK aA an Py al rF iJ BJ BK Xq Xr Xt YR Xl Xy UO LU bA bn qo bl Xm zM BO BP, YF, YF, YF, sp_iff]
 simp only [Bool.and_eq_true, Bool.or_eq_true, Bool.not_eq_true', decide_eq_true_iff, beq_iff_eq]
 constructor
 ·rintro ⟨h0, h1, h2, h5, ⟨h4, h4'⟩, ⟨h6, h6'⟩, ⟨h9, h9'⟩, h10, h10'⟩
  refine ⟨⟨⟨⟨⟨⟨⟨⟨⟨h0, h1⟩, h2⟩, h4⟩, h5⟩, h6⟩, h9⟩, h10⟩, ⟨?_, ?_⟩, ?_⟩, h6'⟩
  ·cases rE <;> simp_all
  ·cases rF <;> simp_all
  ·cases iJ <;> simp_all
 ·rintro ⟨⟨⟨⟨⟨⟨⟨⟨⟨h0, h1⟩, h2⟩, h4⟩, h5⟩, h6⟩, h9⟩, h10⟩, ⟨h4', h9'⟩, h10'⟩, h6'⟩
  refine ⟨h0, h1, h2, h5, ⟨h4, fun h => ?_⟩, ⟨h6, h6'⟩, ⟨h9, fun h => ?_⟩, h10, fun h => ?_⟩
  ·rcases h4' with e | e
   ·rw [e] at h; cases h
   ·exact e
  ·rcases h9' with e | e
   ·rw [e] at h; cases h
   ·exact e
  ·rcases h10' with e | e
   ·rw [e] at h; cases h
   ·exact e
theorem jW (as0 : ByteArray) (Xf : ByteArray) (Xg : ByteArray) (YQ : ByteArray) (rE : Bool) (Xk : Int) (Px : Bool) (LK : ByteArray) (aA : Option Addr) (an Py : Nat) (al : List ByteArray) (rF : Bool) (iJ : Bool) (BJ : ByteArray) (BK : ByteArray) (Xq : ByteArray) (Xr : ByteArray) (Xt : ByteArray) (YR : ByteArray) (Xl : Bool) (Xy : Int) (UO : Bool) (LU : ByteArray) (bA : Option Addr) (bn qo : Nat) (bl : List ByteArray) (Xm : Bool) (zM : Bool) (BO : ByteArray) (BP : ByteArray) (w : World) (ahR : aY w aA an (al.map Value.string)) (ahnc : an ≤ Py) (ahcm : Py ≤ maxLen) (bhR : aY w bA bn (bl.map Value.string)) (bhnc : bn ≤ qo) (bhcm : qo ≤ maxLen) :
  Calls Tryz.prog 21 #[.agg #[.string as0, .string Xf, .string Xg, .string YQ, .bool rE, .int .i64 Xk, .bool Px, .string LK, .slice aA an Py, .bool rF, .bool iJ, .string BJ, .string BK], .agg #[.string Xq, .string Xr, .string Xt, .string YR, .bool Xl, .int .i64 Xy, .bool UO, .string LU, .slice bA bn qo, .bool Xm, .bool zM, .string BO, .string BP]] w fun e w' => e = .returned (.bool (decide (zn as0 Xf Xg YQ rE Xk Px LK al rF iJ BJ BK = zn Xq Xr Xt YR Xl Xy UO LU bl Xm zM BO BP))) ∧ Below w.heap.size w w' := by
 obtain ⟨E, hE⟩ : ∃ E, E = decide (zn as0 Xf Xg YQ rE Xk Px LK al rF iJ BJ BK = zn Xq Xr Xt YR Xl Xy UO LU bl Xm zM BO BP) := ⟨_, rfl⟩
 rw [← hE]
 rw [anr as0 Xf Xg YQ rE Xk Px LK aA an Py al rF iJ BJ BK Xq Xr Xt YR Xl Xy UO LU bA bn qo bl Xm zM BO BP] at hE
 have HR := hid ahR
 have HR2 := hid bhR
 clear ahR bhR
 obtain ⟨n0, hn0⟩ : ∃ o, (!(as0.toList == Xq.toList)) = o := ⟨_, rfl⟩
 obtain ⟨n1, hn1⟩ : ∃ o, (!(Xf.toList == Xr.toList)) = o := ⟨_, rfl⟩
 obtain ⟨n2, hn2⟩ : ∃ o, (!(Xg.toList == Xt.toList)) = o := ⟨_, rfl⟩
 obtain ⟨n3, hn3⟩ : ∃ o, (!(rE == Xl)) = o := ⟨_, rfl⟩
 obtain ⟨n4, hn4⟩ : ∃ o, (!(Xk == Xy)) = o := ⟨_, rfl⟩
 obtain ⟨n5, hn5⟩ : ∃ o, (!(Px == UO)) = o := ⟨_, rfl⟩
 obtain ⟨n6, hn6⟩ : ∃ o, (!(rF == Xm)) = o := ⟨_, rfl⟩
 obtain ⟨n7, hn7⟩ : ∃ o, (!(iJ == zM)) = o := ⟨_, rfl⟩
 obtain ⟨d1, hd1⟩ : ∃ o, o = (n0 || n1) := ⟨_, rfl⟩
 obtain ⟨d2, hd2⟩ : ∃ o, o = (d1 || n2) := ⟨_, rfl⟩
 obtain ⟨d3, hd3⟩ : ∃ o, o = (d2 || n3) := ⟨_, rfl⟩
 obtain ⟨d4, hd4⟩ : ∃ o, o = (d3 || n4) := ⟨_, rfl⟩
 obtain ⟨d5, hd5⟩ : ∃ o, o = (d4 || n5) := ⟨_, rfl⟩
 obtain ⟨d6, hd6⟩ : ∃ o, o = (d5 || n6) := ⟨_, rfl⟩
 obtain ⟨d7, hd7⟩ : ∃ o, o = (d6 || n7) := ⟨_, rfl⟩
 obtain ⟨m3, hm3⟩ : ∃ o, (!(YQ.toList == YR.toList)) = o := ⟨_, rfl⟩
 obtain ⟨m11, hm11⟩ : ∃ o, (!(BJ.toList == BO.toList)) = o := ⟨_, rfl⟩
 obtain ⟨m12, hm12⟩ : ∃ o, (!(BK.toList == BP.toList)) = o := ⟨_, rfl⟩
 obtain ⟨x1, hp1⟩ : ∃ o, o = (rE && m3) := ⟨_, rfl⟩
 obtain ⟨y1, hp2⟩ : ∃ o, o = (rF && m11) := ⟨_, rfl⟩
 obtain ⟨x2, hp3⟩ : ∃ o, o = (x1 || y1) := ⟨_, rfl⟩
 obtain ⟨z1, hp4⟩ : ∃ o, o = (iJ && m12) := ⟨_, rfl⟩
 obtain ⟨x3, hp5⟩ : ∃ o, o = (x2 || z1) := ⟨_, rfl⟩
 obtain ⟨o7, ho7⟩ : ∃ o, o = (LK.toList == LU.toList) := ⟨_, rfl⟩
 have Tz : Hid (E = (!d7 && !x3 && (if Px then o7 else decide (al = bl)))) := by
  show _ = _
  rw [hE, hp5, hp4, hp3, hp2, hp1, hd7, hd6, hd5, hd4, hd3, hd2, hd1, ← hm3, ← hm11, ← hm12, ← hn0, ← hn1, ← hn2, ← hn3, ← hn4, ← hn5, ← hn6, ← hn7, ho7, wK, wK, wK, wK, wK, wK, wK]
  simp only [Bool.not_or, Bool.not_and, Bool.not_not]
 have Uz := hid hn0
 have HN1 := hid hn1
 have xE := hid hn2
 have HN3 := hid hn3
 have F7 := hid hn4
 have HN5 := hid hn5
 have HN6 := hid hn6
 have HN7 := hid hn7
 have HD1 := hid hd1
 have HD2 := hid hd2
 have HD3 := hid hd3
 have HD4 := hid hd4
 have HD5 := hid hd5
 have HD6 := hid hd6
 have HD7 := hid hd7
 have HM3 := hid hm3
 have HM11 := hid hm11
 have HM12 := hid hm12
 have yc := hid hp1
 have HP2 := hid hp2
 have Zb := hid hp3
 have HP4 := hid hp4
 have HP5 := hid hp5
 have Ia := hid ho7.symm
 clear hE ho7 hn0 hn1 hn2 hn3 hn4 hn5 hn6 hn7 hd1 hd2 hd3 hd4 hd5 hd6 hd7 hm3 hm11 hm12 hp1 hp2 hp3 hp4 hp5
 have HBL : Hid (Below w.heap.size w ((w.alloc (.cells #[.string as0, .string Xf, .string Xg, .string YQ, .bool rE, .int .i64 Xk, .bool Px, .string LK, .slice aA an Py, .bool rF, .bool iJ, .string BJ, .string BK] 25)).alloc (.cells #[.string Xq, .string Xr, .string Xt, .string YR, .bool Xl, .int .i64 Xy, .bool UO, .string LU, .slice bA bn qo, .bool Xm, .bool zM, .string BO, .string BP] 25))) := (((Below.refl _ _).alloc (Nat.le_refl _) _).alloc (by simp) _)
 go_enter Tryz.func21, Tryz.ntmps21
 go_upto_region 1 with (fail)
 generalize hw0 : (w.alloc _).alloc _ = w0
 have HB0 : Hid (Below w.heap.size w w0) := by rw [← hw0]; exact HBL.out
 have kP : Hid (Bx w0 w.heap.size #[.string as0, .string Xf, .string Xg, .string YQ, .bool rE, .int .i64 Xk, .bool Px, .string LK, .slice aA an Py, .bool rF, .bool iJ, .string BJ, .string BK]) := by show _ = _; rw [← hw0]; exact (Below.block ((Below.refl (w.heap.size + 1) _).alloc (by simp) _) w.heap.size (by omega)).trans (heap_alloc_new w _)
 have gY : Hid (Bx w0 (w.heap.size + 1) #[.string Xq, .string Xr, .string Xt, .string YR, .bool Xl, .int .i64 Xy, .bool UO, .string LU, .slice bA bn qo, .bool Xm, .bool zM, .string BO, .string BP]) := by show _ = _; rw [← hw0]; have := heap_alloc_new (w.alloc (.cells #[.string as0, .string Xf, .string Xg, .string YQ, .bool rE, .int .i64 Xk, .bool Px, .string LK, .slice aA an Py, .bool rF, .bool iJ, .string BJ, .string BK] 25)) (.cells #[.string Xq, .string Xr, .string Xt, .string YR, .bool Xl, .int .i64 Xy, .bool UO, .string LU, .slice bA bn qo, .bool Xm, .bool zM, .string BO, .string BP] 25); simpa using this
 have hlt0 : w.heap.size + 1 < w0.heap.size := by rw [← hw0]; simp
 clear hw0 HBL
 refine FZ [is (.pointer (some ⟨w.heap.size, 0, none⟩)), is (.string as0), is (.pointer (some ⟨w.heap.size + 1, 0, none⟩)), is (.string Xq), is (.bool n0), is (.bool n0), fH (!n0) (is (.pointer (some ⟨w.heap.size, 1, none⟩))), fH (!n0) (is (.string Xf)), fH (!n0) (is (.pointer (some ⟨w.heap.size + 1, 1, none⟩))), fH (!n0) (is (.string Xr)), fH (!n0) (is (.bool n1)), is (.bool d1), is (.bool d1), fH (!d1) (is (.pointer (some ⟨w.heap.size, 2, none⟩))), fH (!d1) (is (.string Xg)), fH (!d1) (is (.pointer (some ⟨w.heap.size + 1, 2, none⟩))), fH (!d1) (is (.string Xt)), fH (!d1) (is (.bool n2)), is (.bool d2), is (.bool d2), fH (!d2) (is (.pointer (some ⟨w.heap.size, 4, none⟩))), fH (!d2) (is (.bool rE)), fH (!d2) (is (.pointer (some ⟨w.heap.size + 1, 4, none⟩))), fH (!d2) (is (.bool Xl)), fH (!d2) (is (.bool n3)), is (.bool d3), is (.bool d3), fH (!d3) (is (.pointer (some ⟨w.heap.size, 5, none⟩))), fH (!d3) (is (.int .i64 Xk)), fH (!d3) (is (.pointer (some ⟨w.heap.size + 1, 5, none⟩))), fH (!d3) (is (.int .i64 Xy)), fH (!d3) (is (.bool n4)), is (.bool d4), is (.bool d4), fH (!d4) (is (.pointer (some ⟨w.heap.size, 6, none⟩))), fH (!d4) (is (.bool Px)), fH (!d4) (is (.pointer (some ⟨w.heap.size + 1, 6, none⟩))), fH (!d4) (is (.bool UO)), fH (!d4) (is (.bool n5)), is (.bool d5), is (.bool d5), fH (!d5) (is (.pointer (some ⟨w.heap.size, 9, none⟩))), fH (!d5) (is (.bool rF)), fH (!d5) (is (.pointer (some ⟨w.heap.size + 1, 9, none⟩))), fH (!d5) (is (.bool Xm)), fH (!d5) (is (.bool n6)), is (.bool d6), is (.bool d6), fH (!d6) (is (.pointer (some ⟨w.heap.size, 10, none⟩))), fH (!d6) (is (.bool iJ)), fH (!d6) (is (.pointer (some ⟨w.heap.size + 1, 10, none⟩))), fH (!d6) (is (.bool zM)), fH (!d6) (is (.bool n7)), is (.bool d7)] [[], [0], [], [2], [1, 3], [4], [5], [5, 6], [5], [5, 8], [5, 7, 9], [5, 10], [11], [12], [12, 13], [12], [12, 15], [12, 14, 16], [12, 17], [18], [19], [19, 20], [19], [19, 22], [19, 21, 23], [19, 24], [25], [26], [26, 27], [26], [26, 29], [26, 28, 30], [26, 31], [32], [33], [33, 34], [33], [33, 36], [33, 35, 37], [33, 38], [39], [40], [40, 41], [40], [40, 43], [40, 42, 44], [40, 45], [46], [47], [47, 48], [47], [47, 50], [47, 49, 51], [47, 52]] (by kernel_rfl) ?_ ?_
 ·refine ⟨?_, ?_, ?_, ?_, ?_, ?_, ?_, ?_, ?_, ?_, ?_, ?_, ?_, ?_, ?_, ?_, ?_, ?_, ?_, ?_, ?_, ?_, ?_, ?_, ?_, ?_, ?_, ?_, ?_, ?_, ?_, ?_, ?_, ?_, ?_, ?_, ?_, ?_, ?_, ?_, ?_, ?_, ?_, ?_, ?_, ?_, ?_, ?_, ?_, ?_, ?_, ?_, ?_, ?_, trivial⟩
  ·intro t wq hbq hh K hK
   clear hh
   simp only [filled, aj, upd, Have, is, any, row, pick, Act.put, List.setIfInBounds_toArray, List.set_cons_zero, List.set_cons_succ, Nat.reduceAdd, Nat.reduceEqDiff, reduceIte, fH] at hK ⊢
   go_simp
   exact hK _ _ (Below.refl _ _) rfl
  ·intro t wq hbq hh K hK
   have e0 := hh.1
   simp only [pick] at e0
   replace e0 : t 0 = (.pointer (some ⟨w.heap.size, 0, none⟩)) := e0
   clear hh
   simp only [filled, aj, upd, Have, is, any, row, pick, Act.put, List.setIfInBounds_toArray, List.set_cons_zero, List.set_cons_succ, Nat.reduceAdd, Nat.reduceEqDiff, reduceIte, fH] at hK ⊢
   simp only [e0] at hK ⊢
   have hc := (Bx.cell ((hbq.block _ (by omega)).trans kP.out) 0).trans (show _ = some (.string as0) from rfl)
   go_simp
   exact hK _ _ (Below.refl _ _) rfl
  ·intro t wq hbq hh K hK
   clear hh
   simp only [filled, aj, upd, Have, is, any, row, pick, Act.put, List.setIfInBounds_toArray, List.set_cons_zero, List.set_cons_succ, Nat.reduceAdd, Nat.reduceEqDiff, reduceIte, fH] at hK ⊢
   go_simp
   exact hK _ _ (Below.refl _ _) rfl
  ·intro t wq hbq hh K hK
   have e2 := hh.1
   simp only [pick] at e2
   replace e2 : t 2 = (.pointer (some ⟨w.heap.size + 1, 0, none⟩)) := e2
   clear hh
   simp only [filled, aj, upd, Have, is, any, row, pick, Act.put, List.setIfInBounds_toArray, List.set_cons_zero, List.set_cons_succ, Nat.reduceAdd, Nat.reduceEqDiff, reduceIte, fH] at hK ⊢
   simp only [e2] at hK ⊢
   have hc := (Bx.cell ((hbq.block _ hlt0).trans gY.out) 0).trans (show _ = some (.string Xq) from rfl)
   go_simp
   exact hK _ _ (Below.refl _ _) rfl
  ·intro t wq hbq hh K hK
   have e1 := hh.1
   simp only [pick] at e1
   replace e1 : t 1 = (.string as0) := e1
   have e3 := hh.2.1
   simp only [pick] at e3
   replace e3 : t 3 = (.string Xq) := e3
   clear hh
   simp only [filled, aj, upd, Have, is, any, row, pick, Act.put, List.setIfInBounds_toArray, List.set_cons_zero, List.set_cons_succ, Nat.reduceAdd, Nat.reduceEqDiff, reduceIte, fH] at hK ⊢
   simp only [e1, e3] at hK ⊢
   go_simp
   exact hK _ _ (Below.refl _ _) (congrArg Value.bool (by first | exact Uz.out | (rw [← Uz.out]; rfl) | (rw [← Uz.out]; cases as0 <;> cases Xq <;> rfl)))
  ·intro t wq hbq hh K hK
   have e4 := hh.1
   simp only [pick] at e4
   replace e4 : t 4 = (.bool n0) := e4
   clear hh
   simp only [filled, aj, upd, Have, is, any, row, pick, Act.put, List.setIfInBounds_toArray, List.set_cons_zero, List.set_cons_succ, Nat.reduceAdd, Nat.reduceEqDiff, reduceIte, fH] at hK ⊢
   simp only [e4] at hK ⊢
   go_simp
   exact hK _ _ (Below.refl _ _) rfl
  ·intro t wq hbq hh K hK
   have e5 := hh.1
   simp only [pick] at e5
   replace e5 : t 5 = (.bool n0) := e5
   clear hh
   simp only [filled, aj, upd, Have, is, any, row, pick, Act.put, List.setIfInBounds_toArray, List.set_cons_zero, List.set_cons_succ, Nat.reduceAdd, Nat.reduceEqDiff, reduceIte, fH] at hK ⊢
   cases n0 with
   | true =>
    simp only [e5] at hK ⊢
    go_simp
    exact hK _ _ (Below.refl _ _) ⟨(fun h => by cases h), fun _ => rfl⟩
   | false =>
    simp only [e5] at hK ⊢
    go_simp
    exact hK _ _ (Below.refl _ _) ⟨fun _ => rfl, fun h => by cases h⟩
  ·intro t wq hbq hh K hK
   have e5 := hh.1
   simp only [pick] at e5
   replace e5 : t 5 = (.bool n0) := e5
   have e6 := hh.2.1
   simp only [pick] at e6
   replace e6 : ((!n0) = true → t 6 = (.pointer (some ⟨w.heap.size, 1, none⟩))) ∧ ((!n0) = false → t 6 = undef) := e6
   clear hh
   simp only [filled, aj, upd, Have, is, any, row, pick, Act.put, List.setIfInBounds_toArray, List.set_cons_zero, List.set_cons_succ, Nat.reduceAdd, Nat.reduceEqDiff, reduceIte, fH] at hK ⊢
   cases n0 with
   | true =>
    replace e6 := e6.2 rfl
    simp only [e5, e6] at hK ⊢
    go_simp
    exact hK _ _ (Below.refl _ _) ⟨(fun h => by cases h), fun _ => rfl⟩
   | false =>
    replace e6 := e6.1 rfl
    simp only [e5, e6] at hK ⊢
    have hc := (Bx.cell ((hbq.block _ (by omega)).trans kP.out) 1).trans (show _ = some (.string Xf) from rfl)
    go_simp
    exact hK _ _ (Below.refl _ _) ⟨fun _ => rfl, fun h => by cases h⟩
  ·intro t wq hbq hh K hK
   have e5 := hh.1
   simp only [pick] at e5
   replace e5 : t 5 = (.bool n0) := e5
   clear hh
   simp only [filled, aj, upd, Have, is, any, row, pick, Act.put, List.setIfInBounds_toArray, List.set_cons_zero, List.set_cons_succ, Nat.reduceAdd, Nat.reduceEqDiff, reduceIte, fH] at hK ⊢
   cases n0 with
   | true =>
    simp only [e5] at hK ⊢
    go_simp
    exact hK _ _ (Below.refl _ _) ⟨(fun h => by cases h), fun _ => rfl⟩
   | false =>
    simp only [e5] at hK ⊢
    go_simp
    exact hK _ _ (Below.refl _ _) ⟨fun _ => rfl, fun h => by cases h⟩
  ·intro t wq hbq hh K hK
   have e5 := hh.1
   simp only [pick] at e5
   replace e5 : t 5 = (.bool n0) := e5
   have e8 := hh.2.1
   simp only [pick] at e8
   replace e8 : ((!n0) = true → t 8 = (.pointer (some ⟨w.heap.size + 1, 1, none⟩))) ∧ ((!n0) = false → t 8 = undef) := e8
   clear hh
   simp only [filled, aj, upd, Have, is, any, row, pick, Act.put, List.setIfInBounds_toArray, List.set_cons_zero, List.set_cons_succ, Nat.reduceAdd, Nat.reduceEqDiff, reduceIte, fH] at hK ⊢
   cases n0 with
   | true =>
    replace e8 := e8.2 rfl
    simp only [e5, e8] at hK ⊢
    go_simp
    exact hK _ _ (Below.refl _ _) ⟨(fun h => by cases h), fun _ => rfl⟩
   | false =>
    replace e8 := e8.1 rfl
    simp only [e5, e8] at hK ⊢
    have hc := (Bx.cell ((hbq.block _ hlt0).trans gY.out) 1).trans (show _ = some (.string Xr) from rfl)
    go_simp
    exact hK _ _ (Below.refl _ _) ⟨fun _ => rfl, fun h => by cases h⟩
  ·intro t wq hbq hh K hK
   have e5 := hh.1
   simp only [pick] at e5
   replace e5 : t 5 = (.bool n0) := e5
   have e7 := hh.2.1
   simp only [pick] at e7
   replace e7 : ((!n0) = true → t 7 = (.string Xf)) ∧ ((!n0) = false → t 7 = undef) := e7
   have e9 := hh.2.2.1
   simp only [pick] at e9
   replace e9 : ((!n0) = true → t 9 = (.string Xr)) ∧ ((!n0) = false → t 9 = undef) := e9
   clear hh
   simp only [filled, aj, upd, Have, is, any, row, pick, Act.put, List.setIfInBounds_toArray, List.set_cons_zero, List.set_cons_succ, Nat.reduceAdd, Nat.reduceEqDiff, reduceIte, fH] at hK ⊢
   cases n0 with
   | true =>
    replace e7 := e7.2 rfl
    replace e9 := e9.2 rfl
    simp only [e5, e7, e9] at hK ⊢
    go_simp
    exact hK _ _ (Below.refl _ _) ⟨(fun h => by cases h), fun _ => rfl⟩
   | false =>
    replace e7 := e7.1 rfl
    replace e9 := e9.1 rfl
    simp only [e5, e7, e9] at hK ⊢
    go_simp
    exact hK _ _ (Below.refl _ _) ⟨fun _ => congrArg Value.bool (by first | exact HN1.out | (rw [← HN1.out]; rfl) | (rw [← HN1.out]; cases Xf <;> cases Xr <;> rfl)), fun h => by cases h⟩
  ·intro t wq hbq hh K hK
   have e5 := hh.1
   simp only [pick] at e5
   replace e5 : t 5 = (.bool n0) := e5
   have e10 := hh.2.1
   simp only [pick] at e10
   replace e10 : ((!n0) = true → t 10 = (.bool n1)) ∧ ((!n0) = false → t 10 = undef) := e10
   clear hh
   simp only [filled, aj, upd, Have, is, any, row, pick, Act.put, List.setIfInBounds_toArray, List.set_cons_zero, List.set_cons_succ, Nat.reduceAdd, Nat.reduceEqDiff, reduceIte, fH] at hK ⊢
   cases n0 with
   | true =>
    replace e10 := e10.2 rfl
    simp only [e5, e10] at hK ⊢
    go_simp
    exact hK _ _ (Below.refl _ _) (by show _ = _; rw [HD1.out]; simp)
   | false =>
    replace e10 := e10.1 rfl
    simp only [e5, e10] at hK ⊢
    go_simp
    exact hK _ _ (Below.refl _ _) (by show _ = _; rw [HD1.out]; simp)
  ·intro t wq hbq hh K hK
   have e11 := hh.1
   simp only [pick] at e11
   replace e11 : t 11 = (.bool d1) := e11
   clear hh
   simp only [filled, aj, upd, Have, is, any, row, pick, Act.put, List.setIfInBounds_toArray, List.set_cons_zero, List.set_cons_succ, Nat.reduceAdd, Nat.reduceEqDiff, reduceIte, fH] at hK ⊢
   simp only [e11] at hK ⊢
   go_simp
   exact hK _ _ (Below.refl _ _) rfl
  ·intro t wq hbq hh K hK
   have e12 := hh.1
   simp only [pick] at e12
   replace e12 : t 12 = (.bool d1) := e12
   clear hh
   simp only [filled, aj, upd, Have, is, any, row, pick, Act.put, List.setIfInBounds_toArray, List.set_cons_zero, List.set_cons_succ, Nat.reduceAdd, Nat.reduceEqDiff, reduceIte, fH] at hK ⊢
   cases d1 with
   | true =>
    simp only [e12] at hK ⊢
    go_simp
    exact hK _ _ (Below.refl _ _) ⟨(fun h => by cases h), fun _ => rfl⟩
   | false =>
    simp only [e12] at hK ⊢
    go_simp
    exact hK _ _ (Below.refl _ _) ⟨fun _ => rfl, fun h => by cases h⟩
  ·intro t wq hbq hh K hK
   have e12 := hh.1
   simp only [pick] at e12
   replace e12 : t 12 = (.bool d1) := e12
   have e13 := hh.2.1
   simp only [pick] at e13
   replace e13 : ((!d1) = true → t 13 = (.pointer (some ⟨w.heap.size, 2, none⟩))) ∧ ((!d1) = false → t 13 = undef) := e13
   clear hh
   simp only [filled, aj, upd, Have, is, any, row, pick, Act.put, List.setIfInBounds_toArray, List.set_cons_zero, List.set_cons_succ, Nat.reduceAdd, Nat.reduceEqDiff, reduceIte, fH] at hK ⊢
   cases d1 with
   | true =>
    replace e13 := e13.2 rfl
    simp only [e12, e13] at hK ⊢
    go_simp
    exact hK _ _ (Below.refl _ _) ⟨(fun h => by cases h), fun _ => rfl⟩
   | false =>
    replace e13 := e13.1 rfl
    simp only [e12, e13] at hK ⊢
    have hc := (Bx.cell ((hbq.block _ (by omega)).trans kP.out) 2).trans (show _ = some (.string Xg) from rfl)
    go_simp
    exact hK _ _ (Below.refl _ _) ⟨fun _ => rfl, fun h => by cases h⟩
  ·intro t wq hbq hh K hK
   have e12 := hh.1
   simp only [pick] at e12
   replace e12 : t 12 = (.bool d1) := e12
   clear hh
   simp only [filled, aj, upd, Have, is, any, row, pick, Act.put, List.setIfInBounds_toArray, List.set_cons_zero, List.set_cons_succ, Nat.reduceAdd, Nat.reduceEqDiff, reduceIte, fH] at hK ⊢
   cases d1 with
   | true =>
    simp only [e12] at hK ⊢
    go_simp
    exact hK _ _ (Below.refl _ _) ⟨(fun h => by cases h), fun _ => rfl⟩
   | false =>
    simp only [e12] at hK ⊢
    go_simp
    exact hK _ _ (Below.refl _ _) ⟨fun _ => rfl, fun h => by cases h⟩
  ·intro t wq hbq hh K hK
   have e12 := hh.1
   simp only [pick] at e12
   replace e12 : t 12 = (.bool d1) := e12
   have e15 := hh.2.1
   simp only [pick] at e15
   replace e15 : ((!d1) = true → t 15 = (.pointer (some ⟨w.heap.size + 1, 2, none⟩))) ∧ ((!d1) = false → t 15 = undef) := e15
   clear hh
   simp only [filled, aj, upd, Have, is, any, row, pick, Act.put, List.setIfInBounds_toArray, List.set_cons_zero, List.set_cons_succ, Nat.reduceAdd, Nat.reduceEqDiff, reduceIte, fH] at hK ⊢
   cases d1 with
   | true =>
    replace e15 := e15.2 rfl
    simp only [e12, e15] at hK ⊢
    go_simp
    exact hK _ _ (Below.refl _ _) ⟨(fun h => by cases h), fun _ => rfl⟩
   | false =>
    replace e15 := e15.1 rfl
    simp only [e12, e15] at hK ⊢
    have hc := (Bx.cell ((hbq.block _ hlt0).trans gY.out) 2).trans (show _ = some (.string Xt) from rfl)
    go_simp
    exact hK _ _ (Below.refl _ _) ⟨fun _ => rfl, fun h => by cases h⟩
  ·intro t wq hbq hh K hK
   have e12 := hh.1
   simp only [pick] at e12
   replace e12 : t 12 = (.bool d1) := e12
   have e14 := hh.2.1
   simp only [pick] at e14
   replace e14 : ((!d1) = true → t 14 = (.string Xg)) ∧ ((!d1) = false → t 14 = undef) := e14
   have e16 := hh.2.2.1
   simp only [pick] at e16
   replace e16 : ((!d1) = true → t 16 = (.string Xt)) ∧ ((!d1) = false → t 16 = undef) := e16
   clear hh
   simp only [filled, aj, upd, Have, is, any, row, pick, Act.put, List.setIfInBounds_toArray, List.set_cons_zero, List.set_cons_succ, Nat.reduceAdd, Nat.reduceEqDiff, reduceIte, fH] at hK ⊢
   cases d1 with
   | true =>
    replace e14 := e14.2 rfl
    replace e16 := e16.2 rfl
    simp only [e12, e14, e16] at hK ⊢
    go_simp
    exact hK _ _ (Below.refl _ _) ⟨(fun h => by cases h), fun _ => rfl⟩
   | false =>
    replace e14 := e14.1 rfl
    replace e16 := e16.1 rfl
    simp only [e12, e14, e16] at hK ⊢
    go_simp
    exact hK _ _ (Below.refl _ _) ⟨fun _ => congrArg Value.bool (by first | exact xE.out | (rw [← xE.out]; rfl) | (rw [← xE.out]; cases Xg <;> cases Xt <;> rfl)), fun h => by cases h⟩
  ·intro t wq hbq hh K hK
   have e12 := hh.1
   simp only [pick] at e12
   replace e12 : t 12 = (.bool d1) := e12
   have e17 := hh.2.1
   simp only [pick] at e17
   replace e17 : ((!d1) = true → t 17 = (.bool n2)) ∧ ((!d1) = false → t 17 = undef) := e17
   clear hh
   simp only [filled, aj, upd, Have, is, any, row, pick, Act.put, List.setIfInBounds_toArray, List.set_cons_zero, List.set_cons_succ, Nat.reduceAdd, Nat.reduceEqDiff, reduceIte, fH] at hK ⊢
   cases d1 with
   | true =>
    replace e17 := e17.2 rfl
    simp only [e12, e17] at hK ⊢
    go_simp
    exact hK _ _ (Below.refl _ _) (by show _ = _; rw [HD2.out]; simp)
   | false =>
    replace e17 := e17.1 rfl
    simp only [e12, e17] at hK ⊢
    go_simp
    exact hK _ _ (Below.refl _ _) (by show _ = _; rw [HD2.out]; simp)
  ·intro t wq hbq hh K hK
   have e18 := hh.1
   simp only [pick] at e18
   replace e18 : t 18 = (.bool d2) := e18
   clear hh
   simp only [filled, aj, upd, Have, is, any, row, pick, Act.put, List.setIfInBounds_toArray, List.set_cons_zero, List.set_cons_succ, Nat.reduceAdd, Nat.reduceEqDiff, reduceIte, fH] at hK ⊢
   simp only [e18] at hK ⊢
   go_simp
   exact hK _ _ (Below.refl _ _) rfl
  ·intro t wq hbq hh K hK
   have e19 := hh.1
   simp only [pick] at e19
   replace e19 : t 19 = (.bool d2) := e19
   clear hh
   simp only [filled, aj, upd, Have, is, any, row, pick, Act.put, List.setIfInBounds_toArray, List.set_cons_zero, List.set_cons_succ, Nat.reduceAdd, Nat.reduceEqDiff, reduceIte, fH] at hK ⊢
   cases d2 with
   | true =>
    simp only [e19] at hK ⊢
    go_simp
    exact hK _ _ (Below.refl _ _) ⟨(fun h => by cases h), fun _ => rfl⟩
   | false =>
    simp only [e19] at hK ⊢
    go_simp
    exact hK _ _ (Below.refl _ _) ⟨fun _ => rfl, fun h => by cases h⟩
  ·intro t wq hbq hh K hK
   have e19 := hh.1
   simp only [pick] at e19
   replace e19 : t 19 = (.bool d2) := e19
   have e20 := hh.2.1
   simp only [pick] at e20
   replace e20 : ((!d2) = true → t 20 = (.pointer (some ⟨w.heap.size, 4, none⟩))) ∧ ((!d2) = false → t 20 = undef) := e20
   clear hh
   simp only [filled, aj, upd, Have, is, any, row, pick, Act.put, List.setIfInBounds_toArray, List.set_cons_zero, List.set_cons_succ, Nat.reduceAdd, Nat.reduceEqDiff, reduceIte, fH] at hK ⊢
   cases d2 with
   | true =>
    replace e20 := e20.2 rfl
    simp only [e19, e20] at hK ⊢
    go_simp
    exact hK _ _ (Below.refl _ _) ⟨(fun h => by cases h), fun _ => rfl⟩
   | false =>
    replace e20 := e20.1 rfl
    simp only [e19, e20] at hK ⊢
    have hc := (Bx.cell ((hbq.block _ (by omega)).trans kP.out) 4).trans (show _ = some (.bool rE) from rfl)
    go_simp
    exact hK _ _ (Below.refl _ _) ⟨fun _ => rfl, fun h => by cases h⟩
  ·intro t wq hbq hh K hK
   have e19 := hh.1
   simp only [pick] at e19
   replace e19 : t 19 = (.bool d2) := e19
   clear hh
   simp only [filled, aj, upd, Have, is, any, row, pick, Act.put, List.setIfInBounds_toArray, List.set_cons_zero, List.set_cons_succ, Nat.reduceAdd, Nat.reduceEqDiff, reduceIte, fH] at hK ⊢
   cases d2 with
   | true =>
    simp only [e19] at hK ⊢
    go_simp
    exact hK _ _ (Below.refl _ _) ⟨(fun h => by cases h), fun _ => rfl⟩
   | false =>
    simp only [e19] at hK ⊢
    go_simp
    exact hK _ _ (Below.refl _ _) ⟨fun _ => rfl, fun h => by cases h⟩
  ·intro t wq hbq hh K hK
   have e19 := hh.1
   simp only [pick] at e19
   replace e19 : t 19 = (.bool d2) := e19
   have e22 := hh.2.1
   simp only [pick] at e22
   replace e22 : ((!d2) = true → t 22 = (.pointer (some ⟨w.heap.size + 1, 4, none⟩))) ∧ ((!d2) = false → t 22 = undef) := e22
   clear hh
   simp only [filled, aj, upd, Have, is, any, row, pick, Act.put, List.setIfInBounds_toArray, List.set_cons_zero, List.set_cons_succ, Nat.reduceAdd, Nat.reduceEqDiff, reduceIte, fH] at hK ⊢
   cases d2 with
   | true =>
    replace e22 := e22.2 rfl
    simp only [e19, e22] at hK ⊢
    go_simp
    exact hK _ _ (Below.refl _ _) ⟨(fun h => by cases h), fun _ => rfl⟩
   | false =>
    replace e22 := e22.1 rfl
    simp only [e19, e22] at hK ⊢
    have hc := (Bx.cell ((hbq.block _ hlt0).trans gY.out) 4).trans (show _ = some (.bool Xl) from rfl)
    go_simp
    exact hK _ _ (Below.refl _ _) ⟨fun _ => rfl, fun h => by cases h⟩
  ·intro t wq hbq hh K hK
   have e19 := hh.1
   simp only [pick] at e19
   replace e19 : t 19 = (.bool d2) := e19
   have e21 := hh.2.1
   simp only [pick] at e21
   replace e21 : ((!d2) = true → t 21 = (.bool rE)) ∧ ((!d2) = false → t 21 = undef) := e21
   have e23 := hh.2.2.1
   simp only [pick] at e23
   replace e23 : ((!d2) = true → t 23 = (.bool Xl)) ∧ ((!d2) = false → t 23 = undef) := e23
   clear hh
   simp only [filled, aj, upd, Have, is, any, row, pick, Act.put, List.setIfInBounds_toArray, List.set_cons_zero, List.set_cons_succ, Nat.reduceAdd, Nat.reduceEqDiff, reduceIte, fH] at hK ⊢
   cases d2 with
   | true =>
    replace e21 := e21.2 rfl
    replace e23 := e23.2 rfl
    simp only [e19, e21, e23] at hK ⊢
    go_simp
    exact hK _ _ (Below.refl _ _) ⟨(fun h => by cases h), fun _ => rfl⟩
   | false =>
    replace e21 := e21.1 rfl
    replace e23 := e23.1 rfl
    simp only [e19, e21, e23] at hK ⊢
    go_simp
    exact hK _ _ (Below.refl _ _) ⟨fun _ => congrArg Value.bool (by first | exact HN3.out | (rw [← HN3.out]; rfl) | (rw [← HN3.out]; cases rE <;> cases Xl <;> rfl)), fun h => by cases h⟩
  ·intro t wq hbq hh K hK
   have e19 := hh.1
   simp only [pick] at e19
   replace e19 : t 19 = (.bool d2) := e19
   have e24 := hh.2.1
   simp only [pick] at e24
   replace e24 : ((!d2) = true → t 24 = (.bool n3)) ∧ ((!d2) = false → t 24 = undef) := e24
   clear hh
   simp only [filled, aj, upd, Have, is, any, row, pick, Act.put, List.setIfInBounds_toArray, List.set_cons_zero, List.set_cons_succ, Nat.reduceAdd, Nat.reduceEqDiff, reduceIte, fH] at hK ⊢
   cases d2 with
   | true =>
    replace e24 := e24.2 rfl
    simp only [e19, e24] at hK ⊢
    go_simp
    exact hK _ _ (Below.refl _ _) (by show _ = _; rw [HD3.out]; simp)
   | false =>
    replace e24 := e24.1 rfl
    simp only [e19, e24] at hK ⊢
    go_simp
    exact hK _ _ (Below.refl _ _) (by show _ = _; rw [HD3.out]; simp)
  ·intro t wq hbq hh K hK
   have e25 := hh.1
   simp only [pick] at e25
   replace e25 : t 25 = (.bool d3) := e25
   clear hh
   simp only [filled, aj, upd, Have, is, any, row, pick, Act.put, List.setIfInBounds_toArray, List.set_cons_zero, List.set_cons_succ, Nat.reduceAdd, Nat.reduceEqDiff, reduceIte, fH] at hK ⊢
   simp only [e25] at hK ⊢
   go_simp
   exact hK _ _ (Below.refl _ _) rfl
  ·intro t wq hbq hh K hK
   have e26 := hh.1
   simp only [pick] at e26
   replace e26 : t 26 = (.bool d3) := e26
   clear hh
   simp only [filled, aj, upd, Have, is, any, row, pick, Act.put, List.setIfInBounds_toArray, List.set_cons_zero, List.set_cons_succ, Nat.reduceAdd, Nat.reduceEqDiff, reduceIte, fH] at hK ⊢
   cases d3 with
   | true =>
    simp only [e26] at hK ⊢
    go_simp
    exact hK _ _ (Below.refl _ _) ⟨(fun h => by cases h), fun _ => rfl⟩
   | false =>
    simp only [e26] at hK ⊢
    go_simp
    exact hK _ _ (Below.refl _ _) ⟨fun _ => rfl, fun h => by cases h⟩
  ·intro t wq hbq hh K hK
   have e26 := hh.1
   simp only [pick] at e26
   replace e26 : t 26 = (.bool d3) := e26
   have e27 := hh.2.1
   simp only [pick] at e27
   replace e27 : ((!d3) = true → t 27 = (.pointer (some ⟨w.heap.size, 5, none⟩))) ∧ ((!d3) = false → t 27 = undef) := e27
   clear hh
   simp only [filled, aj, upd, Have, is, any, row, pick, Act.put, List.setIfInBounds_toArray, List.set_cons_zero, List.set_cons_succ, Nat.reduceAdd, Nat.reduceEqDiff, reduceIte, fH] at hK ⊢
   cases d3 with
   | true =>
    replace e27 := e27.2 rfl
    simp only [e26, e27] at hK ⊢
    go_simp
    exact hK _ _ (Below.refl _ _) ⟨(fun h => by cases h), fun _ => rfl⟩
   | false =>
    replace e27 := e27.1 rfl
    simp only [e26, e27] at hK ⊢
    have hc := (Bx.cell ((hbq.block _ (by omega)).trans kP.out) 5).trans (show _ = some (.int .i64 Xk) from rfl)
    go_simp
    exact hK _ _ (Below.refl _ _) ⟨fun _ => rfl, fun h => by cases h⟩
  ·intro t wq hbq hh K hK
   have e26 := hh.1
   simp only [pick] at e26
   replace e26 : t 26 = (.bool d3) := e26
   clear hh
   simp only [filled, aj, upd, Have, is, any, row, pick, Act.put, List.setIfInBounds_toArray, List.set_cons_zero, List.set_cons_succ, Nat.reduceAdd, Nat.reduceEqDiff, reduceIte, fH] at hK ⊢
   cases d3 with
   | true =>
    simp only [e26] at hK ⊢
    go_simp
    exact hK _ _ (Below.refl _ _) ⟨(fun h => by cases h), fun _ => rfl⟩
   | false =>
    simp only [e26] at hK ⊢
    go_simp
    exact hK _ _ (Below.refl _ _) ⟨fun _ => rfl, fun h => by cases h⟩
  ·intro t wq hbq hh K hK
   have e26 := hh.1
   simp only [pick] at e26
   replace e26 : t 26 = (.bool d3) := e26
   have e29 := hh.2.1
   simp only [pick] at e29
   replace e29 : ((!d3) = true → t 29 = (.pointer (some ⟨w.heap.size + 1, 5, none⟩))) ∧ ((!d3) = false → t 29 = undef) := e29
   clear hh
   simp only [filled, aj, upd, Have, is, any, row, pick, Act.put, List.setIfInBounds_toArray, List.set_cons_zero, List.set_cons_succ, Nat.reduceAdd, Nat.reduceEqDiff, reduceIte, fH] at hK ⊢
   cases d3 with
   | true =>
    replace e29 := e29.2 rfl
    simp only [e26, e29] at hK ⊢
    go_simp
    exact hK _ _ (Below.refl _ _) ⟨(fun h => by cases h), fun _ => rfl⟩
   | false =>
    replace e29 := e29.1 rfl
    simp only [e26, e29] at hK ⊢
    have hc := (Bx.cell ((hbq.block _ hlt0).trans gY.out) 5).trans (show _ = some (.int .i64 Xy) from rfl)
    go_simp
    exact hK _ _ (Below.refl _ _) ⟨fun _ => rfl, fun h => by cases h⟩
  ·intro t wq hbq hh K hK
   have e26 := hh.1
   simp only [pick] at e26
   replace e26 : t 26 = (.bool d3) := e26
   have e28 := hh.2.1
   simp only [pick] at e28
   replace e28 : ((!d3) = true → t 28 = (.int .i64 Xk)) ∧ ((!d3) = false → t 28 = undef) := e28
   have e30 := hh.2.2.1
   simp only [pick] at e30
   replace e30 : ((!d3) = true → t 30 = (.int .i64 Xy)) ∧ ((!d3) = false → t 30 = undef) := e30
   clear hh
   simp only [filled, aj, upd, Have, is, any, row, pick, Act.put, List.setIfInBounds_toArray, List.set_cons_zero, List.set_cons_succ, Nat.reduceAdd, Nat.reduceEqDiff, reduceIte, fH] at hK ⊢
   cases d3 with
   | true =>
    replace e28 := e28.2 rfl
    replace e30 := e30.2 rfl
    simp only [e26, e28, e30] at hK ⊢
    go_simp
    exact hK _ _ (Below.refl _ _) ⟨(fun h => by cases h), fun _ => rfl⟩
   | false =>
    replace e28 := e28.1 rfl
    replace e30 := e30.1 rfl
    simp only [e26, e28, e30] at hK ⊢
    go_simp
    exact hK _ _ (Below.refl _ _) ⟨fun _ => congrArg Value.bool (by first | exact F7.out | (rw [← F7.out]; rfl) | (rw [← F7.out]; cases Xk <;> cases Xy <;> rfl)), fun h => by cases h⟩
  ·intro t wq hbq hh K hK
   have e26 := hh.1
   simp only [pick] at e26
   replace e26 : t 26 = (.bool d3) := e26
   have e31 := hh.2.1
   simp only [pick] at e31
   replace e31 : ((!d3) = true → t 31 = (.bool n4)) ∧ ((!d3) = false → t 31 = undef) := e31
   clear hh
   simp only [filled, aj, upd, Have, is, any, row, pick, Act.put, List.setIfInBounds_toArray, List.set_cons_zero, List.set_cons_succ, Nat.reduceAdd, Nat.reduceEqDiff, reduceIte, fH] at hK ⊢
   cases d3 with
   | true =>
    replace e31 := e31.2 rfl
    simp only [e26, e31] at hK ⊢
    go_simp
    exact hK _ _ (Below.refl _ _) (by show _ = _; rw [HD4.out]; simp)
   | false =>
    replace e31 := e31.1 rfl
    simp only [e26, e31] at hK ⊢
    go_simp
    exact hK _ _ (Below.refl _ _) (by show _ = _; rw [HD4.out]; simp)
  ·intro t wq hbq hh K hK
   have e32 := hh.1
   simp only [pick] at e32
   replace e32 : t 32 = (.bool d4) := e32
   clear hh
   simp only [filled, aj, upd, Have, is, any, row, pick, Act.put, List.setIfInBounds_toArray, List.set_cons_zero, List.set_cons_succ, Nat.reduceAdd, Nat.reduceEqDiff, reduceIte, fH] at hK ⊢
   simp only [e32] at hK ⊢
   go_simp
   exact hK _ _ (Below.refl _ _) rfl
  ·intro t wq hbq hh K hK
   have e33 := hh.1
   simp only [pick] at e33
   replace e33 : t 33 = (.bool d4) := e33
   clear hh
   simp only [filled, aj, upd, Have, is, any, row, pick, Act.put, List.setIfInBounds_toArray, List.set_cons_zero, List.set_cons_succ, Nat.reduceAdd, Nat.reduceEqDiff, reduceIte, fH] at hK ⊢
   cases d4 with
   | true =>
    simp only [e33] at hK ⊢
    go_simp
    exact hK _ _ (Below.refl _ _) ⟨(fun h => by cases h), fun _ => rfl⟩
   | false =>
    simp only [e33] at hK ⊢
    go_simp
    exact hK _ _ (Below.refl _ _) ⟨fun _ => rfl, fun h => by cases h⟩
  ·intro t wq hbq hh K hK
   have e33 := hh.1
   simp only [pick] at e33
   replace e33 : t 33 = (.bool d4) := e33
   have e34 := hh.2.1
   simp only [pick] at e34
   replace e34 : ((!d4) = true → t 34 = (.pointer (some ⟨w.heap.size, 6, none⟩))) ∧ ((!d4) = false → t 34 = undef) := e34
   clear hh
   simp only [filled, aj, upd, Have, is, any, row, pick, Act.put, List.setIfInBounds_toArray, List.set_cons_zero, List.set_cons_succ, Nat.reduceAdd, Nat.reduceEqDiff, reduceIte, fH] at hK ⊢
   cases d4 with
   | true =>
    replace e34 := e34.2 rfl
    simp only [e33, e34] at hK ⊢
    go_simp
    exact hK _ _ (Below.refl _ _) ⟨(fun h => by cases h), fun _ => rfl⟩
   | false =>
    replace e34 := e34.1 rfl
    simp only [e33, e34] at hK ⊢
    have hc := (Bx.cell ((hbq.block _ (by omega)).trans kP.out) 6).trans (show _ = some (.bool Px) from rfl)
    go_simp
    exact hK _ _ (Below.refl _ _) ⟨fun _ => rfl, fun h => by cases h⟩
  ·intro t wq hbq hh K hK
   have e33 := hh.1
   simp only [pick] at e33
   replace e33 : t 33 = (.bool d4) := e33
   clear hh
   simp only [filled, aj, upd, Have, is, any, row, pick, Act.put, List.setIfInBounds_toArray, List.set_cons_zero, List.set_cons_succ, Nat.reduceAdd, Nat.reduceEqDiff, reduceIte, fH] at hK ⊢
   cases d4 with
   | true =>
    simp only [e33] at hK ⊢
    go_simp
    exact hK _ _ (Below.refl _ _) ⟨(fun h => by cases h), fun _ => rfl⟩
   | false =>
    simp only [e33] at hK ⊢
    go_simp
    exact hK _ _ (Below.refl _ _) ⟨fun _ => rfl, fun h => by cases h⟩
  ·intro t wq hbq hh K hK
   have e33 := hh.1
   simp only [pick] at e33
   replace e33 : t 33 = (.bool d4) := e33
   have e36 := hh.2.1
   simp only [pick] at e36
   replace e36 : ((!d4) = true → t 36 = (.pointer (some ⟨w.heap.size + 1, 6, none⟩))) ∧ ((!d4) = false → t 36 = undef) := e36
   clear hh
   simp only [filled, aj, upd, Have, is, any, row, pick, Act.put, List.setIfInBounds_toArray, List.set_cons_zero, List.set_cons_succ, Nat.reduceAdd, Nat.reduceEqDiff, reduceIte, fH] at hK ⊢
   cases d4 with
   | true =>
    replace e36 := e36.2 rfl
    simp only [e33, e36] at hK ⊢
    go_simp
    exact hK _ _ (Below.refl _ _) ⟨(fun h => by cases h), fun _ => rfl⟩
   | false =>
    replace e36 := e36.1 rfl
    simp only [e33, e36] at hK ⊢
    have hc := (Bx.cell ((hbq.block _ hlt0).trans gY.out) 6).trans (show _ = some (.bool UO) from rfl)
    go_simp
    exact hK _ _ (Below.refl _ _) ⟨fun _ => rfl, fun h => by cases h⟩
  ·intro t wq hbq hh K hK
   have e33 := hh.1
   simp only [pick] at e33
   replace e33 : t 33 = (.bool d4) := e33
   have e35 := hh.2.1
   simp only [pick] at e35
   replace e35 : ((!d4) = true → t 35 = (.bool Px)) ∧ ((!d4) = false → t 35 = undef) := e35
   have e37 := hh.2.2.1
   simp only [pick] at e37
   replace e37 : ((!d4) = true → t 37 = (.bool UO)) ∧ ((!d4) = false → t 37 = undef) := e37
   clear hh
   simp only [filled, aj, upd, Have, is, any, row, pick, Act.put, List.setIfInBounds_toArray, List.set_cons_zero, List.set_cons_succ, Nat.reduceAdd, Nat.reduceEqDiff, reduceIte, fH] at hK ⊢
   cases d4 with
   | true =>
    replace e35 := e35.2 rfl
    replace e37 := e37.2 rfl
    simp only [e33, e35, e37] at hK ⊢
    go_simp
    exact hK _ _ (Below.refl _ _) ⟨(fun h => by cases h), fun _ => rfl⟩
   | false =>
    replace e35 := e35.1 rfl
    replace e37 := e37.1 rfl
    simp only [e33, e35, e37] at hK ⊢
    go_simp
    exact hK _ _ (Below.refl _ _) ⟨fun _ => congrArg Value.bool (by first | exact HN5.out | (rw [← HN5.out]; rfl) | (rw [← HN5.out]; cases Px <;> cases UO <;> rfl)), fun h => by cases h⟩
  ·intro t wq hbq hh K hK
   have e33 := hh.1
   simp only [pick] at e33
   replace e33 : t 33 = (.bool d4) := e33
   have e38 := hh.2.1
   simp only [pick] at e38
   replace e38 : ((!d4) = true → t 38 = (.bool n5)) ∧ ((!d4) = false → t 38 = undef) := e38
   clear hh
   simp only [filled, aj, upd, Have, is, any, row, pick, Act.put, List.setIfInBounds_toArray, List.set_cons_zero, List.set_cons_succ, Nat.reduceAdd, Nat.reduceEqDiff, reduceIte, fH] at hK ⊢
   cases d4 with
   | true =>
    replace e38 := e38.2 rfl
    simp only [e33, e38] at hK ⊢
    go_simp
    exact hK _ _ (Below.refl _ _) (by show _ = _; rw [HD5.out]; simp)
   | false =>
    replace e38 := e38.1 rfl
    simp only [e33, e38] at hK ⊢
    go_simp
    exact hK _ _ (Below.refl _ _) (by show _ = _; rw [HD5.out]; simp)
  ·intro t wq hbq hh K hK
   have e39 := hh.1
   simp only [pick] at e39
   replace e39 : t 39 = (.bool d5) := e39
   clear hh
   simp only [filled, aj, upd, Have, is, any, row, pick, Act.put, List.setIfInBounds_toArray, List.set_cons_zero, List.set_cons_succ, Nat.reduceAdd, Nat.reduceEqDiff, reduceIte, fH] at hK ⊢
   simp only [e39] at hK ⊢
   go_simp
   exact hK _ _ (Below.refl _ _) rfl
  ·intro t wq hbq hh K hK
   have e40 := hh.1
   simp only [pick] at e40
   replace e40 : t 40 = (.bool d5) := e40
   clear hh
   simp only [filled, aj, upd, Have, is, any, row, pick, Act.put, List.setIfInBounds_toArray, List.set_cons_zero, List.set_cons_succ, Nat.reduceAdd, Nat.reduceEqDiff, reduceIte, fH] at hK ⊢
   cases d5 with
   | true =>
    simp only [e40] at hK ⊢
    go_simp
    exact hK _ _ (Below.refl _ _) ⟨(fun h => by cases h), fun _ => rfl⟩
   | false =>
    simp only [e40] at hK ⊢
    go_simp
    exact hK _ _ (Below.refl _ _) ⟨fun _ => rfl, fun h => by cases h⟩
  ·intro t wq hbq hh K hK
   have e40 := hh.1
   simp only [pick] at e40
   replace e40 : t 40 = (.bool d5) := e40
   have e41 := hh.2.1
   simp only [pick] at e41
   replace e41 : ((!d5) = true → t 41 = (.pointer (some ⟨w.heap.size, 9, none⟩))) ∧ ((!d5) = false → t 41 = undef) := e41
   clear hh
   simp only [filled, aj, upd, Have, is, any, row, pick, Act.put, List.setIfInBounds_toArray, List.set_cons_zero, List.set_cons_succ, Nat.reduceAdd, Nat.reduceEqDiff, reduceIte, fH] at hK ⊢
   cases d5 with
   | true =>
    replace e41 := e41.2 rfl
    simp only [e40, e41] at hK ⊢
    go_simp
    exact hK _ _ (Below.refl _ _) ⟨(fun h => by cases h), fun _ => rfl⟩
   | false =>
    replace e41 := e41.1 rfl
    simp only [e40, e41] at hK ⊢
    have hc := (Bx.cell ((hbq.block _ (by omega)).trans kP.out) 9).trans (show _ = some (.bool rF) from rfl)
    go_simp
    exact hK _ _ (Below.refl _ _) ⟨fun _ => rfl, fun h => by cases h⟩
  ·intro t wq hbq hh K hK
   have e40 := hh.1
   simp only [pick] at e40
   replace e40 : t 40 = (.bool d5) := e40
   clear hh
   simp only [filled, aj, upd, Have, is, any, row, pick, Act.put, List.setIfInBounds_toArray, List.set_cons_zero, List.set_cons_succ, Nat.reduceAdd, Nat.reduceEqDiff, reduceIte, fH] at hK ⊢
   cases d5 with
   | true =>
    simp only [e40] at hK ⊢
    go_simp
    exact hK _ _ (Below.refl _ _) ⟨(fun h => by cases h), fun _ => rfl⟩
   | false =>
    simp only [e40] at hK ⊢
    go_simp
    exact hK _ _ (Below.refl _ _) ⟨fun _ => rfl, fun h => by cases h⟩
  ·intro t wq hbq hh K hK
   have e40 := hh.1
   simp only [pick] at e40
   replace e40 : t 40 = (.bool d5) := e40
   have e43 := hh.2.1
   simp only [pick] at e43
   replace e43 : ((!d5) = true → t 43 = (.pointer (some ⟨w.heap.size + 1, 9, none⟩))) ∧ ((!d5) = false → t 43 = undef) := e43
   clear hh
   simp only [filled, aj, upd, Have, is, any, row, pick, Act.put, List.setIfInBounds_toArray, List.set_cons_zero, List.set_cons_succ, Nat.reduceAdd, Nat.reduceEqDiff, reduceIte, fH] at hK ⊢
   cases d5 with
   | true =>
    replace e43 := e43.2 rfl
    simp only [e40, e43] at hK ⊢
    go_simp
    exact hK _ _ (Below.refl _ _) ⟨(fun h => by cases h), fun _ => rfl⟩
   | false =>
    replace e43 := e43.1 rfl
    simp only [e40, e43] at hK ⊢
    have hc := (Bx.cell ((hbq.block _ hlt0).trans gY.out) 9).trans (show _ = some (.bool Xm) from rfl)
    go_simp
    exact hK _ _ (Below.refl _ _) ⟨fun _ => rfl, fun h => by cases h⟩
  ·intro t wq hbq hh K hK
   have e40 := hh.1
   simp only [pick] at e40
   replace e40 : t 40 = (.bool d5) := e40
   have e42 := hh.2.1
   simp only [pick] at e42
   replace e42 : ((!d5) = true → t 42 = (.bool rF)) ∧ ((!d5) = false → t 42 = undef) := e42
   have e44 := hh.2.2.1
   simp only [pick] at e44
   replace e44 : ((!d5) = true → t 44 = (.bool Xm)) ∧ ((!d5) = false → t 44 = undef) := e44
   clear hh
   simp only [filled, aj, upd, Have, is, any, row, pick, Act.put, List.setIfInBounds_toArray, List.set_cons_zero, List.set_cons_succ, Nat.reduceAdd, Nat.reduceEqDiff, reduceIte, fH] at hK ⊢
   cases d5 with
   | true =>
    replace e42 := e42.2 rfl
    replace e44 := e44.2 rfl
    simp only [e40, e42, e44] at hK ⊢
    go_simp
    exact hK _ _ (Below.refl _ _) ⟨(fun h => by cases h), fun _ => rfl⟩
   | false =>
    replace e42 := e42.1 rfl
    replace e44 := e44.1 rfl
    simp only [e40, e42, e44] at hK ⊢
    go_simp
    exact hK _ _ (Below.refl _ _) ⟨fun _ => congrArg Value.bool (by first | exact HN6.out | (rw [← HN6.out]; rfl) | (rw [← HN6.out]; cases rF <;> cases Xm <;> rfl)), fun h => by cases h⟩
  ·intro t wq hbq hh K hK
   have e40 := hh.1
   simp only [pick] at e40
   replace e40 : t 40 = (.bool d5) := e40
   have e45 := hh.2.1
   simp only [pick] at e45
   replace e45 : ((!d5) = true → t 45 = (.bool n6)) ∧ ((!d5) = false → t 45 = undef) := e45
   clear hh
   simp only [filled, aj, upd, Have, is, any, row, pick, Act.put, List.setIfInBounds_toArray, List.set_cons_zero, List.set_cons_succ, Nat.reduceAdd, Nat.reduceEqDiff, reduceIte, fH] at hK ⊢
   cases d5 with
   | true =>
    replace e45 := e45.2 rfl
    simp only [e40, e45] at hK ⊢
    go_simp
    exact hK _ _ (Below.refl _ _) (by show _ = _; rw [HD6.out]; simp)
   | false =>
    replace e45 := e45.1 rfl
    simp only [e40, e45] at hK ⊢
    go_simp
    exact hK _ _ (Below.refl _ _) (by show _ = _; rw [HD6.out]; simp)
  ·intro t wq hbq hh K hK
   have e46 := hh.1
   simp only [pick] at e46
   replace e46 : t 46 = (.bool d6) := e46
   clear hh
   simp only [filled, aj, upd, Have, is, any, row, pick, Act.put, List.setIfInBounds_toArray, List.set_cons_zero, List.set_cons_succ, Nat.reduceAdd, Nat.reduceEqDiff, reduceIte, fH] at hK ⊢
   simp only [e46] at hK ⊢
   go_simp
   exact hK _ _ (Below.refl _ _) rfl
  ·intro t wq hbq hh K hK
   have e47 := hh.1
   simp only [pick] at e47
   replace e47 : t 47 = (.bool d6) := e47
   clear hh
   simp only [filled, aj, upd, Have, is, any, row, pick, Act.put, List.setIfInBounds_toArray, List.set_cons_zero, List.set_cons_succ, Nat.reduceAdd, Nat.reduceEqDiff, reduceIte, fH] at hK ⊢
   cases d6 with
   | true =>
    simp only [e47] at hK ⊢
    go_simp
    exact hK _ _ (Below.refl _ _) ⟨(fun h => by cases h), fun _ => rfl⟩
   | false =>
    simp only [e47] at hK ⊢
    go_simp
    exact hK _ _ (Below.refl _ _) ⟨fun _ => rfl, fun h => by cases h⟩
  ·intro t wq hbq hh K hK
   have e47 := hh.1
   simp only [pick] at e47
   replace e47 : t 47 = (.bool d6) := e47
   have e48 := hh.2.1
   simp only [pick] at e48
   replace e48 : ((!d6) = true → t 48 = (.pointer (some ⟨w.heap.size, 10, none⟩))) ∧ ((!d6) = false → t 48 = undef) := e48
   clear hh
   simp only [filled, aj, upd, Have, is, any, row, pick, Act.put, List.setIfInBounds_toArray, List.set_cons_zero, List.set_cons_succ, Nat.reduceAdd, Nat.reduceEqDiff, reduceIte, fH] at hK ⊢
   cases d6 with
   | true =>
    replace e48 := e48.2 rfl
    simp only [e47, e48] at hK ⊢
    go_simp
    exact hK _ _ (Below.refl _ _) ⟨(fun h => by cases h), fun _ => rfl⟩
   | false =>
    replace e48 := e48.1 rfl
    simp only [e47, e48] at hK ⊢
    have hc := (Bx.cell ((hbq.block _ (by omega)).trans kP.out) 10).trans (show _ = some (.bool iJ) from rfl)
    go_simp
    exact hK _ _ (Below.refl _ _) ⟨fun _ => rfl, fun h => by cases h⟩
  ·intro t wq hbq hh K hK
   have e47 := hh.1
   simp only [pick] at e47
   replace e47 : t 47 = (.bool d6) := e47
   clear hh
   simp only [filled, aj, upd, Have, is, any, row, pick, Act.put, List.setIfInBounds_toArray, List.set_cons_zero, List.set_cons_succ, Nat.reduceAdd, Nat.reduceEqDiff, reduceIte, fH] at hK ⊢
   cases d6 with
   | true =>
    simp only [e47] at hK ⊢
    go_simp
    exact hK _ _ (Below.refl _ _) ⟨(fun h => by cases h), fun _ => rfl⟩
   | false =>
    simp only [e47] at hK ⊢
    go_simp
    exact hK _ _ (Below.refl _ _) ⟨fun _ => rfl, fun h => by cases h⟩
  ·intro t wq hbq hh K hK
   have e47 := hh.1
   simp only [pick] at e47
   replace e47 : t 47 = (.bool d6) := e47
   have e50 := hh.2.1
   simp only [pick] at e50
   replace e50 : ((!d6) = true → t 50 = (.pointer (some ⟨w.heap.size + 1, 10, none⟩))) ∧ ((!d6) = false → t 50 = undef) := e50
   clear hh
   simp only [filled, aj, upd, Have, is, any, row, pick, Act.put, List.setIfInBounds_toArray, List.set_cons_zero, List.set_cons_succ, Nat.reduceAdd, Nat.reduceEqDiff, reduceIte, fH] at hK ⊢
   cases d6 with
   | true =>
    replace e50 := e50.2 rfl
    simp only [e47, e50] at hK ⊢
    go_simp
    exact hK _ _ (Below.refl _ _) ⟨(fun h => by cases h), fun _ => rfl⟩
   | false =>
    replace e50 := e50.1 rfl
    simp only [e47, e50] at hK ⊢
    have hc := (Bx.cell ((hbq.block _ hlt0).trans gY.out) 10).trans (show _ = some (.bool zM) from rfl)
    go_simp
    exact hK _ _ (Below.refl _ _) ⟨fun _ => rfl, fun h => by cases h⟩
  ·intro t wq hbq hh K hK
   have e47 := hh.1
   simp only [pick] at e47
   replace e47 : t 47 = (.bool d6) := e47
   have e49 := hh.2.1
   simp only [pick] at e49
   replace e49 : ((!d6) = true → t 49 = (.bool iJ)) ∧ ((!d6) = false → t 49 = undef) := e49
   have e51 := hh.2.2.1
   simp only [pick] at e51
   replace e51 : ((!d6) = true → t 51 = (.bool zM)) ∧ ((!d6) = false → t 51 = undef) := e51
   clear hh
   simp only [filled, aj, upd, Have, is, any, row, pick, Act.put, List.setIfInBounds_toArray, List.set_cons_zero, List.set_cons_succ, Nat.reduceAdd, Nat.reduceEqDiff, reduceIte, fH] at hK ⊢
   cases d6 with
   | true =>
    replace e49 := e49.2 rfl
    replace e51 := e51.2 rfl
    simp only [e47, e49, e51] at hK ⊢
    go_simp
    exact hK _ _ (Below.refl _ _) ⟨(fun h => by cases h), fun _ => rfl⟩
   | false =>
    replace e49 := e49.1 rfl
    replace e51 := e51.1 rfl
    simp only [e47, e49, e51] at hK ⊢
    go_simp
    exact hK _ _ (Below.refl _ _) ⟨fun _ => congrArg Value.bool (by first | exact HN7.out | (rw [← HN7.out]; rfl) | (rw [← HN7.out]; cases iJ <;> cases zM <;> rfl)), fun h => by cases h⟩
  ·intro t wq hbq hh K hK
   have e47 := hh.1
   simp only [pick] at e47
   replace e47 : t 47 = (.bool d6) := e47
   have e52 := hh.2.1
   simp only [pick] at e52
   replace e52 : ((!d6) = true → t 52 = (.bool n7)) ∧ ((!d6) = false → t 52 = undef) := e52
   clear hh
   simp only [filled, aj, upd, Have, is, any, row, pick, Act.put, List.setIfInBounds_toArray, List.set_cons_zero, List.set_cons_succ, Nat.reduceAdd, Nat.reduceEqDiff, reduceIte, fH] at hK ⊢
   cases d6 with
   | true =>
    replace e52 := e52.2 rfl
    simp only [e47, e52] at hK ⊢
    go_simp
    exact hK _ _ (Below.refl _ _) (by show _ = _; rw [HD7.out]; simp)
   | false =>
    replace e52 := e52.1 rfl
    simp only [e47, e52] at hK ⊢
    go_simp
    exact hK _ _ (Below.refl _ _) (by show _ = _; rw [HD7.out]; simp)
 ·intro t wq hbq hh
  have f53 := aB hh 53 (by decide)
  simp only [pick] at f53
  replace f53 : t 53 = (.bool d7) := f53
  clear hh
  simp only [List.length_cons, List.length_nil, Nat.reduceAdd, filled, aj, upd, Have, is, any, row, pick, Act.put, List.setIfInBounds_toArray, List.set_cons_zero, List.set_cons_succ, Nat.reduceAdd, Nat.reduceEqDiff, reduceIte, fH]
  simp only [f53]
  have HB4 := hid (HB0.out.trans (hbq.mono HB0.out.size))
  have jI := hid ((hbq.block _ (by omega)).trans kP.out)
  have JQ := hid ((hbq.block _ hlt0).trans gY.out)
  have hlt4 : w.heap.size + 1 < wq.heap.size := Nat.lt_of_lt_of_le hlt0 hbq.size
  cases d7 with
  | true =>
   have HE : Hid (E = false) := by show _ = _; rw [Tz.out]; simp
   go_wp2
   go_ret
   exact ⟨ak HE.out.symm, HB4.out⟩
  | false =>
   clear hbq
   go_upto_region 3 with (fail)
   refine FZ [is (.pointer (some ⟨w.heap.size, 4, none⟩)), is (.bool rE), is (.bool rE), fH (rE) (is (.pointer (some ⟨w.heap.size, 3, none⟩))), fH (rE) (is (.string YQ)), fH (rE) (is (.pointer (some ⟨w.heap.size + 1, 3, none⟩))), fH (rE) (is (.string YR)), fH (rE) (is (.bool m3)), is (.bool x1), is (.bool x1), fH (!x1) (is (.pointer (some ⟨w.heap.size, 9, none⟩))), fH (!x1) (is (.bool rF)), fH (!x1) (is (.bool rF)), fH (!x1 && rF) (is (.pointer (some ⟨w.heap.size, 11, none⟩))), fH (!x1 && rF) (is (.string BJ)), fH (!x1 && rF) (is (.pointer (some ⟨w.heap.size + 1, 11, none⟩))), fH (!x1 && rF) (is (.string BO)), fH (!x1 && rF) (is (.bool m11)), fH (!x1) (is (.bool y1)), is (.bool x2), is (.bool x2), fH (!x2) (is (.pointer (some ⟨w.heap.size, 10, none⟩))), fH (!x2) (is (.bool iJ)), fH (!x2) (is (.bool iJ)), fH (!x2 && iJ) (is (.pointer (some ⟨w.heap.size, 12, none⟩))), fH (!x2 && iJ) (is (.string BK)), fH (!x2 && iJ) (is (.pointer (some ⟨w.heap.size + 1, 12, none⟩))), fH (!x2 && iJ) (is (.string BP)), fH (!x2 && iJ) (is (.bool m12)), fH (!x2) (is (.bool z1)), is (.bool x3)] [[], [0], [1], [2], [2, 3], [2], [2, 5], [2, 4, 6], [2, 7], [8], [9], [9, 10], [9, 11], [12], [12, 13], [12], [12, 15], [12, 14, 16], [9, 12, 17], [9, 18], [19], [20], [20, 21], [20, 22], [23], [23, 24], [23], [23, 26], [23, 25, 27], [20, 23, 28], [20, 29]] (by kernel_rfl) ?_ ?_
   ·refine ⟨?_, ?_, ?_, ?_, ?_, ?_, ?_, ?_, ?_, ?_, ?_, ?_, ?_, ?_, ?_, ?_, ?_, ?_, ?_, ?_, ?_, ?_, ?_, ?_, ?_, ?_, ?_, ?_, ?_, ?_, ?_, trivial⟩
    ·intro t wq hbq hh K hK
     clear hh
     simp only [filled, aj, upd, Have, is, any, row, pick, Act.put, List.setIfInBounds_toArray, List.set_cons_zero, List.set_cons_succ, Nat.reduceAdd, Nat.reduceEqDiff, reduceIte, fH] at hK ⊢
     go_simp
     exact hK _ _ (Below.refl _ _) rfl
    ·intro t wq hbq hh K hK
     have e0 := hh.1
     simp only [pick] at e0
     replace e0 : t 0 = (.pointer (some ⟨w.heap.size, 4, none⟩)) := e0
     clear hh
     simp only [filled, aj, upd, Have, is, any, row, pick, Act.put, List.setIfInBounds_toArray, List.set_cons_zero, List.set_cons_succ, Nat.reduceAdd, Nat.reduceEqDiff, reduceIte, fH] at hK ⊢
     simp only [e0] at hK ⊢
     have hc := (Bx.cell ((hbq.block _ (by omega)).trans jI.out) 4).trans (show _ = some (.bool rE) from rfl)
     go_simp
     exact hK _ _ (Below.refl _ _) rfl
    ·intro t wq hbq hh K hK
     have e1 := hh.1
     simp only [pick] at e1
     replace e1 : t 1 = (.bool rE) := e1
     clear hh
     simp only [filled, aj, upd, Have, is, any, row, pick, Act.put, List.setIfInBounds_toArray, List.set_cons_zero, List.set_cons_succ, Nat.reduceAdd, Nat.reduceEqDiff, reduceIte, fH] at hK ⊢
     simp only [e1] at hK ⊢
     go_simp
     exact hK _ _ (Below.refl _ _) rfl
    ·intro t wq hbq hh K hK
     have e2 := hh.1
     simp only [pick] at e2
     replace e2 : t 2 = (.bool rE) := e2
     clear hh
     simp only [filled, aj, upd, Have, is, any, row, pick, Act.put, List.setIfInBounds_toArray, List.set_cons_zero, List.set_cons_succ, Nat.reduceAdd, Nat.reduceEqDiff, reduceIte, fH] at hK ⊢
     cases rE with
     | true =>
      simp only [e2] at hK ⊢
      go_simp
      exact hK _ _ (Below.refl _ _) ⟨fun _ => rfl, fun h => by cases h⟩
     | false =>
      simp only [e2] at hK ⊢
      go_simp
      exact hK _ _ (Below.refl _ _) ⟨(fun h => by cases h), fun _ => rfl⟩
    ·intro t wq hbq hh K hK
     have e2 := hh.1
     simp only [pick] at e2
     replace e2 : t 2 = (.bool rE) := e2
     have e3 := hh.2.1
     simp only [pick] at e3
     replace e3 : ((rE) = true → t 3 = (.pointer (some ⟨w.heap.size, 3, none⟩))) ∧ ((rE) = false → t 3 = undef) := e3
     clear hh
     simp only [filled, aj, upd, Have, is, any, row, pick, Act.put, List.setIfInBounds_toArray, List.set_cons_zero, List.set_cons_succ, Nat.reduceAdd, Nat.reduceEqDiff, reduceIte, fH] at hK ⊢
     cases rE with
     | true =>
      replace e3 := e3.1 rfl
      simp only [e2, e3] at hK ⊢
      have hc := (Bx.cell ((hbq.block _ (by omega)).trans jI.out) 3).trans (show _ = some (.string YQ) from rfl)
      go_simp
      exact hK _ _ (Below.refl _ _) ⟨fun _ => rfl, fun h => by cases h⟩
     | false =>
      replace e3 := e3.2 rfl
      simp only [e2, e3] at hK ⊢
      go_simp
      exact hK _ _ (Below.refl _ _) ⟨(fun h => by cases h), fun _ => rfl⟩
    ·intro t wq hbq hh K hK
     have e2 := hh.1
     simp only [pick] at e2
     replace e2 : t 2 = (.bool rE) := e2
     clear hh
     simp only [filled, aj, upd, Have, is, any, row, pick, Act.put, List.setIfInBounds_toArray, List.set_cons_zero, List.set_cons_succ, Nat.reduceAdd, Nat.reduceEqDiff, reduceIte, fH] at hK ⊢
     cases rE with
     | true =>
      simp only [e2] at hK ⊢
      go_simp
      exact hK _ _ (Below.refl _ _) ⟨fun _ => rfl, fun h => by cases h⟩
     | false =>
      simp only [e2] at hK ⊢
      go_simp
      exact hK _ _ (Below.refl _ _) ⟨(fun h => by cases h), fun _ => rfl⟩
    ·intro t wq hbq hh K hK
     have e2 := hh.1
     simp only [pick] at e2
     replace e2 : t 2 = (.bool rE) := e2
     have e5 := hh.2.1
     simp only [pick] at e5
     replace e5 : ((rE) = true → t 5 = (.pointer (some ⟨w.heap.size + 1, 3, none⟩))) ∧ ((rE) = false → t 5 = undef) := e5
     clear hh
     simp only [filled, aj, upd, Have, is, any, row, pick, Act.put, List.setIfInBounds_toArray, List.set_cons_zero, List.set_cons_succ, Nat.reduceAdd, Nat.reduceEqDiff, reduceIte, fH] at hK ⊢
     cases rE with
     | true =>
      replace e5 := e5.1 rfl
      simp only [e2, e5] at hK ⊢
      have hc := (Bx.cell ((hbq.block _ hlt4).trans JQ.out) 3).trans (show _ = some (.string YR) from rfl)
      go_simp
      exact hK _ _ (Below.refl _ _) ⟨fun _ => rfl, fun h => by cases h⟩
     | false =>
      replace e5 := e5.2 rfl
      simp only [e2, e5] at hK ⊢
      go_simp
      exact hK _ _ (Below.refl _ _) ⟨(fun h => by cases h), fun _ => rfl⟩
    ·intro t wq hbq hh K hK
     have e2 := hh.1
     simp only [pick] at e2
     replace e2 : t 2 = (.bool rE) := e2
     have e4 := hh.2.1
     simp only [pick] at e4
     replace e4 : ((rE) = true → t 4 = (.string YQ)) ∧ ((rE) = false → t 4 = undef) := e4
     have e6 := hh.2.2.1
     simp only [pick] at e6
     replace e6 : ((rE) = true → t 6 = (.string YR)) ∧ ((rE) = false → t 6 = undef) := e6
     clear hh
     simp only [filled, aj, upd, Have, is, any, row, pick, Act.put, List.setIfInBounds_toArray, List.set_cons_zero, List.set_cons_succ, Nat.reduceAdd, Nat.reduceEqDiff, reduceIte, fH] at hK ⊢
     cases rE with
     | true =>
      replace e4 := e4.1 rfl
      replace e6 := e6.1 rfl
      simp only [e2, e4, e6] at hK ⊢
      go_simp
      exact hK _ _ (Below.refl _ _) ⟨fun _ => congrArg Value.bool HM3.out, fun h => by cases h⟩
     | false =>
      replace e4 := e4.2 rfl
      replace e6 := e6.2 rfl
      simp only [e2, e4, e6] at hK ⊢
      go_simp
      exact hK _ _ (Below.refl _ _) ⟨(fun h => by cases h), fun _ => rfl⟩
    ·intro t wq hbq hh K hK
     have e2 := hh.1
     simp only [pick] at e2
     replace e2 : t 2 = (.bool rE) := e2
     have e7 := hh.2.1
     simp only [pick] at e7
     replace e7 : ((rE) = true → t 7 = (.bool m3)) ∧ ((rE) = false → t 7 = undef) := e7
     clear hh
     simp only [filled, aj, upd, Have, is, any, row, pick, Act.put, List.setIfInBounds_toArray, List.set_cons_zero, List.set_cons_succ, Nat.reduceAdd, Nat.reduceEqDiff, reduceIte, fH] at hK ⊢
     cases rE with
     | true =>
      replace e7 := e7.1 rfl
      simp only [e2, e7] at hK ⊢
      go_simp
      exact hK _ _ (Below.refl _ _) (by show _ = _; rw [yc.out]; simp)
     | false =>
      replace e7 := e7.2 rfl
      simp only [e2, e7] at hK ⊢
      go_simp
      exact hK _ _ (Below.refl _ _) (by show _ = _; rw [yc.out]; simp)
    ·intro t wq hbq hh K hK
     have e8 := hh.1
     simp only [pick] at e8
     replace e8 : t 8 = (.bool x1) := e8
     clear hh
     simp only [filled, aj, upd, Have, is, any, row, pick, Act.put, List.setIfInBounds_toArray, List.set_cons_zero, List.set_cons_succ, Nat.reduceAdd, Nat.reduceEqDiff, reduceIte, fH] at hK ⊢
     simp only [e8] at hK ⊢
     go_simp
     exact hK _ _ (Below.refl _ _) rfl
    ·intro t wq hbq hh K hK
     have e9 := hh.1
     simp only [pick] at e9
     replace e9 : t 9 = (.bool x1) := e9
     clear hh
     simp only [filled, aj, upd, Have, is, any, row, pick, Act.put, List.setIfInBounds_toArray, List.set_cons_zero, List.set_cons_succ, Nat.reduceAdd, Nat.reduceEqDiff, reduceIte, fH] at hK ⊢
     cases x1 with
     | true =>
      simp only [e9] at hK ⊢
      go_simp
      exact hK _ _ (Below.refl _ _) ⟨(fun h => by cases h), fun _ => rfl⟩
     | false =>
      simp only [e9] at hK ⊢
      go_simp
      exact hK _ _ (Below.refl _ _) ⟨fun _ => rfl, fun h => by cases h⟩
    ·intro t wq hbq hh K hK
     have e9 := hh.1
     simp only [pick] at e9
     replace e9 : t 9 = (.bool x1) := e9
     have e10 := hh.2.1
     simp only [pick] at e10
     replace e10 : ((!x1) = true → t 10 = (.pointer (some ⟨w.heap.size, 9, none⟩))) ∧ ((!x1) = false → t 10 = undef) := e10
     clear hh
     simp only [filled, aj, upd, Have, is, any, row, pick, Act.put, List.setIfInBounds_toArray, List.set_cons_zero, List.set_cons_succ, Nat.reduceAdd, Nat.reduceEqDiff, reduceIte, fH] at hK ⊢
     cases x1 with
     | true =>
      replace e10 := e10.2 rfl
      simp only [e9, e10] at hK ⊢
      go_simp
      exact hK _ _ (Below.refl _ _) ⟨(fun h => by cases h), fun _ => rfl⟩
     | false =>
      replace e10 := e10.1 rfl
      simp only [e9, e10] at hK ⊢
      have hc := (Bx.cell ((hbq.block _ (by omega)).trans jI.out) 9).trans (show _ = some (.bool rF) from rfl)
      go_simp
      exact hK _ _ (Below.refl _ _) ⟨fun _ => rfl, fun h => by cases h⟩
    ·intro t wq hbq hh K hK
     have e9 := hh.1
     simp only [pick] at e9
     replace e9 : t 9 = (.bool x1) := e9
     have e11 := hh.2.1
     simp only [pick] at e11
     replace e11 : ((!x1) = true → t 11 = (.bool rF)) ∧ ((!x1) = false → t 11 = undef) := e11
     clear hh
     simp only [filled, aj, upd, Have, is, any, row, pick, Act.put, List.setIfInBounds_toArray, List.set_cons_zero, List.set_cons_succ, Nat.reduceAdd, Nat.reduceEqDiff, reduceIte, fH] at hK ⊢
     cases x1 with
     | true =>
      replace e11 := e11.2 rfl
      simp only [e9, e11] at hK ⊢
      go_simp
      exact hK _ _ (Below.refl _ _) ⟨(fun h => by cases h), fun _ => rfl⟩
     | false =>
      replace e11 := e11.1 rfl
      simp only [e9, e11] at hK ⊢
      go_simp
      exact hK _ _ (Below.refl _ _) ⟨fun _ => rfl, fun h => by cases h⟩
    ·intro t wq hbq hh K hK
     have e12 := hh.1
     simp only [pick] at e12
     replace e12 : ((!x1) = true → t 12 = (.bool rF)) ∧ ((!x1) = false → t 12 = undef) := e12
     clear hh
     simp only [filled, aj, upd, Have, is, any, row, pick, Act.put, List.setIfInBounds_toArray, List.set_cons_zero, List.set_cons_succ, Nat.reduceAdd, Nat.reduceEqDiff, reduceIte, fH] at hK ⊢
     cases x1 with
     | true =>
      replace e12 := e12.2 rfl
      simp only [e12] at hK ⊢
      go_simp
      exact hK _ _ (Below.refl _ _) ⟨(fun h => by cases h), fun _ => rfl⟩
     | false =>
      cases rF with
      | true =>
       replace e12 := e12.1 rfl
       simp only [e12] at hK ⊢
       go_simp
       exact hK _ _ (Below.refl _ _) ⟨fun _ => rfl, fun h => by cases h⟩
      | false =>
       replace e12 := e12.1 rfl
       simp only [e12] at hK ⊢
       go_simp
       exact hK _ _ (Below.refl _ _) ⟨(fun h => by cases h), fun _ => rfl⟩
    ·intro t wq hbq hh K hK
     have e12 := hh.1
     simp only [pick] at e12
     replace e12 : ((!x1) = true → t 12 = (.bool rF)) ∧ ((!x1) = false → t 12 = undef) := e12
     have e13 := hh.2.1
     simp only [pick] at e13
     replace e13 : ((!x1 && rF) = true → t 13 = (.pointer (some ⟨w.heap.size, 11, none⟩))) ∧ ((!x1 && rF) = false → t 13 = undef) := e13
     clear hh
     simp only [filled, aj, upd, Have, is, any, row, pick, Act.put, List.setIfInBounds_toArray, List.set_cons_zero, List.set_cons_succ, Nat.reduceAdd, Nat.reduceEqDiff, reduceIte, fH] at hK ⊢
     cases x1 with
     | true =>
      replace e12 := e12.2 rfl
      replace e13 := e13.2 rfl
      simp only [e12, e13] at hK ⊢
      go_simp
      exact hK _ _ (Below.refl _ _) ⟨(fun h => by cases h), fun _ => rfl⟩
     | false =>
      cases rF with
      | true =>
       replace e12 := e12.1 rfl
       replace e13 := e13.1 rfl
       simp only [e12, e13] at hK ⊢
       have hc := (Bx.cell ((hbq.block _ (by omega)).trans jI.out) 11).trans (show _ = some (.string BJ) from rfl)
       go_simp
       exact hK _ _ (Below.refl _ _) ⟨fun _ => rfl, fun h => by cases h⟩
      | false =>
       replace e12 := e12.1 rfl
       replace e13 := e13.2 rfl
       simp only [e12, e13] at hK ⊢
       go_simp
       exact hK _ _ (Below.refl _ _) ⟨(fun h => by cases h), fun _ => rfl⟩
    ·intro t wq hbq hh K hK
     have e12 := hh.1
     simp only [pick] at e12
     replace e12 : ((!x1) = true → t 12 = (.bool rF)) ∧ ((!x1) = false → t 12 = undef) := e12
     clear hh
     simp only [filled, aj, upd, Have, is, any, row, pick, Act.put, List.setIfInBounds_toArray, List.set_cons_zero, List.set_cons_succ, Nat.reduceAdd, Nat.reduceEqDiff, reduceIte, fH] at hK ⊢
     cases x1 with
     | true =>
      replace e12 := e12.2 rfl
      simp only [e12] at hK ⊢
      go_simp
      exact hK _ _ (Below.refl _ _) ⟨(fun h => by cases h), fun _ => rfl⟩
     | false =>
      cases rF with
      | true =>
       replace e12 := e12.1 rfl
       simp only [e12] at hK ⊢
       go_simp
       exact hK _ _ (Below.refl _ _) ⟨fun _ => rfl, fun h => by cases h⟩
      | false =>
       replace e12 := e12.1 rfl
       simp only [e12] at hK ⊢
       go_simp
       exact hK _ _ (Below.refl _ _) ⟨(fun h => by cases h), fun _ => rfl⟩
    ·intro t wq hbq hh K hK
     have e12 := hh.1
     simp only [pick] at e12
     replace e12 : ((!x1) = true → t 12 = (.bool rF)) ∧ ((!x1) = false → t 12 = undef) := e12
     have e15 := hh.2.1
     simp only [pick] at e15
     replace e15 : ((!x1 && rF) = true → t 15 = (.pointer (some ⟨w.heap.size + 1, 11, none⟩))) ∧ ((!x1 && rF) = false → t 15 = undef) := e15
     clear hh
     simp only [filled, aj, upd, Have, is, any, row, pick, Act.put, List.setIfInBounds_toArray, List.set_cons_zero, List.set_cons_succ, Nat.reduceAdd, Nat.reduceEqDiff, reduceIte, fH] at hK ⊢
     cases x1 with
     | true =>
      replace e12 := e12.2 rfl
      replace e15 := e15.2 rfl
      simp only [e12, e15] at hK ⊢
      go_simp
      exact hK _ _ (Below.refl _ _) ⟨(fun h => by cases h), fun _ => rfl⟩
     | false =>
      cases rF with
      | true =>
       replace e12 := e12.1 rfl
       replace e15 := e15.1 rfl
       simp only [e12, e15] at hK ⊢
       have hc := (Bx.cell ((hbq.block _ hlt4).trans JQ.out) 11).trans (show _ = some (.string BO) from rfl)
       go_simp
       exact hK _ _ (Below.refl _ _) ⟨fun _ => rfl, fun h => by cases h⟩
      | false =>
       replace e12 := e12.1 rfl
       replace e15 := e15.2 rfl
       simp only [e12, e15] at hK ⊢
       go_simp
       exact hK _ _ (Below.refl _ _) ⟨(fun h => by cases h), fun _ => rfl⟩
    ·intro t wq hbq hh K hK
     have e12 := hh.1
     simp only [pick] at e12
     replace e12 : ((!x1) = true → t 12 = (.bool rF)) ∧ ((!x1) = false → t 12 = undef) := e12
     have e14 := hh.2.1
     simp only [pick] at e14
     replace e14 : ((!x1 && rF) = true → t 14 = (.string BJ)) ∧ ((!x1 && rF) = false → t 14 = undef) := e14
     have e16 := hh.2.2.1
     simp only [pick] at e16
     replace e16 : ((!x1 && rF) = true → t 16 = (.string BO)) ∧ ((!x1 && rF) = false → t 16 = undef) := e16
     clear hh
     simp only [filled, aj, upd, Have, is, any, row, pick, Act.put, List.setIfInBounds_toArray, List.set_cons_zero, List.set_cons_succ, Nat.reduceAdd, Nat.reduceEqDiff, reduceIte, fH] at hK ⊢
     cases x1 with
     | true =>
      replace e12 := e12.2 rfl
      replace e14 := e14.2 rfl
      replace e16 := e16.2 rfl
      simp only [e12, e14, e16] at hK ⊢
      go_simp
      exact hK _ _ (Below.refl _ _) ⟨(fun h => by cases h), fun _ => rfl⟩
     | false =>
      cases rF with
      | true =>
       replace e12 := e12.1 rfl
       replace e14 := e14.1 rfl
       replace e16 := e16.1 rfl
       simp only [e12, e14, e16] at hK ⊢
       go_simp
       exact hK _ _ (Below.refl _ _) ⟨fun _ => congrArg Value.bool HM11.out, fun h => by cases h⟩
      | false =>
       replace e12 := e12.1 rfl
       replace e14 := e14.2 rfl
       replace e16 := e16.2 rfl
       simp only [e12, e14, e16] at hK ⊢
       go_simp
       exact hK _ _ (Below.refl _ _) ⟨(fun h => by cases h), fun _ => rfl⟩
    ·intro t wq hbq hh K hK
     have e9 := hh.1
     simp only [pick] at e9
     replace e9 : t 9 = (.bool x1) := e9
     have e12 := hh.2.1
     simp only [pick] at e12
     replace e12 : ((!x1) = true → t 12 = (.bool rF)) ∧ ((!x1) = false → t 12 = undef) := e12
     have e17 := hh.2.2.1
     simp only [pick] at e17
     replace e17 : ((!x1 && rF) = true → t 17 = (.bool m11)) ∧ ((!x1 && rF) = false → t 17 = undef) := e17
     clear hh
     simp only [filled, aj, upd, Have, is, any, row, pick, Act.put, List.setIfInBounds_toArray, List.set_cons_zero, List.set_cons_succ, Nat.reduceAdd, Nat.reduceEqDiff, reduceIte, fH] at hK ⊢
     cases x1 with
     | true =>
      replace e12 := e12.2 rfl
      replace e17 := e17.2 rfl
      simp only [e9, e12, e17] at hK ⊢
      go_simp
      exact hK _ _ (Below.refl _ _) ⟨(fun h => by cases h), fun _ => rfl⟩
     | false =>
      cases rF with
      | true =>
       replace e12 := e12.1 rfl
       replace e17 := e17.1 rfl
       simp only [e9, e12, e17] at hK ⊢
       go_simp
       exact hK _ _ (Below.refl _ _) ⟨fun _ => by show _ = _; rw [HP2.out]; simp, fun h => by cases h⟩
      | false =>
       replace e12 := e12.1 rfl
       replace e17 := e17.2 rfl
       simp only [e9, e12, e17] at hK ⊢
       go_simp
       exact hK _ _ (Below.refl _ _) ⟨fun _ => by show _ = _; rw [HP2.out]; simp, fun h => by cases h⟩
    ·intro t wq hbq hh K hK
     have e9 := hh.1
     simp only [pick] at e9
     replace e9 : t 9 = (.bool x1) := e9
     have e18 := hh.2.1
     simp only [pick] at e18
     replace e18 : ((!x1) = true → t 18 = (.bool y1)) ∧ ((!x1) = false → t 18 = undef) := e18
     clear hh
     simp only [filled, aj, upd, Have, is, any, row, pick, Act.put, List.setIfInBounds_toArray, List.set_cons_zero, List.set_cons_succ, Nat.reduceAdd, Nat.reduceEqDiff, reduceIte, fH] at hK ⊢
     cases x1 with
     | true =>
      replace e18 := e18.2 rfl
      simp only [e9, e18] at hK ⊢
      go_simp
      exact hK _ _ (Below.refl _ _) (by show _ = _; rw [Zb.out]; simp)
     | false =>
      replace e18 := e18.1 rfl
      simp only [e9, e18] at hK ⊢
      go_simp
      exact hK _ _ (Below.refl _ _) (by show _ = _; rw [Zb.out]; simp)
    ·intro t wq hbq hh K hK
     have e19 := hh.1
     simp only [pick] at e19
     replace e19 : t 19 = (.bool x2) := e19
     clear hh
     simp only [filled, aj, upd, Have, is, any, row, pick, Act.put, List.setIfInBounds_toArray, List.set_cons_zero, List.set_cons_succ, Nat.reduceAdd, Nat.reduceEqDiff, reduceIte, fH] at hK ⊢
     simp only [e19] at hK ⊢
     go_simp
     exact hK _ _ (Below.refl _ _) rfl
    ·intro t wq hbq hh K hK
     have e20 := hh.1
     simp only [pick] at e20
     replace e20 : t 20 = (.bool x2) := e20
     clear hh
     simp only [filled, aj, upd, Have, is, any, row, pick, Act.put, List.setIfInBounds_toArray, List.set_cons_zero, List.set_cons_succ, Nat.reduceAdd, Nat.reduceEqDiff, reduceIte, fH] at hK ⊢
     cases x2 with
     | true =>
      simp only [e20] at hK ⊢
      go_simp
      exact hK _ _ (Below.refl _ _) ⟨(fun h => by cases h), fun _ => rfl⟩
     | false =>
      simp only [e20] at hK ⊢
      go_simp
      exact hK _ _ (Below.refl _ _) ⟨fun _ => rfl, fun h => by cases h⟩
    ·intro t wq hbq hh K hK
     have e20 := hh.1
     simp only [pick] at e20
     replace e20 : t 20 = (.bool x2) := e20
     have e21 := hh.2.1
     simp only [pick] at e21
     replace e21 : ((!x2) = true → t 21 = (.pointer (some ⟨w.heap.size, 10, none⟩))) ∧ ((!x2) = false → t 21 = undef) := e21
     clear hh
     simp only [filled, aj, upd, Have, is, any, row, pick, Act.put, List.setIfInBounds_toArray, List.set_cons_zero, List.set_cons_succ, Nat.reduceAdd, Nat.reduceEqDiff, reduceIte, fH] at hK ⊢
     cases x2 with
     | true =>
      replace e21 := e21.2 rfl
      simp only [e20, e21] at hK ⊢
      go_simp
      exact hK _ _ (Below.refl _ _) ⟨(fun h => by cases h), fun _ => rfl⟩
     | false =>
      replace e21 := e21.1 rfl
      simp only [e20, e21] at hK ⊢
      have hc := (Bx.cell ((hbq.block _ (by omega)).trans jI.out) 10).trans (show _ = some (.bool iJ) from rfl)
      go_simp
      exact hK _ _ (Below.refl _ _) ⟨fun _ => rfl, fun h => by cases h⟩
    ·intro t wq hbq hh K hK
     have e20 := hh.1
     simp only [pick] at e20
     replace e20 : t 20 = (.bool x2) := e20
     have e22 := hh.2.1
     simp only [pick] at e22
     replace e22 : ((!x2) = true → t 22 = (.bool iJ)) ∧ ((!x2) = false → t 22 = undef) := e22
     clear hh
     simp only [filled, aj, upd, Have, is, any, row, pick, Act.put, List.setIfInBounds_toArray, List.set_cons_zero, List.set_cons_succ, Nat.reduceAdd, Nat.reduceEqDiff, reduceIte, fH] at hK ⊢
     cases x2 with
     | true =>
      replace e22 := e22.2 rfl
      simp only [e20, e22] at hK ⊢
      go_simp
      exact hK _ _ (Below.refl _ _) ⟨(fun h => by cases h), fun _ => rfl⟩
     | false =>
      replace e22 := e22.1 rfl
      simp only [e20, e22] at hK ⊢
      go_simp
      exact hK _ _ (Below.refl _ _) ⟨fun _ => rfl, fun h => by cases h⟩
    ·intro t wq hbq hh K hK
     have e23 := hh.1
     simp only [pick] at e23
     replace e23 : ((!x2) = true → t 23 = (.bool iJ)) ∧ ((!x2) = false → t 23 = undef) := e23
     clear hh
     simp only [filled, aj, upd, Have, is, any, row, pick, Act.put, List.setIfInBounds_toArray, List.set_cons_zero, List.set_cons_succ, Nat.reduceAdd, Nat.reduceEqDiff, reduceIte, fH] at hK ⊢
     cases x2 with
     | true =>
      replace e23 := e23.2 rfl
      simp only [e23] at hK ⊢
      go_simp
      exact hK _ _ (Below.refl _ _) ⟨(fun h => by cases h), fun _ => rfl⟩
     | false =>
      cases iJ with
      | true =>
       replace e23 := e23.1 rfl
       simp only [e23] at hK ⊢
       go_simp
       exact hK _ _ (Below.refl _ _) ⟨fun _ => rfl, fun h => by cases h⟩
      | false =>
       replace e23 := e23.1 rfl
       simp only [e23] at hK ⊢
       go_simp
       exact hK _ _ (Below.refl _ _) ⟨(fun h => by cases h), fun _ => rfl⟩
    ·intro t wq hbq hh K hK
     have e23 := hh.1
     simp only [pick] at e23
     replace e23 : ((!x2) = true → t 23 = (.bool iJ)) ∧ ((!x2) = false → t 23 = undef) := e23
     have e24 := hh.2.1
     simp only [pick] at e24
     replace e24 : ((!x2 && iJ) = true → t 24 = (.pointer (some ⟨w.heap.size, 12, none⟩))) ∧ ((!x2 && iJ) = false → t 24 = undef) := e24
     clear hh
     simp only [filled, aj, upd, Have, is, any, row, pick, Act.put, List.setIfInBounds_toArray, List.set_cons_zero, List.set_cons_succ, Nat.reduceAdd, Nat.reduceEqDiff, reduceIte, fH] at hK ⊢
     cases x2 with
     | true =>
      replace e23 := e23.2 rfl
      replace e24 := e24.2 rfl
      simp only [e23, e24] at hK ⊢
      go_simp
      exact hK _ _ (Below.refl _ _) ⟨(fun h => by cases h), fun _ => rfl⟩
     | false =>
      cases iJ with
      | true =>
       replace e23 := e23.1 rfl
       replace e24 := e24.1 rfl
       simp only [e23, e24] at hK ⊢
       have hc := (Bx.cell ((hbq.block _ (by omega)).trans jI.out) 12).trans (show _ = some (.string BK) from rfl)
       go_simp
       exact hK _ _ (Below.refl _ _) ⟨fun _ => rfl, fun h => by cases h⟩
      | false =>
       replace e23 := e23.1 rfl
       replace e24 := e24.2 rfl
       simp only [e23, e24] at hK ⊢
       go_simp
       exact hK _ _ (Below.refl _ _) ⟨(fun h => by cases h), fun _ => rfl⟩
    ·intro t wq hbq hh K hK
     have e23 := hh.1
     simp only [pick] at e23
     replace e23 : ((!x2) = true → t 23 = (.bool iJ)) ∧ ((!x2) = false → t 23 = undef) := e23
     clear hh
     simp only [filled, aj, upd, Have, is, any, row, pick, Act.put, List.setIfInBounds_toArray, List.set_cons_zero, List.set_cons_succ, Nat.reduceAdd, Nat.reduceEqDiff, reduceIte, fH] at hK ⊢
     cases x2 with
     | true =>
      replace e23 := e23.2 rfl
      simp only [e23] at hK ⊢
      go_simp
      exact hK _ _ (Below.refl _ _) ⟨(fun h => by cases h), fun _ => rfl⟩
     | false =>
      cases iJ with
      | true =>
       replace e23 := e23.1 rfl
       simp only [e23] at hK ⊢
       go_simp
       exact hK _ _ (Below.refl _ _) ⟨fun _ => rfl, fun h => by cases h⟩
      | false =>
       replace e23 := e23.1 rfl
       simp only [e23] at hK ⊢
       go_simp
       exact hK _ _ (Below.refl _ _) ⟨(fun h => by cases h), fun _ => rfl⟩
    ·intro t wq hbq hh K hK
     have e23 := hh.1
     simp only [pick] at e23
     replace e23 : ((!x2) = true → t 23 = (.bool iJ)) ∧ ((!x2) = false → t 23 = undef) := e23
     have e26 := hh.2.1
     simp only [pick] at e26
     replace e26 : ((!x2 && iJ) = true → t 26 = (.pointer (some ⟨w.heap.size + 1, 12, none⟩))) ∧ ((!x2 && iJ) = false → t 26 = undef) := e26
     clear hh
     simp only [filled, aj, upd, Have, is, any, row, pick, Act.put, List.setIfInBounds_toArray, List.set_cons_zero, List.set_cons_succ, Nat.reduceAdd, Nat.reduceEqDiff, reduceIte, fH] at hK ⊢
     cases x2 with
     | true =>
      replace e23 := e23.2 rfl
      replace e26 := e26.2 rfl
      simp only [e23, e26] at hK ⊢
      go_simp
      exact hK _ _ (Below.refl _ _) ⟨(fun h => by cases h), fun _ => rfl⟩
     | false =>
      cases iJ with
      | true =>
       replace e23 := e23.1 rfl
       replace e26 := e26.1 rfl
       simp only [e23, e26] at hK ⊢
       have hc := (Bx.cell ((hbq.block _ hlt4).trans JQ.out) 12).trans (show _ = some (.string BP) from rfl)
       go_simp
       exact hK _ _ (Below.refl _ _) ⟨fun _ => rfl, fun h => by cases h⟩
      | false =>
       replace e23 := e23.1 rfl
       replace e26 := e26.2 rfl
       simp only [e23, e26] at hK ⊢
       go_simp
       exact hK _ _ (Below.refl _ _) ⟨(fun h => by cases h), fun _ => rfl⟩
    ·intro t wq hbq hh K hK
     have e23 := hh.1
     simp only [pick] at e23
     replace e23 : ((!x2) = true → t 23 = (.bool iJ)) ∧ ((!x2) = false → t 23 = undef) := e23
     have e25 := hh.2.1
     simp only [pick] at e25
     replace e25 : ((!x2 && iJ) = true → t 25 = (.string BK)) ∧ ((!x2 && iJ) = false → t 25 = undef) := e25
     have e27 := hh.2.2.1
     simp only [pick] at e27
     replace e27 : ((!x2 && iJ) = true → t 27 = (.string BP)) ∧ ((!x2 && iJ) = false → t 27 = undef) := e27
     clear hh
     simp only [filled, aj, upd, Have, is, any, row, pick, Act.put, List.setIfInBounds_toArray, List.set_cons_zero, List.set_cons_succ, Nat.reduceAdd, Nat.reduceEqDiff, reduceIte, fH] at hK ⊢
     cases x2 with
     | true =>
      replace e23 := e23.2 rfl
      replace e25 := e25.2 rfl
      replace e27 := e27.2 rfl
      simp only [e23, e25, e27] at hK ⊢
      go_simp
      exact hK _ _ (Below.refl _ _) ⟨(fun h => by cases h), fun _ => rfl⟩
     | false =>
      cases iJ with
      | true =>
       replace e23 := e23.1 rfl
       replace e25 := e25.1 rfl
       replace e27 := e27.1 rfl
       simp only [e23, e25, e27] at hK ⊢
       go_simp
       exact hK _ _ (Below.refl _ _) ⟨fun _ => congrArg Value.bool HM12.out, fun h => by cases h⟩
      | false =>
       replace e23 := e23.1 rfl
       replace e25 := e25.2 rfl
       replace e27 := e27.2 rfl
       simp only [e23, e25, e27] at hK ⊢
       go_simp
       exact hK _ _ (Below.refl _ _) ⟨(fun h => by cases h), fun _ => rfl⟩
    ·intro t wq hbq hh K hK
     have e20 := hh.1
     simp only [pick] at e20
     replace e20 : t 20 = (.bool x2) := e20
     have e23 := hh.2.1
     simp only [pick] at e23
     replace e23 : ((!x2) = true → t 23 = (.bool iJ)) ∧ ((!x2) = false → t 23 = undef) := e23
     have e28 := hh.2.2.1
     simp only [pick] at e28
     replace e28 : ((!x2 && iJ) = true → t 28 = (.bool m12)) ∧ ((!x2 && iJ) = false → t 28 = undef) := e28
     clear hh
     simp only [filled, aj, upd, Have, is, any, row, pick, Act.put, List.setIfInBounds_toArray, List.set_cons_zero, List.set_cons_succ, Nat.reduceAdd, Nat.reduceEqDiff, reduceIte, fH] at hK ⊢
     cases x2 with
     | true =>
      replace e23 := e23.2 rfl
      replace e28 := e28.2 rfl
      simp only [e20, e23, e28] at hK ⊢
      go_simp
      exact hK _ _ (Below.refl _ _) ⟨(fun h => by cases h), fun _ => rfl⟩
     | false =>
      cases iJ with
      | true =>
       replace e23 := e23.1 rfl
       replace e28 := e28.1 rfl
       simp only [e20, e23, e28] at hK ⊢
       go_simp
       exact hK _ _ (Below.refl _ _) ⟨fun _ => by show _ = _; rw [HP4.out]; simp, fun h => by cases h⟩
      | false =>
       replace e23 := e23.1 rfl
       replace e28 := e28.2 rfl
       simp only [e20, e23, e28] at hK ⊢
       go_simp
       exact hK _ _ (Below.refl _ _) ⟨fun _ => by show _ = _; rw [HP4.out]; simp, fun h => by cases h⟩
    ·intro t wq hbq hh K hK
     have e20 := hh.1
     simp only [pick] at e20
     replace e20 : t 20 = (.bool x2) := e20
     have e29 := hh.2.1
     simp only [pick] at e29
     replace e29 : ((!x2) = true → t 29 = (.bool z1)) ∧ ((!x2) = false → t 29 = undef) := e29
     clear hh
     simp only [filled, aj, upd, Have, is, any, row, pick, Act.put, List.setIfInBounds_toArray, List.set_cons_zero, List.set_cons_succ, Nat.reduceAdd, Nat.reduceEqDiff, reduceIte, fH] at hK ⊢
     cases x2 with
     | true =>
      replace e29 := e29.2 rfl
      simp only [e20, e29] at hK ⊢
      go_simp
      exact hK _ _ (Below.refl _ _) (by show _ = _; rw [HP5.out]; simp)
     | false =>
      replace e29 := e29.1 rfl
      simp only [e20, e29] at hK ⊢
      go_simp
      exact hK _ _ (Below.refl _ _) (by show _ = _; rw [HP5.out]; simp)
   ·intro t wq hbq hh
    have f30 := aB hh 30 (by decide)
    simp only [pick] at f30
    replace f30 : t 30 = (.bool x3) := f30
    clear hh
    simp only [List.length_cons, List.length_nil, Nat.reduceAdd, filled, aj, upd, Have, is, any, row, pick, Act.put, List.setIfInBounds_toArray, List.set_cons_zero, List.set_cons_succ, Nat.reduceAdd, Nat.reduceEqDiff, reduceIte, fH]
    simp only [f30]
    have iG := hid (HB4.out.trans (hbq.mono HB4.out.size))
    cases x3 with
    | true =>
     have HE : Hid (E = false) := by show _ = _; rw [Tz.out]; simp
     go_wp2
     go_ret
     exact ⟨ak HE.out.symm, iG.out⟩
    | false =>
     have hx := (hbq.block _ (by omega)).trans jI.out
     have hx2 := (hbq.block _ hlt4).trans JQ.out
     obtain ⟨cc0, cc1, cc2, cc3, cc4, cc5, cc6, cc7, cc8, cc9, cc10, cc11, cc12⟩ := kV hx
     obtain ⟨dd0, dd1, dd2, dd3, dd4, dd5, dd6, dd7, dd8, dd9, dd10, dd11, dd12⟩ := kV hx2
     clear hx hx2
     cases Px with
     | true =>
      have HE : Hid (E = o7) := by show _ = _; rw [Tz.out]; simp
      go_wp2
      go_ret
      exact ⟨ak (Ia.out.trans HE.out.symm), iG.out⟩
     | false =>
      have HE : Hid (E = decide (al = bl)) := by show _ = _; rw [Tz.out]; simp
      go_wp2_with fail
      refine (ait aA bA an bn Py qo al bl _ (HR.out.below iG.out) (HR2.out.below iG.out) ahnc ahcm bhnc bhcm).mono ?_
      rintro e w8 ⟨rfl, hb8⟩
      go_wp2
      go_ret
      exact ⟨ak HE.out.symm, bel iG.out hb8⟩
end Go.Proofs.YtmpeaoacaecgpaaGreatDoor.acT
