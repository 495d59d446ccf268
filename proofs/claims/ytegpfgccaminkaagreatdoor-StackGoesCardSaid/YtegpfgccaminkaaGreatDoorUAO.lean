/- Texts that belong together: StkC. -/
import Derived.Test.YtegpfgccaminkaaGreatDoorUAJ
import Derived.Test.YtegpfgccaminkaaGreatDoorUAN
import Derived.BigQuiet
import Derived.Deep.QuietTactic
set_option linter.unusedSimpArgs false
set_option linter.unusedVariables false
namespace Go.Proofs.YtegpfgccaminkaaGreatDoor.StkC
open Go.RowKit Base Base2 Base3 Regs UtfL BlobA BlobK TbK StoG MaiB StkG StkA StkB OrgA Ubx PrsP LdA BlobD
set_option linter.unusedSimpArgs false
set_option linter.unusedVariables false
open Go.Proofs.YtegpfgccaminkaaGreatDoor.Regw (GW)
open Go.Proofs.YtegpfgccaminkaaGreatDoor.StoB (ob_load arr_load)
open Go.Proofs.YtegpfgccaminkaaGreatDoor.StoD (uv_load)
def withUrl (m : SM) (e : Ent Nat) : SM := { m with urls := m.urls ++ [e] }
def regd (m : SM) (T : List UInt8) (e : Ent Nat) : SM := { withUrl m e with P := if m.P.length < m.ucap then m.P ++ [.string (strOf (43 :: T))] else m.P }
def told (m : SM) (T : List UInt8) : SM := { m with U := if m.U.length < m.ucap then m.U ++ [.string (strOf (45 :: T))] else m.U }
def without (m : SM) (k : Nat) : SM := { m with urls := m.urls.eraseIdx k }
theorem live_with {m : SM} {e : Ent Nat} {g : Nat} (h : Live (withUrl m e) g) (he : Live m e.x) : Live m g := by
 rcases h with h | ⟨a, ha, rfl⟩
 ·exact .inl h
 ·have ha' : a ∈ m.urls ++ [e] := ha
  rw [List.mem_append, List.mem_singleton] at ha'
  rcases ha' with ha' | rfl
  ·exact .inr ⟨a, ha', rfl⟩
  ·exact he
theorem fit_with {m : SM} (h : Fit m) (e : Ent Nat) (hr : m.urls.length < m.ucap) : Fit (withUrl m e) :=
 ⟨h.tn, h.b64, by show (m.urls ++ [e]).length ≤ m.ucap; rw [List.length_append]; exact hr, h.u64, h.sum, h.cap, h.ord, h.top⟩
theorem live_out {m : SM} {k g : Nat} (h : Live (without m k) g) : Live m g := by
 rcases h with h | ⟨a, ha, rfl⟩
 ·exact .inl h
 ·exact .inr ⟨a, List.mem_of_mem_eraseIdx ha, rfl⟩
theorem fit_out {m : SM} (h : Fit m) (k : Nat) : Fit (without m k) :=
 ⟨h.tn, h.b64, by show (m.urls.eraseIdx k).length ≤ m.ucap; have := h.un; rw [List.length_eraseIdx]; split <;> omega, h.u64, h.sum, h.cap, h.ord, h.top⟩
set_option maxRecDepth 100000 in
set_option maxHeartbeats 4000000 in
theorem register_ok (B gs gt gu gm : Nat) (m : SM) (s h : ByteArray) (p n hd : Int) (k : Nat) (RV : Array Value) (P N T : List UInt8) (w : World) (hK : IsK B gs gt gu gm m w) (hi : TbK.idx m.tbl hd = some k) (hk : k < m.tbl.length) (hr : m.urls.length < m.ucap) (hx : StoG.idx m.urls (strOf T) = none) (hT : T = [98, 108, 111, 98, 58] ++ P ++ [47] ++ N) (hPl : P.length ≤ 100000) (hNl : N.length ≤ 1000) (hRV : RV.size = 16)
  (HR : Hid (∀ w', Below w.heap.size w w' → Calls Tryz.prog 65 #[.agg #[.string s, .string h, .int .i64 p, .int .i64 n]] w' fun e w'' => e = .returned (.bool true) ∧ Below w'.heap.size w' w''))
  (HP : Hid (∀ w', Below w.heap.size w w' → Calls Tryz.prog 66 #[.agg #[.string s, .string h, .int .i64 p, .int .i64 n]] w' fun e w'' => e = .returned (.string (strOf P)) ∧ Below w'.heap.size w' w''))
  (HN : Hid (∀ w', Below w.heap.size w w' → Calls Tryz.prog 67 #[.agg RV] w' fun e w'' => e = .returned (.string (strOf N)) ∧ Below w'.heap.size w' w'')) :
  Calls Tryz.prog 16 #[.pointer (some ⟨gs, 0, none⟩), .agg #[.string s, .string h, .int .i64 p, .int .i64 n], .int .i64 hd, .agg RV] w fun e w' => e = .returned (.tuple #[.string (strOf T), .int .i64 0]) ∧ IsK B gs gt gu gm (regd m T ⟨strOf T, s, h, p, n, m.tbl[k].2⟩) w' ∧ Below B w w' ∧ Ks w w' := by
 have HK0 := hid hK
 have HG : Hid (TbB.got m.tbl hd = .tuple #[.pointer (some ⟨m.tbl[k].2, 0, none⟩), .bool true]) := by
  show _ = _
  unfold TbB.got
  rw [hi]
  simp only
  rw [List.getElem?_eq_getElem hk]
  rfl
 have HX := hid hx
 have HRM := hid hr
 have HTT := hid hT
 have HPL := hid hPl
 have HNL := hid hNl
 have HRV := hid hRV
 have HLV : Hid (Live m m.tbl[k].2) := .inl ⟨_, List.getElem_mem hk, rfl⟩
 have HBW : Hid (B ≤ w.heap.size) := hK.size
 have HTL : Hid (T.length ≤ 102000) := by show _ ≤ _; rw [hT]; simp only [List.length_append, List.length_cons, List.length_nil]; omega
 have HADD : Hid (∀ w : World, (Op.stringOp .add ⟨#[43]⟩ (strOf T)).run Tryz.prog w = .ok (.string (strOf (43 :: T))) w) := fun w => str_add' ⟨#[43]⟩ (strOf T) w (by have := HTL.out; rw [size_strOf]; show 1 + _ ≤ _; omega)
 obtain ⟨gk, hgk⟩ : ∃ x, x = m.tbl[k].2 := ⟨_, rfl⟩
 rw [← hgk] at HG HLV ⊢
 clear hK hi hx hr hT hPl hNl hRV hgk hk
 go_enter Tryz.func16, Tryz.ntmps16
 go_upto_region 1 with (fail)
 generalize hwa : World.alloc (World.alloc w _) _ = v1
 have h1_ : OB v1 w.heap.size s h p n ∧ v1.heap[w.heap.size + 1]? = some (.cells RV 33 (0, 0)) ∧ Below w.heap.size w v1 := by
  subst hwa
  exact laid2 w _ _ _ _
 clear hwa
 have X1 := hid h1_.1
 have X2 := hid h1_.2.1
 have HB1 := hid h1_.2.2
 clear h1_
 have HK1 := hid (HK0.out.below HB1.out)
 obtain ⟨c0, c1, c2, c3⟩ := HK1.out.facts
 have hlt := HK1.out.lt
 go_wp2_with fail
 refine (TbB.get_any B gt m.bcap m.last m.tbl hd _ HK1.out.tab (Nat.le_trans HK1.out.fit.tn HK1.out.fit.b64)).mono ?_
 rw [HG.out]
 rintro e v2 ⟨rfl, hb2⟩
 have HK2 := hid (HK1.out.below hb2)
 have HB2 := hid (bel HB1.out hb2)
 have XO2 := hid (OB.below X1.out hb2)
 have XA2 : Hid (v2.heap[w.heap.size + 1]? = some (.cells RV 33 (0, 0))) := (hb2.block _ (Array.getElem?_eq_some_iff.1 X2.out).1).trans X2.out
 clear hb2 c0 c1 c2 c3 hlt HK1 X1 X2 HB1 HK0
 obtain ⟨c0, c1, c2, c3⟩ := HK2.out.facts
 clear c0 c1 c3
 have HLT : Hid (gs < v2.heap.size) := HK2.out.lt
 go_upto_region 6 with (fail)
 have HZ : Hid (∀ a b : World, Below a.heap.size a b → (IsK B gs gt gu gm (withUrl m ⟨strOf T, s, h, p, n, gk⟩) a ∧ Below B w a ∧ Ks w a) → (IsK B gs gt gu gm (withUrl m ⟨strOf T, s, h, p, n, gk⟩) b ∧ Below B w b ∧ Ks w b)) := fun a b hb hz => ⟨hz.1.below hb, hz.2.1.trans (hb.mono hz.1.size), hz.2.2.trans (Ks.below hb)⟩
 refine wp_region_inv (by kernel_rfl) (GW 7 v2 [] fun wr => (IsK B gs gt gu gm (withUrl m ⟨strOf T, s, h, p, n, gk⟩) wr ∧ Below B w wr ∧ Ks w wr)) [is (.pointer (some ⟨gs, 0, none⟩)), is (.pointer (some ⟨gs, 0, none⟩)), is (.pointer (some ⟨gs, 2, none⟩)), is (.pointer (some ⟨gu, 0, none⟩)), is (.agg #[.string s, .string h, .int .i64 p, .int .i64 n]), is (.pointer (some ⟨gk, 0, none⟩)), is (.agg RV), is (.tuple #[.string (strOf T), .int .i64 0]), is (.tuple #[.string (strOf T), .int .i64 0]), is (.string (strOf T)), is (.int .i64 0), is (.string (strOf T)), is (.int .i64 0)] [[], [0], [1], [2], [], [], [], [3, 4, 5, 6], [7], [8], [8], [9], [10]] (by kernel_rfl) (by repeat (first | exact free_nil | refine free_is _ ?_ | refine free_any ?_)) ?_ ?_ ?_
 ·exact fun t => Regw.GW.beg 7 v2 _ _ t
 ·refine ⟨?_, ?_, ?_, ?_, ?_, ?_, ?_, ?_, ?_, ?_, ?_, ?_, ?_, trivial⟩
  ·intro L t wq hG hL hC hN hh K hK
   clear hh
   simp only [filled, upd, Have, is, any, row, pick, Act.put, List.setIfInBounds_toArray, List.set_cons_zero, List.set_cons_succ, Nat.reduceAdd, Nat.reduceEqDiff, reduceIte] at hK ⊢
   go_simp
   exact hK _ _ rfl (Regw.stab HZ.out 0 rfl (Below.refl _ _) hG)
  ·intro L t wq hG hL hC hN hh K hK
   have e0 := hh.1
   simp only [pick] at e0
   replace e0 : t 0 = (.pointer (some ⟨gs, 0, none⟩)) := e0
   clear hh
   simp only [filled, upd, Have, is, any, row, pick, Act.put, List.setIfInBounds_toArray, List.set_cons_zero, List.set_cons_succ, Nat.reduceAdd, Nat.reduceEqDiff, reduceIte] at hK ⊢
   simp only [e0] at hK ⊢
   go_simp
   exact hK _ _ rfl (Regw.stab HZ.out 1 rfl (Below.refl _ _) hG)
  ·intro L t wq hG hL hC hN hh K hK
   have e1 := hh.1
   simp only [pick] at e1
   replace e1 : t 1 = (.pointer (some ⟨gs, 0, none⟩)) := e1
   clear hh
   simp only [filled, upd, Have, is, any, row, pick, Act.put, List.setIfInBounds_toArray, List.set_cons_zero, List.set_cons_succ, Nat.reduceAdd, Nat.reduceEqDiff, reduceIte] at hK ⊢
   simp only [e1] at hK ⊢
   go_simp
   exact hK _ _ rfl (Regw.stab HZ.out 2 rfl (Below.refl _ _) hG)
  ·intro L t wq hG hL hC hN hh K hK
   have e2 := hh.1
   simp only [pick] at e2
   replace e2 : t 2 = (.pointer (some ⟨gs, 2, none⟩)) := e2
   clear hh
   simp only [filled, upd, Have, is, any, row, pick, Act.put, List.setIfInBounds_toArray, List.set_cons_zero, List.set_cons_succ, Nat.reduceAdd, Nat.reduceEqDiff, reduceIte] at hK ⊢
   simp only [e2] at hK ⊢
   have h7 : L 7 = false := by
    cases h : L 7 with
    | false => rfl
    | true => exact absurd (hC 7 h 3 (by decide)) (by rw [hL]; simp)
   have hq := ((hG.pre h7).1.cell (p := ⟨gs, 2, none⟩) HLT.out).trans c2
   go_simp
   exact hK _ _ rfl (Regw.stab HZ.out 3 rfl (Below.refl _ _) hG)
  ·intro L t wq hG hL hC hN hh K hK
   clear hh
   simp only [filled, upd, Have, is, any, row, pick, Act.put, List.setIfInBounds_toArray, List.set_cons_zero, List.set_cons_succ, Nat.reduceAdd, Nat.reduceEqDiff, reduceIte] at hK ⊢
   have h7 : L 7 = false := by
    cases h : L 7 with
    | false => rfl
    | true => exact absurd (hC 7 h 4 (by decide)) (by rw [hL]; simp)
   refine step_load (ob_load (OB.below XO2.out (hG.pre h7).1)) (.tmp 5) rfl rfl rfl ?_
   exact hK _ _ rfl (Regw.stab HZ.out 4 rfl (Below.refl _ _) hG)
  ·intro L t wq hG hL hC hN hh K hK
   clear hh
   simp only [filled, upd, Have, is, any, row, pick, Act.put, List.setIfInBounds_toArray, List.set_cons_zero, List.set_cons_succ, Nat.reduceAdd, Nat.reduceEqDiff, reduceIte] at hK ⊢
   go_simp
   exact hK _ _ rfl (Regw.stab HZ.out 5 rfl (Below.refl _ _) hG)
  ·intro L t wq hG hL hC hN hh K hK
   clear hh
   simp only [filled, upd, Have, is, any, row, pick, Act.put, List.setIfInBounds_toArray, List.set_cons_zero, List.set_cons_succ, Nat.reduceAdd, Nat.reduceEqDiff, reduceIte] at hK ⊢
   have h7 : L 7 = false := by
    cases h : L 7 with
    | false => rfl
    | true => exact absurd (hC 7 h 6 (by decide)) (by rw [hL]; simp)
   refine step_load (arr_load HRV.out (((hG.pre h7).1.block _ (Array.getElem?_eq_some_iff.1 XA2.out).1).trans XA2.out)) (.tmp 7) rfl rfl rfl ?_
   exact hK _ _ rfl (Regw.stab HZ.out 6 rfl (Below.refl _ _) hG)
  ·intro L t wq hG hL hC hN hh K hK
   have e3 := hh.1
   simp only [pick] at e3
   replace e3 : t 3 = (.pointer (some ⟨gu, 0, none⟩)) := e3
   have e4 := hh.2.1
   simp only [pick] at e4
   replace e4 : t 4 = (.agg #[.string s, .string h, .int .i64 p, .int .i64 n]) := e4
   have e5 := hh.2.2.1
   simp only [pick] at e5
   replace e5 : t 5 = (.pointer (some ⟨gk, 0, none⟩)) := e5
   have e6 := hh.2.2.2.1
   simp only [pick] at e6
   replace e6 : t 6 = (.agg RV) := e6
   clear hh
   simp only [filled, upd, Have, is, any, row, pick, Act.put, List.setIfInBounds_toArray, List.set_cons_zero, List.set_cons_succ, Nat.reduceAdd, Nat.reduceEqDiff, reduceIte] at hK ⊢
   simp only [e3, e4, e5, e6] at hK ⊢
   obtain ⟨hp7, _⟩ := hG.pre hL
   go_simp
   have HKq := HK2.out.below hp7
   refine (StoC.reg_ok B gu m.ucap m.urls s h p n gk RV P N T _ HKq.sto HKq.fit.u64 (Nat.le_trans HKq.fit.un HKq.fit.u64) HRM.out HX.out HTT.out HPL.out HNL.out HRV.out (hid fun w' hb => HR.out w' (bel (bel HB2.out hp7) hb)) (hid fun w' hb => HP.out w' (bel (bel HB2.out hp7) hb)) (hid fun w' hb => HN.out w' (bel (bel HB2.out hp7) hb))).mono ?_
   rintro e w6 ⟨rfl, hS, hb, hkp⟩
   have hz : (IsK B gs gt gu gm (withUrl m ⟨strOf T, s, h, p, n, gk⟩) w6 ∧ Below B w w6 ∧ Ks w w6) := ⟨IsK.sto' (m' := withUrl m ⟨strOf T, s, h, p, n, gk⟩) HKq hkp hS (fun g hg => HKq.blo g (live_with hg HLV.out)) (fit_with HKq.fit _ HRM.out) rfl rfl rfl rfl rfl rfl rfl, (HB2.out.mono HBW.out).trans ((hp7.mono HK2.out.size).trans hb), (Ks.below (bel HB2.out hp7)).trans (Ks.sto hkp)⟩
   exact hK _ _ rfl (Regw.call hz)
  ·intro L t wq hG hL hC hN hh K hK
   have e7 := hh.1
   simp only [pick] at e7
   replace e7 : t 7 = (.tuple #[.string (strOf T), .int .i64 0]) := e7
   clear hh
   simp only [filled, upd, Have, is, any, row, pick, Act.put, List.setIfInBounds_toArray, List.set_cons_zero, List.set_cons_succ, Nat.reduceAdd, Nat.reduceEqDiff, reduceIte] at hK ⊢
   simp only [e7] at hK ⊢
   go_simp
   exact hK _ _ rfl (Regw.stab HZ.out 8 rfl (Below.refl _ _) hG)
  ·intro L t wq hG hL hC hN hh K hK
   have e8 := hh.1
   simp only [pick] at e8
   replace e8 : t 8 = (.tuple #[.string (strOf T), .int .i64 0]) := e8
   clear hh
   simp only [filled, upd, Have, is, any, row, pick, Act.put, List.setIfInBounds_toArray, List.set_cons_zero, List.set_cons_succ, Nat.reduceAdd, Nat.reduceEqDiff, reduceIte] at hK ⊢
   simp only [e8] at hK ⊢
   go_simp
   exact hK _ _ rfl (Regw.stab HZ.out 9 rfl (Below.refl _ _) hG)
  ·intro L t wq hG hL hC hN hh K hK
   have e8 := hh.1
   simp only [pick] at e8
   replace e8 : t 8 = (.tuple #[.string (strOf T), .int .i64 0]) := e8
   clear hh
   simp only [filled, upd, Have, is, any, row, pick, Act.put, List.setIfInBounds_toArray, List.set_cons_zero, List.set_cons_succ, Nat.reduceAdd, Nat.reduceEqDiff, reduceIte] at hK ⊢
   simp only [e8] at hK ⊢
   go_simp
   exact hK _ _ rfl (Regw.stab HZ.out 10 rfl (Below.refl _ _) hG)
  ·intro L t wq hG hL hC hN hh K hK
   have e9 := hh.1
   simp only [pick] at e9
   replace e9 : t 9 = (.string (strOf T)) := e9
   clear hh
   simp only [filled, upd, Have, is, any, row, pick, Act.put, List.setIfInBounds_toArray, List.set_cons_zero, List.set_cons_succ, Nat.reduceAdd, Nat.reduceEqDiff, reduceIte] at hK ⊢
   simp only [e9] at hK ⊢
   go_simp
   exact hK _ _ rfl (Regw.stab HZ.out 11 rfl (Below.refl _ _) hG)
  ·intro L t wq hG hL hC hN hh K hK
   have e10 := hh.1
   simp only [pick] at e10
   replace e10 : t 10 = (.int .i64 0) := e10
   clear hh
   simp only [filled, upd, Have, is, any, row, pick, Act.put, List.setIfInBounds_toArray, List.set_cons_zero, List.set_cons_succ, Nat.reduceAdd, Nat.reduceEqDiff, reduceIte] at hK ⊢
   simp only [e10] at hK ⊢
   go_simp
   exact hK _ _ rfl (Regw.stab HZ.out 12 rfl (Below.refl _ _) hG)
 ·intro Lz t wq hG hall hh
  have f11 := have_get hh 11 (by decide)
  simp only [pick] at f11
  replace f11 : t 11 = (.string (strOf T)) := f11
  have f12 := have_get hh 12 (by decide)
  simp only [pick] at f12
  replace f12 : t 12 = (.int .i64 0) := f12
  clear hh
  simp only [filled, upd, Have, is, any, row, pick, Act.put, List.setIfInBounds_toArray, List.set_cons_zero, List.set_cons_succ, Nat.reduceAdd, Nat.reduceEqDiff, reduceIte]
  simp only [f11, f12]
  obtain ⟨z1, z2, z3⟩ := hG.post (hall 7 (by decide))
  have HK6 := hid z1
  have HB6 := hid z2
  have HS6 := hid z3
  clear hG hall z1 z2 z3 c2
  generalize hw6 : wq = w6 at HK6 HB6 HS6 ⊢
  clear hw6
  obtain ⟨c0, c1, c2, c3⟩ := HK6.out.facts
  have hlt := HK6.out.lt
  have hadd := HADD.out w6
  clear c0 c1 c2
  go_wp2_with fail
  refine (putS_p B gm m.ucap m.U m.P (strOf (43 :: T)) _ HK6.out.mai).mono ?_
  rintro e w7 ⟨rfl, hM, hb, hkp⟩
  have HK7 : Hid (IsK B gs gt gu gm (regd m T ⟨strOf T, s, h, p, n, gk⟩) w7) := IsK.mai' HK6.out hkp _ _ hM
  have HB7 : Hid (Below B w w7) := HB6.out.trans hb
  have HS7 : Hid (Ks w w7) := HS6.out.trans (Ks.mail hkp)
  clear hM hb hkp hadd c3 hlt
  go_wp2
  go_ret2
  exact ⟨rfl, HK7.out, HB7.out, HS7.out⟩
theorem register_none (B gs gt gu gm : Nat) (m : SM) (s h : ByteArray) (p n hd : Int) (RV : Array Value) (w : World) (hK : IsK B gs gt gu gm m w) (hi : TbK.idx m.tbl hd = none) :
  Calls Tryz.prog 16 #[.pointer (some ⟨gs, 0, none⟩), .agg #[.string s, .string h, .int .i64 p, .int .i64 n], .int .i64 hd, .agg RV] w fun e w' => e = .returned (.tuple #[.string ⟨#[]⟩, .int .i64 6]) ∧ Below w.heap.size w w' := by
 have HK0 := hid hK
 have HG : Hid (TbB.got m.tbl hd = .tuple #[.pointer none, .bool false]) := by show _ = _; unfold TbB.got; rw [hi]
 clear hK hi
 go_enter Tryz.func16, Tryz.ntmps16
 go_upto_region 1 with (fail)
 generalize hwa : World.alloc (World.alloc w _) _ = v1
 have h1_ : Below w.heap.size w v1 := by
  subst hwa
  exact ((Below.refl w.heap.size w).alloc (Nat.le_refl _) _).alloc (by simp) _
 clear hwa
 have HB1 := hid h1_
 clear h1_
 have HK1 := hid (HK0.out.below HB1.out)
 obtain ⟨c0, c1, c2, c3⟩ := HK1.out.facts
 have hlt := HK1.out.lt
 go_wp2_with fail
 refine (TbB.get_any B gt m.bcap m.last m.tbl hd _ HK1.out.tab (Nat.le_trans HK1.out.fit.tn HK1.out.fit.b64)).mono ?_
 rw [HG.out]
 rintro e v2 ⟨rfl, hb2⟩
 have HB2 := hid (bel HB1.out hb2)
 clear hb2 c0 c1 c2 c3 hlt HK1 HB1 HK0
 go_wp2
 go_ret2
 exact ⟨rfl, HB2.out⟩
set_option maxRecDepth 100000 in
set_option maxHeartbeats 4000000 in
theorem tell_any (B gs gt gu gm : Nat) (m : SM) (uv : Array Value) (huv : uv.size = 13) (T : List UInt8) (hT : T.length ≤ 10000000) (w : World) (hK : IsK B gs gt gu gm m w)
  (HBR : Hid (∀ w', Below w.heap.size w w' → Calls Tryz.prog 75 #[.agg uv] w' fun e w'' => e = .returned (.string (strOf T)) ∧ Below w'.heap.size w' w'')) :
  Calls Tryz.prog 47 #[.pointer (some ⟨gs, 0, none⟩), .agg uv] w fun e w' => e = .returned (.tuple #[]) ∧ IsK B gs gt gu gm (told m T) w' ∧ Below B w w' ∧ Ks w w' := by
 have HK0 := hid hK
 have HU := hid huv
 have HADD : Hid (∀ w : World, (Op.stringOp .add ⟨#[45]⟩ (strOf T)).run Tryz.prog w = .ok (.string (strOf (45 :: T))) w) := fun w => str_add' ⟨#[45]⟩ (strOf T) w (by rw [size_strOf]; show 1 + _ ≤ _; omega)
 have HBW : Hid (B ≤ w.heap.size) := hK.size
 clear hK huv hT
 go_enter Tryz.func47, Tryz.ntmps47
 go_upto_region 1 with (fail)
 generalize hwa : World.alloc w _ = v1
 have h1_ : v1.heap[w.heap.size]? = some (.cells uv 52 (0, 0)) ∧ Below w.heap.size w v1 := by
  subst hwa
  exact ⟨heap_alloc_new w _, (Below.refl _ _).alloc (Nat.le_refl _) _⟩
 clear hwa
 have XU1 := hid h1_.1
 have HB1 := hid h1_.2
 clear h1_
 have HK1 := hid (HK0.out.below HB1.out)
 obtain ⟨c0, c1, c2, c3⟩ := HK1.out.facts
 have HLT : Hid (gs < v1.heap.size) := HK1.out.lt
 clear c0 c1 c2 HK0
 have HZ : Hid (∀ a b : World, Below a.heap.size a b → (IsK B gs gt gu gm (told m T) a ∧ Below B w a ∧ Ks w a) → (IsK B gs gt gu gm (told m T) b ∧ Below B w b ∧ Ks w b)) := fun a b hb hz => ⟨hz.1.below hb, hz.2.1.trans (hb.mono hz.1.size), hz.2.2.trans (Ks.below hb)⟩
 refine wp_region_inv (by kernel_rfl) (GW 7 v1 [] fun wr => (IsK B gs gt gu gm (told m T) wr ∧ Below B w wr ∧ Ks w wr)) [is (.pointer (some ⟨gs, 0, none⟩)), is (.pointer (some ⟨gs, 0, none⟩)), is (.pointer (some ⟨gs, 3, none⟩)), is (.pointer (some ⟨gm, 0, none⟩)), is (.agg uv), is (.string (strOf T)), is (.string (strOf (45 :: T))), any] [[], [0], [1], [2], [], [4], [5], [3, 6]] (by kernel_rfl) (by repeat (first | exact free_nil | refine free_is _ ?_ | refine free_any ?_)) ?_ ?_ ?_
 ·exact fun t => Regw.GW.beg 7 v1 _ _ t
 ·refine ⟨?_, ?_, ?_, ?_, ?_, ?_, ?_, ?_, trivial⟩
  ·intro L t wq hG hL hC hN hh K hK
   clear hh
   simp only [filled, upd, Have, is, any, row, pick, Act.put, List.setIfInBounds_toArray, List.set_cons_zero, List.set_cons_succ, Nat.reduceAdd, Nat.reduceEqDiff, reduceIte] at hK ⊢
   go_simp
   exact hK _ _ rfl (Regw.stab HZ.out 0 rfl (Below.refl _ _) hG)
  ·intro L t wq hG hL hC hN hh K hK
   have e0 := hh.1
   simp only [pick] at e0
   replace e0 : t 0 = (.pointer (some ⟨gs, 0, none⟩)) := e0
   clear hh
   simp only [filled, upd, Have, is, any, row, pick, Act.put, List.setIfInBounds_toArray, List.set_cons_zero, List.set_cons_succ, Nat.reduceAdd, Nat.reduceEqDiff, reduceIte] at hK ⊢
   simp only [e0] at hK ⊢
   go_simp
   exact hK _ _ rfl (Regw.stab HZ.out 1 rfl (Below.refl _ _) hG)
  ·intro L t wq hG hL hC hN hh K hK
   have e1 := hh.1
   simp only [pick] at e1
   replace e1 : t 1 = (.pointer (some ⟨gs, 0, none⟩)) := e1
   clear hh
   simp only [filled, upd, Have, is, any, row, pick, Act.put, List.setIfInBounds_toArray, List.set_cons_zero, List.set_cons_succ, Nat.reduceAdd, Nat.reduceEqDiff, reduceIte] at hK ⊢
   simp only [e1] at hK ⊢
   go_simp
   exact hK _ _ rfl (Regw.stab HZ.out 2 rfl (Below.refl _ _) hG)
  ·intro L t wq hG hL hC hN hh K hK
   have e2 := hh.1
   simp only [pick] at e2
   replace e2 : t 2 = (.pointer (some ⟨gs, 3, none⟩)) := e2
   clear hh
   simp only [filled, upd, Have, is, any, row, pick, Act.put, List.setIfInBounds_toArray, List.set_cons_zero, List.set_cons_succ, Nat.reduceAdd, Nat.reduceEqDiff, reduceIte] at hK ⊢
   simp only [e2] at hK ⊢
   have h7 : L 7 = false := by
    cases h : L 7 with
    | false => rfl
    | true => exact absurd (hC 7 h 3 (by decide)) (by rw [hL]; simp)
   have hq := ((hG.pre h7).1.cell (p := ⟨gs, 3, none⟩) HLT.out).trans c3
   go_simp
   exact hK _ _ rfl (Regw.stab HZ.out 3 rfl (Below.refl _ _) hG)
  ·intro L t wq hG hL hC hN hh K hK
   clear hh
   simp only [filled, upd, Have, is, any, row, pick, Act.put, List.setIfInBounds_toArray, List.set_cons_zero, List.set_cons_succ, Nat.reduceAdd, Nat.reduceEqDiff, reduceIte] at hK ⊢
   have h7 : L 7 = false := by
    cases h : L 7 with
    | false => rfl
    | true => exact absurd (hC 5 (hC 6 (hC 7 h 6 (by decide)) 5 (by decide)) 4 (by decide)) (by rw [hL]; simp)
   refine step_load (uv_load HU.out (((hG.pre h7).1.block _ (Array.getElem?_eq_some_iff.1 XU1.out).1).trans XU1.out)) (.tmp 3) rfl rfl rfl ?_
   exact hK _ _ rfl (Regw.stab HZ.out 4 rfl (Below.refl _ _) hG)
  ·intro L t wq hG hL hC hN hh K hK
   have e4 := hh.1
   simp only [pick] at e4
   replace e4 : t 4 = (.agg uv) := e4
   clear hh
   simp only [filled, upd, Have, is, any, row, pick, Act.put, List.setIfInBounds_toArray, List.set_cons_zero, List.set_cons_succ, Nat.reduceAdd, Nat.reduceEqDiff, reduceIte] at hK ⊢
   simp only [e4] at hK ⊢
   have h7 : L 7 = false := by
    cases h : L 7 with
    | false => rfl
    | true => exact absurd (hC 6 (hC 7 h 6 (by decide)) 5 (by decide)) (by rw [hL]; simp)
   go_simp
   refine (HBR.out _ (bel HB1.out (hG.pre h7).1)).mono ?_
   rintro e w9 ⟨rfl, hb9⟩
   exact hK _ _ rfl (Regw.stab HZ.out 5 rfl hb9 hG)
  ·intro L t wq hG hL hC hN hh K hK
   have e5 := hh.1
   simp only [pick] at e5
   replace e5 : t 5 = (.string (strOf T)) := e5
   clear hh
   simp only [filled, upd, Have, is, any, row, pick, Act.put, List.setIfInBounds_toArray, List.set_cons_zero, List.set_cons_succ, Nat.reduceAdd, Nat.reduceEqDiff, reduceIte] at hK ⊢
   simp only [e5] at hK ⊢
   have hadd := HADD.out wq
   go_simp
   exact hK _ _ rfl (Regw.stab HZ.out 6 rfl (Below.refl _ _) hG)
  ·intro L t wq hG hL hC hN hh K hK
   have e3 := hh.1
   simp only [pick] at e3
   replace e3 : t 3 = (.pointer (some ⟨gm, 0, none⟩)) := e3
   have e6 := hh.2.1
   simp only [pick] at e6
   replace e6 : t 6 = (.string (strOf (45 :: T))) := e6
   clear hh
   simp only [filled, upd, Have, is, any, row, pick, Act.put, List.setIfInBounds_toArray, List.set_cons_zero, List.set_cons_succ, Nat.reduceAdd, Nat.reduceEqDiff, reduceIte] at hK ⊢
   simp only [e3, e6] at hK ⊢
   obtain ⟨hp7, _⟩ := hG.pre hL
   go_simp
   have HKq := HK1.out.below hp7
   refine (putS_u B gm m.ucap m.U m.P (strOf (45 :: T)) _ HKq.mai).mono ?_
   rintro e w6 ⟨rfl, hM, hb, hkp⟩
   have hz : (IsK B gs gt gu gm (told m T) w6 ∧ Below B w w6 ∧ Ks w w6) := ⟨IsK.mai' HKq hkp _ _ hM, (HB1.out.mono HBW.out).trans ((hp7.mono HK1.out.size).trans hb), (Ks.below (bel HB1.out hp7)).trans (Ks.mail hkp)⟩
   exact hK _ _ trivial (Regw.call hz)
 ·intro Lz t wq hG hall hh
  clear hh
  simp only [filled, upd, Have, is, any, row, pick, Act.put, List.setIfInBounds_toArray, List.set_cons_zero, List.set_cons_succ, Nat.reduceAdd, Nat.reduceEqDiff, reduceIte]
  obtain ⟨z1, z2, z3⟩ := hG.post (hall 7 (by decide))
  have HK6 := hid z1
  have HB6 := hid z2
  have HS6 := hid z3
  clear hG hall z1 z2 z3 c3
  go_wp2
  go_end0
  exact ⟨rfl, HK6.out, HB6.out, HS6.out⟩
set_option maxRecDepth 100000 in
set_option maxHeartbeats 4000000 in
theorem revoke_yes (B gs gt gu gm : Nat) (m : SM) (T0 T : List UInt8) (u : U) (s h : ByteArray) (p n : Int) (w : World) (hK : IsK B gs gt gu gm m w) (k : Nat) (hk : k < m.urls.length) (hi : StoG.idx m.urls (strOf T) = some k) (hh : StoD.hasO m.urls (strOf T) s h p n = true) (hpth : u.pth = []) (hTl : T.length ≤ 10000000)
  (HP : Hid (∀ w', Below w.heap.size w w' → Calls Tryz.prog 45 #[.string (strOf T0), .pointer none] w' fun e w'' => ∃ A n' c, e = .returned (.tuple #[.agg (cells u (.slice A n' c)), .int .i64 0]) ∧ PthIs w'' u A n' c ∧ Below w'.heap.size w' w''))
  (HBR : Hid (∀ (A : Option Addr) (n' c : Nat) (w' : World), Below B w w' → PthIs w' u A n' c → Calls Tryz.prog 75 #[.agg (cells u (.slice A n' c))] w' fun e w'' => e = .returned (.string (strOf T)) ∧ Below w'.heap.size w' w'')) :
  Calls Tryz.prog 19 #[.pointer (some ⟨gs, 0, none⟩), .string (strOf T0), .agg #[.string s, .string h, .int .i64 p, .int .i64 n]] w fun e w' => e = .returned (.bool true) ∧ IsK B gs gt gu gm (told (without m k) T) w' ∧ Below B w w' ∧ Ks w w' := by
 have HK0 := hid hK
 have HH := hid hh
 have HBW : Hid (B ≤ w.heap.size) := hK.size
 have HI := hid hi
 have HKL := hid hk
 have HPT := hid hpth
 have HTL := hid hTl
 clear hi hk hpth hTl
 clear hK hh
 go_enter Tryz.func19, Tryz.ntmps19
 go_upto_region 1 with (fail)
 generalize hwa : World.alloc w _ = v1
 have h1_ : OB v1 w.heap.size s h p n ∧ Below w.heap.size w v1 := by
  subst hwa
  exact laid1 w _ _
 clear hwa
 have XO1 := hid h1_.1
 have HB1 := hid h1_.2
 clear h1_
 have HK1 := hid (HK0.out.below HB1.out)
 go_wp2_with fail
 refine (HP.out _ HB1.out).mono ?_
 rintro e v2 ⟨A, n', c, rfl, hpt, hb2⟩
 have XO2 := hid (OB.below XO1.out hb2)
 have HK2 := hid (HK1.out.below hb2)
 have HB2 := hid (bel HB1.out hb2)
 have HPT2 := hid hpt
 clear XO1 HB1 HK1 HK0 hb2 hpt
 rw [show Value.agg (cells u (.slice A n' c)) = .agg #[.string (strOf u.sch), .string (strOf u.usr), .string (strOf u.pwd), .string (strOf u.hst), .bool u.hh, .int .i64 u.port, .bool u.opq, .string (strOf u.txt), .slice A n' c, .bool u.hq, .bool u.hf, .string (strOf u.qry), .string (strOf u.frg)] from rfl]
 go_upto_region 4 with (fail)
 generalize hwa : World.alloc v2 _ = v3
 have h3_ : UB v3 v2.heap.size u (.slice A n' c) ∧ Below v2.heap.size v2 v3 := by
  subst hwa
  exact laid1 v2 _ _
 clear hwa
 have XO3 := hid (OB.below XO2.out h3_.2)
 have HK3 := hid (HK2.out.below h3_.2)
 have HB3 := hid (bel HB2.out h3_.2)
 have HPT3 := hid (PthIs.below HPT2.out h3_.2)
 have XU3 := hid h3_.1
 clear h3_ XO2 HK2 HB2 HPT2
 obtain ⟨gU, hgU⟩ : ∃ x, x = v2.heap.size := ⟨_, rfl⟩
 rw [← hgU] at XU3 ⊢
 clear hgU
 obtain ⟨c0, c1, c2, c3⟩ := HK3.out.facts
 have HLT : Hid (gs < v3.heap.size) := HK3.out.lt
 clear c0 c1 c3
 have HZ : Hid (∀ a b : World, Below a.heap.size a b → (IsK B gs gt gu gm (without m k) a ∧ Below B w a ∧ Ks w a ∧ UB a gU u (.slice A n' c)) → (IsK B gs gt gu gm (without m k) b ∧ Below B w b ∧ Ks w b ∧ UB b gU u (.slice A n' c))) := fun a b hb hz => ⟨hz.1.below hb, hz.2.1.trans (hb.mono hz.1.size), hz.2.2.1.trans (Ks.below hb), UB.below hz.2.2.2 hb⟩
 refine wp_region_inv (by kernel_rfl) (GW 9 v3 [] fun wr => (IsK B gs gt gu gm (without m k) wr ∧ Below B w wr ∧ Ks w wr ∧ UB wr gU u (.slice A n' c))) [is (.int .i64 0), is (.bool false), is (.bool false), is (.pointer (some ⟨gs, 0, none⟩)), is (.pointer (some ⟨gs, 0, none⟩)), is (.pointer (some ⟨gs, 2, none⟩)), is (.pointer (some ⟨gu, 0, none⟩)), is (.agg (cells u (.slice A n' c))), is (.agg #[.string s, .string h, .int .i64 p, .int .i64 n]), is (.bool true), is (.bool false), is (.bool false)] [[], [0], [1], [2], [2, 3], [2, 4], [2, 5], [2], [2], [2, 6, 7, 8], [2, 9], [2, 10]] (by kernel_rfl) (by repeat (first | exact free_nil | refine free_is _ ?_ | refine free_any ?_)) ?_ ?_ ?_
 ·exact fun t => Regw.GW.beg 9 v3 _ _ t
 ·refine ⟨?_, ?_, ?_, ?_, ?_, ?_, ?_, ?_, ?_, ?_, ?_, ?_, trivial⟩
  ·intro L t wq hG hL hC hN hh K hK
   clear hh
   simp only [filled, upd, Have, is, any, row, pick, Act.put, List.setIfInBounds_toArray, List.set_cons_zero, List.set_cons_succ, Nat.reduceAdd, Nat.reduceEqDiff, reduceIte] at hK ⊢
   go_simp
   exact hK _ _ rfl (Regw.stab HZ.out 0 rfl (Below.refl _ _) hG)
  ·intro L t wq hG hL hC hN hh K hK
   have e0 := hh.1
   simp only [pick] at e0
   replace e0 : t 0 = (.int .i64 0) := e0
   clear hh
   simp only [filled, upd, Have, is, any, row, pick, Act.put, List.setIfInBounds_toArray, List.set_cons_zero, List.set_cons_succ, Nat.reduceAdd, Nat.reduceEqDiff, reduceIte] at hK ⊢
   simp only [e0] at hK ⊢
   go_simp
   exact hK _ _ rfl (Regw.stab HZ.out 1 rfl (Below.refl _ _) hG)
  ·intro L t wq hG hL hC hN hh K hK
   have e1 := hh.1
   simp only [pick] at e1
   replace e1 : t 1 = (.bool false) := e1
   clear hh
   simp only [filled, upd, Have, is, any, row, pick, Act.put, List.setIfInBounds_toArray, List.set_cons_zero, List.set_cons_succ, Nat.reduceAdd, Nat.reduceEqDiff, reduceIte] at hK ⊢
   simp only [e1] at hK ⊢
   go_simp
   exact hK _ _ rfl (Regw.stab HZ.out 2 rfl (Below.refl _ _) hG)
  ·intro L t wq hG hL hC hN hh K hK
   have e2 := hh.1
   simp only [pick] at e2
   replace e2 : t 2 = (.bool false) := e2
   clear hh
   simp only [filled, upd, Have, is, any, row, pick, Act.put, List.setIfInBounds_toArray, List.set_cons_zero, List.set_cons_succ, Nat.reduceAdd, Nat.reduceEqDiff, reduceIte] at hK ⊢
   simp only [e2] at hK ⊢
   go_simp
   exact hK _ _ rfl (Regw.stab HZ.out 3 rfl (Below.refl _ _) hG)
  ·intro L t wq hG hL hC hN hh K hK
   have e2 := hh.1
   simp only [pick] at e2
   replace e2 : t 2 = (.bool false) := e2
   have e3 := hh.2.1
   simp only [pick] at e3
   replace e3 : t 3 = (.pointer (some ⟨gs, 0, none⟩)) := e3
   clear hh
   simp only [filled, upd, Have, is, any, row, pick, Act.put, List.setIfInBounds_toArray, List.set_cons_zero, List.set_cons_succ, Nat.reduceAdd, Nat.reduceEqDiff, reduceIte] at hK ⊢
   simp only [e2, e3] at hK ⊢
   go_simp
   exact hK _ _ rfl (Regw.stab HZ.out 4 rfl (Below.refl _ _) hG)
  ·intro L t wq hG hL hC hN hh K hK
   have e2 := hh.1
   simp only [pick] at e2
   replace e2 : t 2 = (.bool false) := e2
   have e4 := hh.2.1
   simp only [pick] at e4
   replace e4 : t 4 = (.pointer (some ⟨gs, 0, none⟩)) := e4
   clear hh
   simp only [filled, upd, Have, is, any, row, pick, Act.put, List.setIfInBounds_toArray, List.set_cons_zero, List.set_cons_succ, Nat.reduceAdd, Nat.reduceEqDiff, reduceIte] at hK ⊢
   simp only [e2, e4] at hK ⊢
   go_simp
   exact hK _ _ rfl (Regw.stab HZ.out 5 rfl (Below.refl _ _) hG)
  ·intro L t wq hG hL hC hN hh K hK
   have e2 := hh.1
   simp only [pick] at e2
   replace e2 : t 2 = (.bool false) := e2
   have e5 := hh.2.1
   simp only [pick] at e5
   replace e5 : t 5 = (.pointer (some ⟨gs, 2, none⟩)) := e5
   clear hh
   simp only [filled, upd, Have, is, any, row, pick, Act.put, List.setIfInBounds_toArray, List.set_cons_zero, List.set_cons_succ, Nat.reduceAdd, Nat.reduceEqDiff, reduceIte] at hK ⊢
   simp only [e2, e5] at hK ⊢
   have h9 : L 9 = false := by
    cases h : L 9 with
    | false => rfl
    | true => exact absurd (hC 9 h 6 (by decide)) (by rw [hL]; simp)
   have hq := ((hG.pre h9).1.cell (p := ⟨gs, 2, none⟩) HLT.out).trans c2
   go_simp
   exact hK _ _ rfl (Regw.stab HZ.out 6 rfl (Below.refl _ _) hG)
  ·intro L t wq hG hL hC hN hh K hK
   have e2 := hh.1
   simp only [pick] at e2
   replace e2 : t 2 = (.bool false) := e2
   clear hh
   simp only [filled, upd, Have, is, any, row, pick, Act.put, List.setIfInBounds_toArray, List.set_cons_zero, List.set_cons_succ, Nat.reduceAdd, Nat.reduceEqDiff, reduceIte] at hK ⊢
   simp only [e2] at hK ⊢
   have h9 : L 9 = false := by
    cases h : L 9 with
    | false => rfl
    | true => exact absurd (hC 9 h 7 (by decide)) (by rw [hL]; simp)
   refine step_load_g ((UB.below XU3.out (hG.pre h9).1).load) (.tmp 7) rfl (by go_simp) rfl ?_
   exact hK _ _ rfl (Regw.stab HZ.out 7 rfl (Below.refl _ _) hG)
  ·intro L t wq hG hL hC hN hh K hK
   have e2 := hh.1
   simp only [pick] at e2
   replace e2 : t 2 = (.bool false) := e2
   clear hh
   simp only [filled, upd, Have, is, any, row, pick, Act.put, List.setIfInBounds_toArray, List.set_cons_zero, List.set_cons_succ, Nat.reduceAdd, Nat.reduceEqDiff, reduceIte] at hK ⊢
   simp only [e2] at hK ⊢
   have h9 : L 9 = false := by
    cases h : L 9 with
    | false => rfl
    | true => exact absurd (hC 9 h 8 (by decide)) (by rw [hL]; simp)
   refine step_load_g (ob_load (OB.below XO3.out (hG.pre h9).1)) (.tmp 5) rfl (by go_simp) rfl ?_
   exact hK _ _ rfl (Regw.stab HZ.out 8 rfl (Below.refl _ _) hG)
  ·intro L t wq hG hL hC hN hh K hK
   have e2 := hh.1
   simp only [pick] at e2
   replace e2 : t 2 = (.bool false) := e2
   have e6 := hh.2.1
   simp only [pick] at e6
   replace e6 : t 6 = (.pointer (some ⟨gu, 0, none⟩)) := e6
   have e7 := hh.2.2.1
   simp only [pick] at e7
   replace e7 : t 7 = (.agg (cells u (.slice A n' c))) := e7
   have e8 := hh.2.2.2.1
   simp only [pick] at e8
   replace e8 : t 8 = (.agg #[.string s, .string h, .int .i64 p, .int .i64 n]) := e8
   clear hh
   simp only [filled, upd, Have, is, any, row, pick, Act.put, List.setIfInBounds_toArray, List.set_cons_zero, List.set_cons_succ, Nat.reduceAdd, Nat.reduceEqDiff, reduceIte] at hK ⊢
   simp only [e2, e6, e7, e8] at hK ⊢
   obtain ⟨hp9, _⟩ := hG.pre hL
   go_simp
   have HKq := HK3.out.below hp9
   refine (StoD.rev_yes B gu m.ucap m.urls (cells u (.slice A n' c)) (strOf T) s h p n _ HKq.sto (Nat.le_trans HKq.fit.un HKq.fit.u64) rfl k HKL.out HI.out HH.out (hid fun w' hb => HBR.out A n' c w' (((bel HB3.out hp9).mono HBW.out).trans (hb.mono (Nat.le_trans HBW.out ((bel HB3.out hp9).size)))) (PthIs.below (PthIs.below HPT3.out hp9) hb))).mono ?_
   rintro e w6 ⟨rfl, hS, hb, hkp⟩
   have hz : (IsK B gs gt gu gm (without m k) w6 ∧ Below B w w6 ∧ Ks w w6 ∧ UB w6 gU u (.slice A n' c)) := ⟨IsK.sto' (m' := without m k) HKq hkp hS (fun g hg => HKq.blo g (live_out hg)) (fit_out HKq.fit k) rfl rfl rfl rfl rfl rfl rfl, (HB3.out.mono HBW.out).trans ((hp9.mono HK3.out.size).trans hb), (Ks.below (bel HB3.out hp9)).trans (Ks.sto hkp), hkp.cells (UB.below XU3.out hp9) (by decide) (by decide)⟩
   exact hK _ _ rfl (Regw.call hz)
  ·intro L t wq hG hL hC hN hh K hK
   have e2 := hh.1
   simp only [pick] at e2
   replace e2 : t 2 = (.bool false) := e2
   have e9 := hh.2.1
   simp only [pick] at e9
   replace e9 : t 9 = (.bool true) := e9
   clear hh
   simp only [filled, upd, Have, is, any, row, pick, Act.put, List.setIfInBounds_toArray, List.set_cons_zero, List.set_cons_succ, Nat.reduceAdd, Nat.reduceEqDiff, reduceIte] at hK ⊢
   simp only [e2, e9] at hK ⊢
   go_simp
   exact hK _ _ rfl (Regw.stab HZ.out 10 rfl (Below.refl _ _) hG)
  ·intro L t wq hG hL hC hN hh K hK
   have e2 := hh.1
   simp only [pick] at e2
   replace e2 : t 2 = (.bool false) := e2
   have e10 := hh.2.1
   simp only [pick] at e10
   replace e10 : t 10 = (.bool false) := e10
   clear hh
   simp only [filled, upd, Have, is, any, row, pick, Act.put, List.setIfInBounds_toArray, List.set_cons_zero, List.set_cons_succ, Nat.reduceAdd, Nat.reduceEqDiff, reduceIte] at hK ⊢
   simp only [e2, e10] at hK ⊢
   go_simp
   exact hK _ _ rfl (Regw.stab HZ.out 11 rfl (Below.refl _ _) hG)
 ·intro Lz t wq hG hall hh
  have f11 := have_get hh 11 (by decide)
  simp only [pick] at f11
  replace f11 : t 11 = (.bool false) := f11
  clear hh
  simp only [filled, upd, Have, is, any, row, pick, Act.put, List.setIfInBounds_toArray, List.set_cons_zero, List.set_cons_succ, Nat.reduceAdd, Nat.reduceEqDiff, reduceIte]
  simp only [f11]
  obtain ⟨z1, z2, z3, z4⟩ := hG.post (hall 9 (by decide))
  have HK6 := hid z1
  have HB6 := hid z2
  have HS6 := hid z3
  have XU6 := hid z4
  have HP6 : Hid (PthIs wq u A n' c) := StoR.pth_any HPT.out HPT3.out
  clear hG hall z1 z2 z3 z4 c2
  generalize hw6 : wq = w6 at HK6 HB6 HS6 XU6 HP6 ⊢
  clear hw6
  have HLU := hid (XU6.out.load)
  go_wp2_with (refine load_as HLU.out (.tmp 7) rfl rfl rfl ?_)
  refine (tell_any B gs gt gu gm (without m k) (cells u (.slice A n' c)) rfl T HTL.out _ HK6.out (hid fun w' hb => HBR.out A n' c w' (HB6.out.trans (hb.mono HK6.out.size)) (PthIs.below HP6.out hb))).mono ?_
  rintro e w7 ⟨rfl, hK7, hb7, hs7⟩
  have HK7 := hid hK7
  have HB7 : Hid (Below B w w7) := HB6.out.trans hb7
  have HS7 : Hid (Ks w w7) := HS6.out.trans hs7
  clear hK7 hb7 hs7 HLU
  go_wp2
  go_ret
  exact ⟨rfl, HK7.out, HB7.out, HS7.out⟩
set_option maxRecDepth 100000 in
set_option maxHeartbeats 4000000 in
theorem revoke_no (B gs gt gu gm : Nat) (m : SM) (T0 T : List UInt8) (u : U) (s h : ByteArray) (p n : Int) (w : World) (hK : IsK B gs gt gu gm m w) (hh : StoD.hasO m.urls (strOf T) s h p n = false)
  (HP : Hid (∀ w', Below w.heap.size w w' → Calls Tryz.prog 45 #[.string (strOf T0), .pointer none] w' fun e w'' => ∃ A n' c, e = .returned (.tuple #[.agg (cells u (.slice A n' c)), .int .i64 0]) ∧ PthIs w'' u A n' c ∧ Below w'.heap.size w' w''))
  (HBR : Hid (∀ (A : Option Addr) (n' c : Nat) (w' : World), Below B w w' → PthIs w' u A n' c → Calls Tryz.prog 75 #[.agg (cells u (.slice A n' c))] w' fun e w'' => e = .returned (.string (strOf T)) ∧ Below w'.heap.size w' w'')) :
  Calls Tryz.prog 19 #[.pointer (some ⟨gs, 0, none⟩), .string (strOf T0), .agg #[.string s, .string h, .int .i64 p, .int .i64 n]] w fun e w' => e = .returned (.bool false) ∧ Below w.heap.size w w' := by
 have HK0 := hid hK
 have HH := hid hh
 have HBW : Hid (B ≤ w.heap.size) := hK.size
 clear hK hh
 go_enter Tryz.func19, Tryz.ntmps19
 go_upto_region 1 with (fail)
 generalize hwa : World.alloc w _ = v1
 have h1_ : OB v1 w.heap.size s h p n ∧ Below w.heap.size w v1 := by
  subst hwa
  exact laid1 w _ _
 clear hwa
 have XO1 := hid h1_.1
 have HB1 := hid h1_.2
 clear h1_
 have HK1 := hid (HK0.out.below HB1.out)
 go_wp2_with fail
 refine (HP.out _ HB1.out).mono ?_
 rintro e v2 ⟨A, n', c, rfl, hpt, hb2⟩
 have XO2 := hid (OB.below XO1.out hb2)
 have HK2 := hid (HK1.out.below hb2)
 have HB2 := hid (bel HB1.out hb2)
 have HPT2 := hid hpt
 clear XO1 HB1 HK1 HK0 hb2 hpt
 rw [show Value.agg (cells u (.slice A n' c)) = .agg #[.string (strOf u.sch), .string (strOf u.usr), .string (strOf u.pwd), .string (strOf u.hst), .bool u.hh, .int .i64 u.port, .bool u.opq, .string (strOf u.txt), .slice A n' c, .bool u.hq, .bool u.hf, .string (strOf u.qry), .string (strOf u.frg)] from rfl]
 go_upto_region 4 with (fail)
 generalize hwa : World.alloc v2 _ = v3
 have h3_ : UB v3 v2.heap.size u (.slice A n' c) ∧ Below v2.heap.size v2 v3 := by
  subst hwa
  exact laid1 v2 _ _
 clear hwa
 have XO3 := hid (OB.below XO2.out h3_.2)
 have HK3 := hid (HK2.out.below h3_.2)
 have HB3 := hid (bel HB2.out h3_.2)
 have HPT3 := hid (PthIs.below HPT2.out h3_.2)
 have XU3 := hid h3_.1
 clear h3_ XO2 HK2 HB2 HPT2
 obtain ⟨gU, hgU⟩ : ∃ x, x = v2.heap.size := ⟨_, rfl⟩
 rw [← hgU] at XU3 ⊢
 clear hgU
 obtain ⟨c0, c1, c2, c3⟩ := HK3.out.facts
 have HLT : Hid (gs < v3.heap.size) := HK3.out.lt
 clear c0 c1 c3
 refine wp_region_rel (by kernel_rfl) [is (.int .i64 0), is (.bool false), is (.bool false), is (.pointer (some ⟨gs, 0, none⟩)), is (.pointer (some ⟨gs, 0, none⟩)), is (.pointer (some ⟨gs, 2, none⟩)), is (.pointer (some ⟨gu, 0, none⟩)), is (.agg (cells u (.slice A n' c))), is (.agg #[.string s, .string h, .int .i64 p, .int .i64 n]), is (.bool false), is (.bool true), is (.bool true)] [[], [0], [1], [2], [2, 3], [2, 4], [2, 5], [2], [2], [2, 6, 7, 8], [2, 9], [2, 10]] (by kernel_rfl) ?_ ?_
 ·refine ⟨?_, ?_, ?_, ?_, ?_, ?_, ?_, ?_, ?_, ?_, ?_, ?_, trivial⟩
  ·intro t wq hbq hh K hK
   clear hh
   simp only [filled, upd, Have, is, any, row, pick, Act.put, List.setIfInBounds_toArray, List.set_cons_zero, List.set_cons_succ, Nat.reduceAdd, Nat.reduceEqDiff, reduceIte] at hK ⊢
   go_simp
   exact hK _ _ (Below.refl _ _) rfl
  ·intro t wq hbq hh K hK
   have e0 := hh.1
   simp only [pick] at e0
   replace e0 : t 0 = (.int .i64 0) := e0
   clear hh
   simp only [filled, upd, Have, is, any, row, pick, Act.put, List.setIfInBounds_toArray, List.set_cons_zero, List.set_cons_succ, Nat.reduceAdd, Nat.reduceEqDiff, reduceIte] at hK ⊢
   simp only [e0] at hK ⊢
   go_simp
   first | exact hK _ _ (Below.refl _ _) rfl | exact hK _ _ (Below.refl _ _) (int_wrap (by omega) (by omega))
  ·intro t wq hbq hh K hK
   have e1 := hh.1
   simp only [pick] at e1
   replace e1 : t 1 = (.bool false) := e1
   clear hh
   simp only [filled, upd, Have, is, any, row, pick, Act.put, List.setIfInBounds_toArray, List.set_cons_zero, List.set_cons_succ, Nat.reduceAdd, Nat.reduceEqDiff, reduceIte] at hK ⊢
   simp only [e1] at hK ⊢
   go_simp
   exact hK _ _ (Below.refl _ _) rfl
  ·intro t wq hbq hh K hK
   have e2 := hh.1
   simp only [pick] at e2
   replace e2 : t 2 = (.bool false) := e2
   clear hh
   simp only [filled, upd, Have, is, any, row, pick, Act.put, List.setIfInBounds_toArray, List.set_cons_zero, List.set_cons_succ, Nat.reduceAdd, Nat.reduceEqDiff, reduceIte] at hK ⊢
   simp only [e2] at hK ⊢
   go_simp
   exact hK _ _ (Below.refl _ _) rfl
  ·intro t wq hbq hh K hK
   have e2 := hh.1
   simp only [pick] at e2
   replace e2 : t 2 = (.bool false) := e2
   have e3 := hh.2.1
   simp only [pick] at e3
   replace e3 : t 3 = (.pointer (some ⟨gs, 0, none⟩)) := e3
   clear hh
   simp only [filled, upd, Have, is, any, row, pick, Act.put, List.setIfInBounds_toArray, List.set_cons_zero, List.set_cons_succ, Nat.reduceAdd, Nat.reduceEqDiff, reduceIte] at hK ⊢
   simp only [e2, e3] at hK ⊢
   go_simp
   exact hK _ _ (Below.refl _ _) rfl
  ·intro t wq hbq hh K hK
   have e2 := hh.1
   simp only [pick] at e2
   replace e2 : t 2 = (.bool false) := e2
   have e4 := hh.2.1
   simp only [pick] at e4
   replace e4 : t 4 = (.pointer (some ⟨gs, 0, none⟩)) := e4
   clear hh
   simp only [filled, upd, Have, is, any, row, pick, Act.put, List.setIfInBounds_toArray, List.set_cons_zero, List.set_cons_succ, Nat.reduceAdd, Nat.reduceEqDiff, reduceIte] at hK ⊢
   simp only [e2, e4] at hK ⊢
   go_simp
   exact hK _ _ (Below.refl _ _) rfl
  ·intro t wq hbq hh K hK
   have e2 := hh.1
   simp only [pick] at e2
   replace e2 : t 2 = (.bool false) := e2
   have e5 := hh.2.1
   simp only [pick] at e5
   replace e5 : t 5 = (.pointer (some ⟨gs, 2, none⟩)) := e5
   clear hh
   simp only [filled, upd, Have, is, any, row, pick, Act.put, List.setIfInBounds_toArray, List.set_cons_zero, List.set_cons_succ, Nat.reduceAdd, Nat.reduceEqDiff, reduceIte] at hK ⊢
   simp only [e2, e5] at hK ⊢
   have hq := (hbq.cell (p := ⟨gs, 2, none⟩) HLT.out).trans c2
   go_simp
   exact hK _ _ (Below.refl _ _) rfl
  ·intro t wq hbq hh K hK
   have e2 := hh.1
   simp only [pick] at e2
   replace e2 : t 2 = (.bool false) := e2
   clear hh
   simp only [filled, upd, Have, is, any, row, pick, Act.put, List.setIfInBounds_toArray, List.set_cons_zero, List.set_cons_succ, Nat.reduceAdd, Nat.reduceEqDiff, reduceIte] at hK ⊢
   simp only [e2] at hK ⊢
   refine step_load_g ((UB.below XU3.out hbq).load) (.tmp 7) rfl (by go_simp) rfl ?_
   exact hK _ _ (Below.refl _ _) rfl
  ·intro t wq hbq hh K hK
   have e2 := hh.1
   simp only [pick] at e2
   replace e2 : t 2 = (.bool false) := e2
   clear hh
   simp only [filled, upd, Have, is, any, row, pick, Act.put, List.setIfInBounds_toArray, List.set_cons_zero, List.set_cons_succ, Nat.reduceAdd, Nat.reduceEqDiff, reduceIte] at hK ⊢
   simp only [e2] at hK ⊢
   refine step_load_g (ob_load (OB.below XO3.out hbq)) (.tmp 5) rfl (by go_simp) rfl ?_
   exact hK _ _ (Below.refl _ _) rfl
  ·intro t wq hbq hh K hK
   have e2 := hh.1
   simp only [pick] at e2
   replace e2 : t 2 = (.bool false) := e2
   have e6 := hh.2.1
   simp only [pick] at e6
   replace e6 : t 6 = (.pointer (some ⟨gu, 0, none⟩)) := e6
   have e7 := hh.2.2.1
   simp only [pick] at e7
   replace e7 : t 7 = (.agg (cells u (.slice A n' c))) := e7
   have e8 := hh.2.2.2.1
   simp only [pick] at e8
   replace e8 : t 8 = (.agg #[.string s, .string h, .int .i64 p, .int .i64 n]) := e8
   clear hh
   simp only [filled, upd, Have, is, any, row, pick, Act.put, List.setIfInBounds_toArray, List.set_cons_zero, List.set_cons_succ, Nat.reduceAdd, Nat.reduceEqDiff, reduceIte] at hK ⊢
   simp only [e2, e6, e7, e8] at hK ⊢
   go_simp
   have HKq := HK3.out.below hbq
   refine (StoD.rev_no B gu m.ucap m.urls (cells u (.slice A n' c)) (strOf T) s h p n _ HKq.sto (Nat.le_trans HKq.fit.un HKq.fit.u64) rfl HH.out (hid fun w' hb => HBR.out A n' c w' (((bel HB3.out hbq).mono HBW.out).trans (hb.mono (Nat.le_trans HBW.out ((bel HB3.out hbq).size)))) (PthIs.below (PthIs.below HPT3.out hbq) hb))).mono ?_
   rintro e w9 ⟨rfl, hb9⟩
   exact hK _ _ hb9 rfl
  ·intro t wq hbq hh K hK
   have e2 := hh.1
   simp only [pick] at e2
   replace e2 : t 2 = (.bool false) := e2
   have e9 := hh.2.1
   simp only [pick] at e9
   replace e9 : t 9 = (.bool false) := e9
   clear hh
   simp only [filled, upd, Have, is, any, row, pick, Act.put, List.setIfInBounds_toArray, List.set_cons_zero, List.set_cons_succ, Nat.reduceAdd, Nat.reduceEqDiff, reduceIte] at hK ⊢
   simp only [e2, e9] at hK ⊢
   go_simp
   exact hK _ _ (Below.refl _ _) rfl
  ·intro t wq hbq hh K hK
   have e2 := hh.1
   simp only [pick] at e2
   replace e2 : t 2 = (.bool false) := e2
   have e10 := hh.2.1
   simp only [pick] at e10
   replace e10 : t 10 = (.bool true) := e10
   clear hh
   simp only [filled, upd, Have, is, any, row, pick, Act.put, List.setIfInBounds_toArray, List.set_cons_zero, List.set_cons_succ, Nat.reduceAdd, Nat.reduceEqDiff, reduceIte] at hK ⊢
   simp only [e2, e10] at hK ⊢
   go_simp
   exact hK _ _ (Below.refl _ _) rfl
 ·intro t wq hbq hh
  have f11 := have_get hh 11 (by decide)
  simp only [pick] at f11
  replace f11 : t 11 = (.bool true) := f11
  clear hh
  simp only [filled, upd, Have, is, any, row, pick, Act.put, List.setIfInBounds_toArray, List.set_cons_zero, List.set_cons_succ, Nat.reduceAdd, Nat.reduceEqDiff, reduceIte]
  simp only [f11]
  have HB6 := hid (bel HB3.out hbq)
  clear hbq c2
  go_wp2
  go_ret
  exact ⟨rfl, HB6.out⟩
theorem notice_u (B gs gt gu gm : Nat) (m : SM) (x : ByteArray) (U' : List Value) (hU : m.U = .string x :: U') (w : World) (hK : IsK B gs gt gu gm m w) :
  Calls Tryz.prog 17 #[.pointer (some ⟨gs, 0, none⟩)] w fun e w' => e = .returned (.tuple #[.string x, .bool true]) ∧ IsK B gs gt gu gm { m with U := U' } w' ∧ Below B w w' ∧ Ks w w' := by
 have HK0 := hid hK
 have hM := hK.mai
 rw [hU] at hM
 have HM := hid hM
 have HU := hid hU
 obtain ⟨c0, c1, c2, c3⟩ := hK.facts
 have hlt := hK.lt
 clear hK hM hU c0 c1 c2
 go_enter Tryz.func17, Tryz.ntmps17
 go_wp2_with fail
 refine (tkS_urgent B gm m.ucap U' m.P x _ HM.out).mono ?_
 rintro e w1 ⟨rfl, hM, hb, hkp⟩
 have HK1 : Hid (IsK B gs gt gu gm { m with U := U' } w1) := IsK.mai' HK0.out hkp U' m.P hM
 have HB1 := hid hb
 have HS1 := hid (Ks.mail hkp)
 clear hM hb hkp c3 hlt
 go_wp2
 go_ret2
 exact ⟨rfl, HK1.out, HB1.out, HS1.out⟩
theorem notice_p (B gs gt gu gm : Nat) (m : SM) (x : ByteArray) (P' : List Value) (hU : m.U = []) (hP : m.P = .string x :: P') (w : World) (hK : IsK B gs gt gu gm m w) :
  Calls Tryz.prog 17 #[.pointer (some ⟨gs, 0, none⟩)] w fun e w' => e = .returned (.tuple #[.string x, .bool true]) ∧ IsK B gs gt gu gm { m with P := P' } w' ∧ Below B w w' ∧ Ks w w' := by
 have HK0 := hid hK
 have hM := hK.mai
 rw [hU, hP] at hM
 have HM := hid hM
 have HU := hid hU
 have HPP := hid hP
 clear hP
 obtain ⟨c0, c1, c2, c3⟩ := hK.facts
 have hlt := hK.lt
 clear hK hM hU c0 c1 c2
 go_enter Tryz.func17, Tryz.ntmps17
 go_wp2_with fail
 refine (tkS_plain B gm m.ucap P' x _ HM.out).mono ?_
 rintro e w1 ⟨rfl, hM, hb, hkp⟩
 have HK1 : Hid (IsK B gs gt gu gm { m with P := P' } w1) := (by have h := IsK.mai' HK0.out hkp [] P' hM; rw [← HU.out] at h; exact h)
 have HB1 := hid hb
 have HS1 := hid (Ks.mail hkp)
 clear hM hb hkp c3 hlt
 go_wp2
 go_ret2
 exact ⟨rfl, HK1.out, HB1.out, HS1.out⟩
theorem urls_any (B gs gt gu gm : Nat) (m : SM) (w : World) (hK : IsK B gs gt gu gm m w) :
  Calls Tryz.prog 20 #[.pointer (some ⟨gs, 0, none⟩)] w fun e w' => ∃ v, e = .returned v ∧ w'.ownsRow w.heap.size 9 1 v m.urls.length (StoD.us m.urls) ∧ Below w.heap.size w w' := by
 have HK0 := hid hK
 obtain ⟨c0, c1, c2, c3⟩ := hK.facts
 have hlt := hK.lt
 clear hK c0 c1 c3
 go_enter Tryz.func20, Tryz.ntmps20
 go_wp2_with fail
 refine (StoD.urls_any B gu m.ucap m.urls _ HK0.out.sto (Nat.le_trans HK0.out.fit.un HK0.out.fit.u64)).mono ?_
 rintro e w1 ⟨v, rfl, hown, hb⟩
 have HO1 := hid hown
 have HB1 := hid hb
 clear hown hb c2 hlt
 go_wp2
 go_ret
 exact ⟨v, rfl, HO1.out, HB1.out⟩
set_option maxRecDepth 100000 in
set_option maxHeartbeats 4000000 in
theorem slice_ok (B gs gt gu gm : Nat) (m : SM) (hd : Int) (k : Nat) (vf vt : Value) (of ot : Option Int) (s : ByteArray) (w : World) (hK : IsK B gs gt gu gm m w) (hi : TbK.idx m.tbl hd = some k) (hk : k < m.tbl.length) (hf : Ptr w vf of) (ht : Ptr w vt ot) (hs : s.size ≤ maxLen) (LL : List UInt8) (hLL : LL = ((m.bl m.tbl[k].2).1.drop (pl of 0 (m.bl m.tbl[k].2).1.length)).take (max (pl of 0 (m.bl m.tbl[k].2).1.length) (pl ot (m.bl m.tbl[k].2).1.length (m.bl m.tbl[k].2).1.length) - pl of 0 (m.bl m.tbl[k].2).1.length)) (hq : total m + LL.length ≤ m.bytes) (hr : m.tbl.length < m.bcap) (hl : m.last ≤ 100000) :
  Calls Tryz.prog 15 #[.pointer (some ⟨gs, 0, none⟩), .int .i64 hd, vf, vt, .string s] w fun e w' => ∃ g, e = .returned (.tuple #[.int .i64 ((m.last : Int) + 1), .int .i64 0]) ∧ w.heap.size ≤ g ∧ IsK B gs gt gu gm (more m g LL (kd s.data.toList)) w' ∧ Below B w w' ∧ Ks w w' := by
 have HK0 := hid hK
 have HG : Hid (TbB.got m.tbl hd = .tuple #[.pointer (some ⟨m.tbl[k].2, 0, none⟩), .bool true]) := by
  show _ = _
  unfold TbB.got
  rw [hi]
  simp only
  rw [List.getElem?_eq_getElem hk]
  rfl
 have HF := hid hf
 have HT := hid ht
 have HRM := hid hr
 have HLA := hid hl
 have HQQ := hid hq
 have HSS := hid hs
 have HBL := hid (hK.blo m.tbl[k].2 (.inl ⟨_, List.getElem_mem hk, rfl⟩))
 have HBS : Hid ((m.bl m.tbl[k].2).1.length ≤ 1048576) := by
  have h1 := part_succ m k hk
  have h2 := part_le m (k + 1)
  have h3 := hK.fit.sum
  have h4 := hK.fit.cap
  show _ ≤ _
  omega
 have HBW : Hid (B ≤ w.heap.size) := hK.size
 have HQD : Hid (decide ((m.bytes : Int) < (total m : Int) + (LL.length : Int)) = false) := by show _ = _; rw [decide_eq_false]; omega
 have hcap : total m + LL.length ≤ 1048576 := Nat.le_trans hq hK.fit.cap
 obtain ⟨gk, hgk⟩ : ∃ x, x = m.tbl[k].2 := ⟨_, rfl⟩
 have HLL : Hid (LL = ((m.bl gk).1.drop (pl of 0 (m.bl gk).1.length)).take (max (pl of 0 (m.bl gk).1.length) (pl ot (m.bl gk).1.length (m.bl gk).1.length) - pl of 0 (m.bl gk).1.length)) := by rw [hgk]; exact hLL
 rw [← hgk] at HG HBL HBS
 obtain ⟨c0, c1, c2, c3⟩ := hK.facts
 have hlt := hK.lt
 clear hK hi hf ht hs hLL hq hr hl hgk hk
 go_enter Tryz.func15, Tryz.ntmps15
 go_wp2_with fail
 refine (TbB.get_any B gt m.bcap m.last m.tbl hd _ HK0.out.tab (Nat.le_trans HK0.out.fit.tn HK0.out.fit.b64)).mono ?_
 rw [HG.out]
 rintro e v1 ⟨rfl, hb1⟩
 have HK1 := hid (HK0.out.below hb1)
 have HBL1 := hid (HBL.out.below hb1)
 have HF1 := hid (HF.out.below hb1)
 have HT1 := hid (HT.out.below hb1)
 have HB1 := hid hb1
 clear hb1 c0 c1 c2 c3 hlt HK0 HBL HF HT
 go_wp2_with fail
 refine (slice_k gk _ _ _ vf vt of ot s _ HBL1.out.at (by have := HBS.out; omega) HF1.out HT1.out HSS.out).mono ?_
 rw [← HLL.out]
 rintro e v2 ⟨g2, rfl, hg2, hbk, hb2⟩
 have HK2 := hid (HK1.out.below hb2)
 have HB2 := hid (bel HB1.out hb2)
 have HG2 : Hid (v1.heap.size ≤ g2) := hg2
 have HBK2 := hid hbk
 have HV1 : Hid (w.heap.size ≤ v1.heap.size) := HB1.out.size
 have HNL : Hid (¬ Live m g2) := fun hl => by have h1 := IsK.live_lt HK1.out hl; have h2 := hg2; omega
 obtain ⟨c0, c1, c2, c3⟩ := HK2.out.facts
 have HLT : Hid (gs < v2.heap.size) := HK2.out.lt
 have HB0 : Hid (B ≤ v1.heap.size) := HK1.out.size
 clear hg2 hbk hb2 HK1 HBL1 HF1 HT1 HB1
 go_upto_region 7 with (fail)
 refine wp_region_rel (by kernel_rfl) [is (.pointer (some ⟨gs, 0, none⟩)), is (.int .i64 (total m : Int)), is (.pointer (some ⟨g2, 0, none⟩)), is (.int .i64 (LL.length : Int)), is (.int .i64 ((total m : Int) + (LL.length : Int))), is (.pointer (some ⟨gs, 0, none⟩)), is (.pointer (some ⟨gs, 0, none⟩)), is (.pointer (some ⟨gs, 0, none⟩)), is (.int .i64 (m.bytes : Int)), is (.bool (decide ((m.bytes : Int) < (total m : Int) + (LL.length : Int))))] [[], [0], [], [2], [1, 3], [], [5], [6], [7], [4, 8]] (by kernel_rfl) ?_ ?_
 ·refine ⟨?_, ?_, ?_, ?_, ?_, ?_, ?_, ?_, ?_, ?_, trivial⟩
  ·intro t wq hbq hh K hK
   clear hh
   simp only [filled, upd, Have, is, any, row, pick, Act.put, List.setIfInBounds_toArray, List.set_cons_zero, List.set_cons_succ, Nat.reduceAdd, Nat.reduceEqDiff, reduceIte] at hK ⊢
   go_simp
   exact hK _ _ (Below.refl _ _) rfl
  ·intro t wq hbq hh K hK
   have e0 := hh.1
   simp only [pick] at e0
   replace e0 : t 0 = (.pointer (some ⟨gs, 0, none⟩)) := e0
   clear hh
   simp only [filled, upd, Have, is, any, row, pick, Act.put, List.setIfInBounds_toArray, List.set_cons_zero, List.set_cons_succ, Nat.reduceAdd, Nat.reduceEqDiff, reduceIte] at hK ⊢
   simp only [e0] at hK ⊢
   go_simp
   refine (StkA.bytes_any B gs gt gu gm m _ (HK2.out.below hbq)).mono ?_
   rintro e w9 ⟨rfl, hb9⟩
   exact hK _ _ hb9 rfl
  ·intro t wq hbq hh K hK
   clear hh
   simp only [filled, upd, Have, is, any, row, pick, Act.put, List.setIfInBounds_toArray, List.set_cons_zero, List.set_cons_succ, Nat.reduceAdd, Nat.reduceEqDiff, reduceIte] at hK ⊢
   go_simp
   exact hK _ _ (Below.refl _ _) rfl
  ·intro t wq hbq hh K hK
   have e2 := hh.1
   simp only [pick] at e2
   replace e2 : t 2 = (.pointer (some ⟨g2, 0, none⟩)) := e2
   clear hh
   simp only [filled, upd, Have, is, any, row, pick, Act.put, List.setIfInBounds_toArray, List.set_cons_zero, List.set_cons_succ, Nat.reduceAdd, Nat.reduceEqDiff, reduceIte] at hK ⊢
   simp only [e2] at hK ⊢
   go_simp
   refine (BlobB.len_any g2 _ _ _ _ (HBK2.out.below hbq).at).mono ?_
   rintro e w9 ⟨rfl, hb9⟩
   exact hK _ _ hb9 rfl
  ·intro t wq hbq hh K hK
   have e1 := hh.1
   simp only [pick] at e1
   replace e1 : t 1 = (.int .i64 (total m : Int)) := e1
   have e3 := hh.2.1
   simp only [pick] at e3
   replace e3 : t 3 = (.int .i64 (LL.length : Int)) := e3
   clear hh
   simp only [filled, upd, Have, is, any, row, pick, Act.put, List.setIfInBounds_toArray, List.set_cons_zero, List.set_cons_succ, Nat.reduceAdd, Nat.reduceEqDiff, reduceIte] at hK ⊢
   simp only [e1, e3] at hK ⊢
   go_simp
   first | exact hK _ _ (Below.refl _ _) rfl | exact hK _ _ (Below.refl _ _) (int_wrap (by omega) (by omega))
  ·intro t wq hbq hh K hK
   clear hh
   simp only [filled, upd, Have, is, any, row, pick, Act.put, List.setIfInBounds_toArray, List.set_cons_zero, List.set_cons_succ, Nat.reduceAdd, Nat.reduceEqDiff, reduceIte] at hK ⊢
   go_simp
   exact hK _ _ (Below.refl _ _) rfl
  ·intro t wq hbq hh K hK
   have e5 := hh.1
   simp only [pick] at e5
   replace e5 : t 5 = (.pointer (some ⟨gs, 0, none⟩)) := e5
   clear hh
   simp only [filled, upd, Have, is, any, row, pick, Act.put, List.setIfInBounds_toArray, List.set_cons_zero, List.set_cons_succ, Nat.reduceAdd, Nat.reduceEqDiff, reduceIte] at hK ⊢
   simp only [e5] at hK ⊢
   go_simp
   exact hK _ _ (Below.refl _ _) rfl
  ·intro t wq hbq hh K hK
   have e6 := hh.1
   simp only [pick] at e6
   replace e6 : t 6 = (.pointer (some ⟨gs, 0, none⟩)) := e6
   clear hh
   simp only [filled, upd, Have, is, any, row, pick, Act.put, List.setIfInBounds_toArray, List.set_cons_zero, List.set_cons_succ, Nat.reduceAdd, Nat.reduceEqDiff, reduceIte] at hK ⊢
   simp only [e6] at hK ⊢
   go_simp
   exact hK _ _ (Below.refl _ _) rfl
  ·intro t wq hbq hh K hK
   have e7 := hh.1
   simp only [pick] at e7
   replace e7 : t 7 = (.pointer (some ⟨gs, 0, none⟩)) := e7
   clear hh
   simp only [filled, upd, Have, is, any, row, pick, Act.put, List.setIfInBounds_toArray, List.set_cons_zero, List.set_cons_succ, Nat.reduceAdd, Nat.reduceEqDiff, reduceIte] at hK ⊢
   simp only [e7] at hK ⊢
   have hq := (hbq.cell (p := ⟨gs, 0, none⟩) HLT.out).trans c0
   go_simp
   exact hK _ _ (Below.refl _ _) rfl
  ·intro t wq hbq hh K hK
   have e4 := hh.1
   simp only [pick] at e4
   replace e4 : t 4 = (.int .i64 ((total m : Int) + (LL.length : Int))) := e4
   have e8 := hh.2.1
   simp only [pick] at e8
   replace e8 : t 8 = (.int .i64 (m.bytes : Int)) := e8
   clear hh
   simp only [filled, upd, Have, is, any, row, pick, Act.put, List.setIfInBounds_toArray, List.set_cons_zero, List.set_cons_succ, Nat.reduceAdd, Nat.reduceEqDiff, reduceIte] at hK ⊢
   simp only [e4, e8] at hK ⊢
   go_simp
   go_simp
   exact hK _ _ (Below.refl _ _) rfl
 ·intro t wq hbq hh
  have f9 := have_get hh 9 (by decide)
  simp only [pick] at f9
  replace f9 : t 9 = (.bool (decide ((m.bytes : Int) < (total m : Int) + (LL.length : Int)))) := f9
  clear hh
  simp only [filled, upd, Have, is, any, row, pick, Act.put, List.setIfInBounds_toArray, List.set_cons_zero, List.set_cons_succ, Nat.reduceAdd, Nat.reduceEqDiff, reduceIte]
  simp only [f9]
  rw [HQD.out]
  have HK3 := hid (HK2.out.below hbq)
  have HBK3 := hid (HBK2.out.below hbq)
  have HB3 := hid (bel HB2.out hbq)
  clear hbq c0 c1 c2 c3 HK2 HBK2 HB2 HLT
  generalize hw3 : wq = w3 at HK3 HBK3 HB3 ⊢
  clear hw3 hcap HQD
  obtain ⟨c0, c1, c2, c3⟩ := HK3.out.facts
  have hlt := HK3.out.lt
  clear c0 c2 c3
  go_wp2_with fail
  refine (TbB.put_any B gt m.bcap m.last m.tbl g2 _ HK3.out.tab HRM.out HK3.out.fit.b64 HLA.out).mono ?_
  rintro e w6 ⟨rfl, hT, hb, hk⟩
  have HK6 : Hid (IsK B gs gt gu gm (more m g2 LL (kd s.data.toList)) w6) := IsK.tab' (m' := more m g2 LL (kd s.data.toList)) HK3.out hk hT (blobs_more HK3.out HB0.out HBK3.out HNL.out) (fit_more HK3.out.fit g2 LL _ HNL.out HRM.out HQQ.out) rfl rfl rfl rfl rfl
  have HB6 : Hid (Below B w w6) := (HB3.out.mono HBW.out).trans hb
  have HS6 : Hid (Ks w w6) := (Ks.below HB3.out).trans (Ks.tab hk)
  clear hT hb hk c1 hlt
  go_wp2
  go_ret2
  exact ⟨g2, rfl, Nat.le_trans HV1.out HG2.out, HK6.out, HB6.out, HS6.out⟩
end Go.Proofs.YtegpfgccaminkaaGreatDoor.StkC
