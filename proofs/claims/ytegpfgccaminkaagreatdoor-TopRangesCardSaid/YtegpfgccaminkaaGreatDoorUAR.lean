/- Texts that belong together: FetC, StkF, SlsP, PosQ, Sls, RefS, RefN, RefM, RefC, RefD, RefV, TokP, TokQ, TokA, PosA, PosB, PosS, Base4, BldK, EscK. -/
import Derived.Test.YtegpfgccaminkaaGreatDoorUAP
import Derived.Test.YtegpfgccaminkaaGreatDoorUAQ
import Derived.Test.YtegpfgccaminkaaGreatDoorUAI
import Derived.Test.YtegpfgccaminkaaGreatDoorUAJ
import Derived.Test.YtegpfgccaminkaaGreatDoorUAA
import Derived.Test.YtegpfgccaminkaaGreatDoorUAD
import Derived.Test.YtegpfgccaminkaaGreatDoorShelf
import Derived.Test.YtegpfgccaminkaaGreatDoorUAC
import Derived.Test.YtegpfgccaminkaaGreatDoorUAK
import Derived.IntWalk
import Derived.Deep.QuietTactic
import Derived.BigQuiet
import Derived.Lib.IndexLaws
import Derived.Lib.SlTrimSet
import Derived.Laws.IdiomStrings
import Derived.Test.YtegpfgccaminkaaGreatDoorUAL
import Derived.Laws.OwnMore
set_option linter.unusedSimpArgs false
set_option linter.unusedVariables false
namespace Go.Proofs.YtegpfgccaminkaaGreatDoor.FetC
open Go.RowKit Base Base2 Regs OrgA Ubx PrsP LdA TbK StoG StoB StoD FetA FetB StkG
set_option linter.unusedSimpArgs false
set_option linter.unusedVariables false
theorem find_no (B g room : Nat) (l : List (Ent Nat)) (uv : Array Value) (t : ByteArray) (s h : ByteArray) (p n : Int) (w : World) (hS : IsS ST SE TbK.encP B g room l w) (hl : l.length ≤ 64) (hu : uv.size = 13) (hh : hasO l t s h p n = false)
  (HBR : Hid (∀ w', Below w.heap.size w w' → Calls Tryz.prog 75 #[.agg uv] w' fun e w'' => e = .returned (.string t) ∧ Below w'.heap.size w' w'')) :
  Calls Tryz.prog 44 #[.pointer (some ⟨g, 0, none⟩), .agg uv, .agg #[.string s, .string h, .int .i64 p, .int .i64 n]] w fun e w' => e = .returned (.tuple #[.pointer none, .bool false]) ∧ Below w.heap.size w w' := by
 have HS0 := hid hS
 have HU := hid hu
 have HH := hid hh
 clear hS hu hh
 go_enter Tryz.func44, Tryz.ntmps44
 go_upto_region 1 with (fail)
 generalize hwa : World.alloc (World.alloc w _) _ = v1
 have h1_ : v1.heap[w.heap.size]? = some (.cells uv 52 (0, 0)) ∧ OB v1 (w.heap.size + 1) s h p n ∧ Below w.heap.size w v1 := by
  subst hwa
  exact laid2 w _ _ _ _
 clear hwa
 have HLD : Hid ((loadVar 52 ⟨w.heap.size, 0, none⟩).run Tryz.prog v1 = .ok (.agg uv) v1) := uv_load HU.out h1_.1
 have HLE : Hid ((loadVar 32 ⟨w.heap.size + 1, 0, none⟩).run Tryz.prog v1 = .ok (.agg #[.string s, .string h, .int .i64 p, .int .i64 n]) v1) := ob_load h1_.2.1
 have HB1 := hid h1_.2.2
 have XU1 := hid h1_.1
 have XO1 := hid h1_.2.1
 clear h1_
 go_wp2_with (first | refine load_as HLD.out (.tmp 4) rfl rfl rfl ?_ | refine load_as HLE.out (.tmp 5) rfl rfl rfl ?_)
 refine (owned_any B g room l uv t s h p n _ (HS0.out.below HB1.out) hl HU.out (hid fun w' hb => HBR.out w' (bel HB1.out hb))).mono ?_
 rw [HH.out]
 rintro e v2 ⟨rfl, hb2⟩
 have HB2 := hid (bel HB1.out hb2)
 clear HB1 hb2 HLD HLE XU1 XO1
 generalize plc (StoG.idx l t) = zz
 go_wp2
 go_ret2
 exact ⟨rfl, HB2.out⟩
theorem find_yes (B g room : Nat) (l : List (Ent Nat)) (uv : Array Value) (t : ByteArray) (s h : ByteArray) (p n : Int) (w : World) (hS : IsS ST SE TbK.encP B g room l w) (hl : l.length ≤ 64) (hu : uv.size = 13) (k : Nat) (hk : k < l.length) (hi : StoG.idx l t = some k) (hh : hasO l t s h p n = true)
  (HBR : Hid (∀ w', Below w.heap.size w w' → Calls Tryz.prog 75 #[.agg uv] w' fun e w'' => e = .returned (.string t) ∧ Below w'.heap.size w' w'')) :
  Calls Tryz.prog 44 #[.pointer (some ⟨g, 0, none⟩), .agg uv, .agg #[.string s, .string h, .int .i64 p, .int .i64 n]] w fun e w' => e = .returned (.tuple #[.pointer (some ⟨l[k].x, 0, none⟩), .bool true]) ∧ Below w.heap.size w w' := by
 have HS0 := hid hS
 have HU := hid hu
 have HH := hid hh
 have HI := hid hi
 clear hS hu hh hi
 go_enter Tryz.func44, Tryz.ntmps44
 go_upto_region 1 with (fail)
 generalize hwa : World.alloc (World.alloc w _) _ = v1
 have h1_ : v1.heap[w.heap.size]? = some (.cells uv 52 (0, 0)) ∧ OB v1 (w.heap.size + 1) s h p n ∧ Below w.heap.size w v1 := by
  subst hwa
  exact laid2 w _ _ _ _
 clear hwa
 have HLD : Hid ((loadVar 52 ⟨w.heap.size, 0, none⟩).run Tryz.prog v1 = .ok (.agg uv) v1) := uv_load HU.out h1_.1
 have HLE : Hid ((loadVar 32 ⟨w.heap.size + 1, 0, none⟩).run Tryz.prog v1 = .ok (.agg #[.string s, .string h, .int .i64 p, .int .i64 n]) v1) := ob_load h1_.2.1
 have HB1 := hid h1_.2.2
 have XU1 := hid h1_.1
 have XO1 := hid h1_.2.1
 clear h1_
 go_wp2_with (first | refine load_as HLD.out (.tmp 4) rfl rfl rfl ?_ | refine load_as HLE.out (.tmp 5) rfl rfl rfl ?_)
 refine (owned_any B g room l uv t s h p n _ (HS0.out.below HB1.out) hl HU.out (hid fun w' hb => HBR.out w' (bel HB1.out hb))).mono ?_
 rw [HH.out, HI.out]
 rintro e v2 ⟨rfl, hb2⟩
 rw [show plc (some k) = (k : Int) from rfl]
 have HB2 := hid (bel HB1.out hb2)
 clear HB1 hb2 HLD HLE XU1 XO1
 have HS2 := hid (HS0.out.below HB2.out)
 obtain ⟨v, hv, hown, hBg⟩ := HS2.out
 have hglt := HS2.out.lt
 obtain ⟨A, c, rfl, hnc, hcm, hcell⟩ := StoG.own_cells hown
 obtain ⟨b, rfl, hbl, hcc⟩ := hcell k hk
 obtain ⟨c0, c1⟩ := cells2 hv
 have k5 : v2.cell? ⟨b, k * 6 + 5, none⟩ = some (.pointer (some ⟨l[k].x, 0, none⟩)) := (six_cells hcc).2.2.2.2.2
 have hki : (k : Int) < (l.length : Int) := by omega
 have hli : (l.length : Int) ≤ 64 := by omega
 clear hcell hcc hv hown
 go_wp2
 go_ret2
 exact ⟨rfl, HB2.out⟩
theorem blob_nil (uv : Array Value) (s h : ByteArray) (p n : Int) (w : World) : Calls Tryz.prog 18 #[.pointer none, .agg uv, .agg #[.string s, .string h, .int .i64 p, .int .i64 n]] w fun e w' => e = .returned (.tuple #[.pointer none, .bool false]) ∧ Below w.heap.size w w' := by
 go_enter Tryz.func18, Tryz.ntmps18
 go_wp2
 go_ret2
 exact ⟨rfl, ((Below.refl w.heap.size w).alloc (Nat.le_refl _) _).alloc (by simp) _⟩
set_option maxRecDepth 100000 in
set_option maxHeartbeats 4000000 in
theorem blob_any (B gs gt gu gm : Nat) (m : SM) (uv : Array Value) (s h : ByteArray) (p n : Int) (v : Option Addr) (b : Bool) (w : World) (hK : IsK B gs gt gu gm m w) (hu : uv.size = 13)
  (HF : Hid (∀ w', Below w.heap.size w w' → Calls Tryz.prog 44 #[.pointer (some ⟨gu, 0, none⟩), .agg uv, .agg #[.string s, .string h, .int .i64 p, .int .i64 n]] w' fun e w'' => e = .returned (.tuple #[.pointer v, .bool b]) ∧ Below w'.heap.size w' w'')) :
  Calls Tryz.prog 18 #[.pointer (some ⟨gs, 0, none⟩), .agg uv, .agg #[.string s, .string h, .int .i64 p, .int .i64 n]] w fun e w' => e = .returned (.tuple #[.pointer v, .bool b]) ∧ Below w.heap.size w w' := by
 have HK0 := hid hK
 have HU := hid hu
 clear hK hu
 go_enter Tryz.func18, Tryz.ntmps18
 go_upto_region 1 with (fail)
 generalize hwa : World.alloc (World.alloc w _) _ = v1
 have h1_ : v1.heap[w.heap.size]? = some (.cells uv 52 (0, 0)) ∧ OB v1 (w.heap.size + 1) s h p n ∧ Below w.heap.size w v1 := by
  subst hwa
  exact laid2 w _ _ _ _
 clear hwa
 have HLD : Hid ((loadVar 52 ⟨w.heap.size, 0, none⟩).run Tryz.prog v1 = .ok (.agg uv) v1) := uv_load HU.out h1_.1
 have HLE : Hid ((loadVar 32 ⟨w.heap.size + 1, 0, none⟩).run Tryz.prog v1 = .ok (.agg #[.string s, .string h, .int .i64 p, .int .i64 n]) v1) := ob_load h1_.2.1
 have HB1 := hid h1_.2.2
 have XU1 := hid h1_.1
 have XO1 := hid h1_.2.1
 clear h1_
 have HK1 := hid (HK0.out.below HB1.out)
 obtain ⟨c0, c1, c2, c3⟩ := HK1.out.facts
 have HLT : Hid (gs < v1.heap.size) := HK1.out.lt
 clear c0 c1 c3
 go_upto_region 3 with (fail)
 refine wp_region_rel (by kernel_rfl) [is (.pointer (some ⟨gs, 0, none⟩)), is (.pointer (some ⟨gs, 0, none⟩)), is (.pointer (some ⟨gs, 2, none⟩)), is (.pointer (some ⟨gu, 0, none⟩)), is (.agg uv), is (.agg #[.string s, .string h, .int .i64 p, .int .i64 n]), is (.tuple #[.pointer v, .bool b]), is (.pointer v), is (.bool b), is (.pointer v), is (.bool b)] [[], [0], [1], [2], [], [], [3, 4, 5], [6], [6], [7], [8]] (by kernel_rfl) ?_ ?_
 ·refine ⟨?_, ?_, ?_, ?_, ?_, ?_, ?_, ?_, ?_, ?_, ?_, trivial⟩
  ·intro t wq hbq hh K hK
   clear hh
   simp only [filled, upd, Have, is, any, row, pick, Act.put, List.setIfInBounds_toArray, List.set_cons_zero, List.set_cons_succ, Nat.reduceAdd, Nat.reduceEqDiff, reduceIte] at hK ⊢
   go_simp
   exact hK _ _ (Below.refl _ _) rfl
  ·intro t wq hbq hh K hK
   have e0 := hh.1
   simp only [pick] at e0
   replace e0 : t 0 = (.pointer (some ⟨gs, 0, none⟩)) := e0
   clear hh
   simp only [filled, upd, Have, is, any, row, pick, Act.put, List.setIfInBounds_toArray, List.set_cons_zero, List.set_cons_succ, Nat.reduceAdd, Nat.reduceEqDiff, reduceIte] at hK ⊢
   simp only [e0] at hK ⊢
   go_simp
   exact hK _ _ (Below.refl _ _) rfl
  ·intro t wq hbq hh K hK
   have e1 := hh.1
   simp only [pick] at e1
   replace e1 : t 1 = (.pointer (some ⟨gs, 0, none⟩)) := e1
   clear hh
   simp only [filled, upd, Have, is, any, row, pick, Act.put, List.setIfInBounds_toArray, List.set_cons_zero, List.set_cons_succ, Nat.reduceAdd, Nat.reduceEqDiff, reduceIte] at hK ⊢
   simp only [e1] at hK ⊢
   go_simp
   exact hK _ _ (Below.refl _ _) rfl
  ·intro t wq hbq hh K hK
   have e2 := hh.1
   simp only [pick] at e2
   replace e2 : t 2 = (.pointer (some ⟨gs, 2, none⟩)) := e2
   clear hh
   simp only [filled, upd, Have, is, any, row, pick, Act.put, List.setIfInBounds_toArray, List.set_cons_zero, List.set_cons_succ, Nat.reduceAdd, Nat.reduceEqDiff, reduceIte] at hK ⊢
   simp only [e2] at hK ⊢
   have hq := (hbq.cell (p := ⟨gs, 2, none⟩) HLT.out).trans c2
   go_simp
   exact hK _ _ (Below.refl _ _) rfl
  ·intro t wq hbq hh K hK
   clear hh
   simp only [filled, upd, Have, is, any, row, pick, Act.put, List.setIfInBounds_toArray, List.set_cons_zero, List.set_cons_succ, Nat.reduceAdd, Nat.reduceEqDiff, reduceIte] at hK ⊢
   refine step_load (uv_load HU.out ((hbq.block _ (Array.getElem?_eq_some_iff.1 XU1.out).1).trans XU1.out)) (.tmp 4) rfl rfl rfl ?_
   exact hK _ _ (Below.refl _ _) rfl
  ·intro t wq hbq hh K hK
   clear hh
   simp only [filled, upd, Have, is, any, row, pick, Act.put, List.setIfInBounds_toArray, List.set_cons_zero, List.set_cons_succ, Nat.reduceAdd, Nat.reduceEqDiff, reduceIte] at hK ⊢
   refine step_load (ob_load (XO1.out.below hbq)) (.tmp 5) rfl rfl rfl ?_
   exact hK _ _ (Below.refl _ _) rfl
  ·intro t wq hbq hh K hK
   have e3 := hh.1
   simp only [pick] at e3
   replace e3 : t 3 = (.pointer (some ⟨gu, 0, none⟩)) := e3
   have e4 := hh.2.1
   simp only [pick] at e4
   replace e4 : t 4 = (.agg uv) := e4
   have e5 := hh.2.2.1
   simp only [pick] at e5
   replace e5 : t 5 = (.agg #[.string s, .string h, .int .i64 p, .int .i64 n]) := e5
   clear hh
   simp only [filled, upd, Have, is, any, row, pick, Act.put, List.setIfInBounds_toArray, List.set_cons_zero, List.set_cons_succ, Nat.reduceAdd, Nat.reduceEqDiff, reduceIte] at hK ⊢
   simp only [e3, e4, e5] at hK ⊢
   go_simp
   refine (HF.out _ (bel HB1.out hbq)).mono ?_
   rintro e w9 ⟨rfl, hb9⟩
   exact hK _ _ hb9 rfl
  ·intro t wq hbq hh K hK
   have e6 := hh.1
   simp only [pick] at e6
   replace e6 : t 6 = (.tuple #[.pointer v, .bool b]) := e6
   clear hh
   simp only [filled, upd, Have, is, any, row, pick, Act.put, List.setIfInBounds_toArray, List.set_cons_zero, List.set_cons_succ, Nat.reduceAdd, Nat.reduceEqDiff, reduceIte] at hK ⊢
   simp only [e6] at hK ⊢
   go_simp
   exact hK _ _ (Below.refl _ _) rfl
  ·intro t wq hbq hh K hK
   have e6 := hh.1
   simp only [pick] at e6
   replace e6 : t 6 = (.tuple #[.pointer v, .bool b]) := e6
   clear hh
   simp only [filled, upd, Have, is, any, row, pick, Act.put, List.setIfInBounds_toArray, List.set_cons_zero, List.set_cons_succ, Nat.reduceAdd, Nat.reduceEqDiff, reduceIte] at hK ⊢
   simp only [e6] at hK ⊢
   go_simp
   exact hK _ _ (Below.refl _ _) rfl
  ·intro t wq hbq hh K hK
   have e7 := hh.1
   simp only [pick] at e7
   replace e7 : t 7 = (.pointer v) := e7
   clear hh
   simp only [filled, upd, Have, is, any, row, pick, Act.put, List.setIfInBounds_toArray, List.set_cons_zero, List.set_cons_succ, Nat.reduceAdd, Nat.reduceEqDiff, reduceIte] at hK ⊢
   simp only [e7] at hK ⊢
   go_simp
   exact hK _ _ (Below.refl _ _) rfl
  ·intro t wq hbq hh K hK
   have e8 := hh.1
   simp only [pick] at e8
   replace e8 : t 8 = (.bool b) := e8
   clear hh
   simp only [filled, upd, Have, is, any, row, pick, Act.put, List.setIfInBounds_toArray, List.set_cons_zero, List.set_cons_succ, Nat.reduceAdd, Nat.reduceEqDiff, reduceIte] at hK ⊢
   simp only [e8] at hK ⊢
   go_simp
   exact hK _ _ (Below.refl _ _) rfl
 ·intro t wq hbq hh
  have f9 := have_get hh 9 (by decide)
  simp only [pick] at f9
  replace f9 : t 9 = (.pointer v) := f9
  have f10 := have_get hh 10 (by decide)
  simp only [pick] at f10
  replace f10 : t 10 = (.bool b) := f10
  clear hh
  simp only [filled, upd, Have, is, any, row, pick, Act.put, List.setIfInBounds_toArray, List.set_cons_zero, List.set_cons_succ, Nat.reduceAdd, Nat.reduceEqDiff, reduceIte]
  simp only [f9, f10]
  have HB4 := hid (bel HB1.out hbq)
  clear hbq c2
  go_wp2
  go_ret2
  exact ⟨rfl, HB4.out⟩
set_option maxRecDepth 100000 in
set_option maxHeartbeats 4000000 in
theorem fetch_blank (li sp : Value) (T : List UInt8) (u : U) (s h : ByteArray) (p n : Int) (w : World)
  (HP : Hid (∀ w', Below w.heap.size w w' → Calls Tryz.prog 45 #[.string (strOf T), .pointer none] w' fun e w'' => ∃ A n' c, e = .returned (.tuple #[.agg (cells u (.slice A n' c)), .int .i64 0]) ∧ PthIs w'' u A n' c ∧ Below w'.heap.size w' w''))
  (hz : SrtA.sortOf u = 3) :
  Calls Tryz.prog 25 #[li, .string (strOf T), .agg #[.string s, .string h, .int .i64 p, .int .i64 n], sp] w fun e w' => e = .returned (.agg #[.int .i64 3, .int .i64 200, .int .i64 0, .int .i64 0, .string ⟨#[116, 101, 120, 116, 47, 104, 116, 109, 108, 59, 99, 104, 97, 114, 115, 101, 116, 61, 117, 116, 102, 45, 56]⟩, .slice none 0 0]) ∧ Below w.heap.size w w' := by
 have HZ := hid hz
 clear hz
 go_enter Tryz.func25, Tryz.ntmps25
 go_upto_region 1 with (fail)
 generalize hwa : World.alloc (World.alloc w _) _ = v1
 have h1_ : OB v1 w.heap.size s h p n ∧ AB v1 (w.heap.size + 1) #[.int .i64 0, .int .i64 0, .int .i64 0, .int .i64 0, .string ⟨#[]⟩, .slice none 0 0] ∧ Below w.heap.size w v1 := by
  subst hwa
  exact laid2 w _ _ _ _
 clear hwa
 have XO1 := hid h1_.1
 have XR1 := hid h1_.2.1
 have HB1 := hid h1_.2.2
 clear h1_
 go_wp2_with fail
 refine (HP.out _ HB1.out).mono ?_
 rintro e v2 ⟨A, n', c, rfl, hpt, hb2⟩
 have XO2 := hid (XO1.out.below hb2)
 have XR2 := hid (XR1.out.below hb2)
 have HB2 := hid (bel HB1.out hb2)
 have HPT2 := hid hpt
 clear XO1 XR1 HB1 hb2 hpt
 rw [show Value.agg (cells u (.slice A n' c)) = .agg #[.string (strOf u.sch), .string (strOf u.usr), .string (strOf u.pwd), .string (strOf u.hst), .bool u.hh, .int .i64 u.port, .bool u.opq, .string (strOf u.txt), .slice A n' c, .bool u.hq, .bool u.hf, .string (strOf u.qry), .string (strOf u.frg)] from rfl]
 go_upto_region 4 with (fail)
 generalize hwa : World.alloc v2 _ = v3
 have h3_ : UB v3 v2.heap.size u (.slice A n' c) ∧ Below v2.heap.size v2 v3 := by
  subst hwa
  exact laid1 v2 _ _
 clear hwa
 have XO3 := hid (XO2.out.below h3_.2)
 have XR3 := hid (XR2.out.below h3_.2)
 have HB3 := hid (bel HB2.out h3_.2)
 have HPT3 := hid (PthIs.below HPT2.out h3_.2)
 have XU3 := hid h3_.1
 clear h3_ XO2 XR2 HB2 HPT2
 have HLU := hid XU3.out.load
 go_wp2_with (refine load_as HLU.out (.tmp 9) rfl rfl rfl ?_)
 refine (SrtA.of_any u A n' c _).mono ?_
 rw [HZ.out]
 rintro e v4 ⟨rfl, hb4⟩
 have XO4 := hid (XO3.out.below hb4)
 have XR4 := hid (XR3.out.below hb4)
 have HB4 := hid (bel HB3.out hb4)
 have HPT4 := hid (PthIs.below HPT3.out hb4)
 have XU4 := hid (XU3.out.below hb4)
 clear XO3 XR3 HB3 HPT3 XU3 HLU hb4
 go_upto_region 5 with (fail)
 generalize hwa : World.alloc v4 _ = v5
 have h5_ : AB v5 v4.heap.size #[.int .i64 3, .int .i64 0, .int .i64 0, .int .i64 0, .string ⟨#[]⟩, .slice none 0 0] ∧ Below v4.heap.size v4 v5 := by
  subst hwa
  exact laid1 v4 _ _
 clear hwa
 have XO5 := hid (XO4.out.below h5_.2)
 have XR5 := hid (XR4.out.below h5_.2)
 have HB5 := hid (bel HB4.out h5_.2)
 have HPT5 := hid (PthIs.below HPT4.out h5_.2)
 have XU5 := hid (XU4.out.below h5_.2)
 have XA5 := hid h5_.1
 have HV4 : Hid (w.heap.size + 1 < v4.heap.size) := XR4.out.lt
 clear h5_ XO4 XR4 HB4 HPT4 XU4
 obtain ⟨a0, a1, a2, a3, a4, a5⟩ := XA5.out.facts
 obtain ⟨f0, f1, f2, f3, f4, f5⟩ := XA5.out.thaw
 go_upto_region 14 with (fail)
 have hx : AB ((v5.setCell ⟨v4.heap.size, 1, none⟩ (.int .i64 200)).setCell ⟨v4.heap.size, 4, none⟩ (.string ⟨#[116, 101, 120, 116, 47, 104, 116, 109, 108, 59, 99, 104, 97, 114, 115, 101, 116, 61, 117, 116, 102, 45, 56]⟩)) v4.heap.size #[.int .i64 3, .int .i64 200, .int .i64 0, .int .i64 0, .string ⟨#[116, 101, 120, 116, 47, 104, 116, 109, 108, 59, 99, 104, 97, 114, 115, 101, 116, 61, 117, 116, 102, 45, 56]⟩, .slice none 0 0] := (XA5.out.set 1 _).set 4 _
 have hr : AB ((v5.setCell ⟨v4.heap.size, 1, none⟩ (.int .i64 200)).setCell ⟨v4.heap.size, 4, none⟩ (.string ⟨#[116, 101, 120, 116, 47, 104, 116, 109, 108, 59, 99, 104, 97, 114, 115, 101, 116, 61, 117, 116, 102, 45, 56]⟩)) (w.heap.size + 1) #[.int .i64 0, .int .i64 0, .int .i64 0, .int .i64 0, .string ⟨#[]⟩, .slice none 0 0] := (XR5.out.setO _ (by have := HV4.out; omega)).setO _ (by have := HV4.out; omega)
 have hb : Below w.heap.size w ((v5.setCell ⟨v4.heap.size, 1, none⟩ (.int .i64 200)).setCell ⟨v4.heap.size, 4, none⟩ (.string ⟨#[116, 101, 120, 116, 47, 104, 116, 109, 108, 59, 99, 104, 97, 114, 115, 101, 116, 61, 117, 116, 102, 45, 56]⟩)) := (HB5.out.setCell (p := ⟨v4.heap.size, 1, none⟩) (by have := HV4.out; show w.heap.size ≤ v4.heap.size; omega) _).setCell (p := ⟨v4.heap.size, 4, none⟩) (by have := HV4.out; show w.heap.size ≤ v4.heap.size; omega) _
 generalize (v5.setCell _ _).setCell _ _ = v6 at hx hr hb ⊢
 have XA6 := hid hx
 have XR6 := hid hr
 have HB6 := hid hb
 clear hx hr hb XA5 XR5 HB5 XO5 XU5 HPT5 a0 a1 a2 a3 a4 a5 f0 f1 f2 f3 f4 f5
 have HLA := hid (XA6.out.load rfl)
 go_wp2_with (first | refine load_as HLA.out (.tmp 11) rfl rfl rfl ?_ | refine store_ab XR6.out #[.int .i64 3, .int .i64 200, .int .i64 0, .int .i64 0, .string ⟨#[116, 101, 120, 116, 47, 104, 116, 109, 108, 59, 99, 104, 97, 114, 115, 101, 116, 61, 117, 116, 102, 45, 56]⟩, .slice none 0 0] rfl rfl (by simp [Value.oneCell']) (.tmp 8) (.tmp 50) rfl rfl rfl rfl ?_)
 try simp only [Exit.inBlock, Exit.then]
 exact bodyPost_ret (w := World.setRow v6 (w.heap.size + 1) #[.int .i64 3, .int .i64 200, .int .i64 0, .int .i64 0, .string ⟨#[116, 101, 120, 116, 47, 104, 116, 109, 108, 59, 99, 104, 97, 114, 115, 101, 116, 61, 117, 116, 102, 45, 56]⟩, .slice none 0 0]) (res6 rfl (AB.row XR6.out _) rfl _ rfl) rfl ⟨rfl, below_setRow HB6.out (Nat.le_succ w.heap.size) _⟩
set_option maxRecDepth 100000 in
set_option maxHeartbeats 4000000 in
theorem fetch_none (li sp : Value) (T : List UInt8) (u : U) (s h : ByteArray) (p n : Int) (w : World)
  (HP : Hid (∀ w', Below w.heap.size w w' → Calls Tryz.prog 45 #[.string (strOf T), .pointer none] w' fun e w'' => ∃ A n' c, e = .returned (.tuple #[.agg (cells u (.slice A n' c)), .int .i64 0]) ∧ PthIs w'' u A n' c ∧ Below w'.heap.size w' w''))
  (hz : SrtA.sortOf u = 1) (HF : Hid (∀ (A : Option Addr) (n' c : Nat) (w' : World), Below w.heap.size w w' → PthIs w' u A n' c → Calls Tryz.prog 52 #[li, .agg (cells u (.slice A n' c)), .agg #[.string s, .string h, .int .i64 p, .int .i64 n]] w' fun e w'' => e = .returned (.tuple #[.pointer none, .bool false]) ∧ Below w'.heap.size w' w'')) :
  Calls Tryz.prog 25 #[li, .string (strOf T), .agg #[.string s, .string h, .int .i64 p, .int .i64 n], sp] w fun e w' => e = .returned (.agg #[.int .i64 1, .int .i64 0, .int .i64 0, .int .i64 0, .string ⟨#[]⟩, .slice none 0 0]) ∧ Below w.heap.size w w' := by
 have HZ := hid hz
 clear hz
 go_enter Tryz.func25, Tryz.ntmps25
 go_upto_region 1 with (fail)
 generalize hwa : World.alloc (World.alloc w _) _ = v1
 have h1_ : OB v1 w.heap.size s h p n ∧ AB v1 (w.heap.size + 1) #[.int .i64 0, .int .i64 0, .int .i64 0, .int .i64 0, .string ⟨#[]⟩, .slice none 0 0] ∧ Below w.heap.size w v1 := by
  subst hwa
  exact laid2 w _ _ _ _
 clear hwa
 have XO1 := hid h1_.1
 have XR1 := hid h1_.2.1
 have HB1 := hid h1_.2.2
 clear h1_
 go_wp2_with fail
 refine (HP.out _ HB1.out).mono ?_
 rintro e v2 ⟨A, n', c, rfl, hpt, hb2⟩
 have XO2 := hid (XO1.out.below hb2)
 have XR2 := hid (XR1.out.below hb2)
 have HB2 := hid (bel HB1.out hb2)
 have HPT2 := hid hpt
 clear XO1 XR1 HB1 hb2 hpt
 rw [show Value.agg (cells u (.slice A n' c)) = .agg #[.string (strOf u.sch), .string (strOf u.usr), .string (strOf u.pwd), .string (strOf u.hst), .bool u.hh, .int .i64 u.port, .bool u.opq, .string (strOf u.txt), .slice A n' c, .bool u.hq, .bool u.hf, .string (strOf u.qry), .string (strOf u.frg)] from rfl]
 go_upto_region 4 with (fail)
 generalize hwa : World.alloc v2 _ = v3
 have h3_ : UB v3 v2.heap.size u (.slice A n' c) ∧ Below v2.heap.size v2 v3 := by
  subst hwa
  exact laid1 v2 _ _
 clear hwa
 have XO3 := hid (XO2.out.below h3_.2)
 have XR3 := hid (XR2.out.below h3_.2)
 have HB3 := hid (bel HB2.out h3_.2)
 have HPT3 := hid (PthIs.below HPT2.out h3_.2)
 have XU3 := hid h3_.1
 clear h3_ XO2 XR2 HB2 HPT2
 have HLU := hid XU3.out.load
 go_wp2_with (refine load_as HLU.out (.tmp 9) rfl rfl rfl ?_)
 refine (SrtA.of_any u A n' c _).mono ?_
 rw [HZ.out]
 rintro e v4 ⟨rfl, hb4⟩
 have XO4 := hid (XO3.out.below hb4)
 have XR4 := hid (XR3.out.below hb4)
 have HB4 := hid (bel HB3.out hb4)
 have HPT4 := hid (PthIs.below HPT3.out hb4)
 have XU4 := hid (XU3.out.below hb4)
 clear XO3 XR3 HB3 HPT3 XU3 HLU hb4
 go_upto_region 5 with (fail)
 generalize hwa : World.alloc v4 _ = v5
 have h5_ : AB v5 v4.heap.size #[.int .i64 1, .int .i64 0, .int .i64 0, .int .i64 0, .string ⟨#[]⟩, .slice none 0 0] ∧ Below v4.heap.size v4 v5 := by
  subst hwa
  exact laid1 v4 _ _
 clear hwa
 have XO5 := hid (XO4.out.below h5_.2)
 have XR5 := hid (XR4.out.below h5_.2)
 have HB5 := hid (bel HB4.out h5_.2)
 have HPT5 := hid (PthIs.below HPT4.out h5_.2)
 have XU5 := hid (XU4.out.below h5_.2)
 have XA5 := hid h5_.1
 have HV4 : Hid (w.heap.size + 1 < v4.heap.size) := XR4.out.lt
 clear h5_ XO4 XR4 HB4 HPT4 XU4
 obtain ⟨a0, a1, a2, a3, a4, a5⟩ := XA5.out.facts
 have HLU := hid XU5.out.load
 have HLE := hid (ob_load XO5.out)
 go_wp2_with (first | refine load_as HLU.out (.tmp 9) rfl rfl rfl ?_ | refine load_as HLE.out (.tmp 6) rfl rfl rfl ?_)
 refine (HF.out A n' c _ HB5.out HPT5.out).mono ?_
 rintro e v6 ⟨rfl, hb6⟩
 have XA6 := hid (XA5.out.below hb6)
 have XR6 := hid (XR5.out.below hb6)
 have HB6 := hid (bel HB5.out hb6)
 clear XA5 XR5 HB5 XO5 XU5 HPT5 HLU HLE hb6 a0 a1 a2 a3 a4 a5
 have HLA := hid (XA6.out.load rfl)
 go_wp2_with (first | refine load_as HLA.out (.tmp 11) rfl rfl rfl ?_ | refine store_ab XR6.out #[.int .i64 1, .int .i64 0, .int .i64 0, .int .i64 0, .string ⟨#[]⟩, .slice none 0 0] rfl rfl (by simp [Value.oneCell']) (.tmp 8) (.tmp 50) rfl rfl rfl rfl ?_)
 try simp only [Exit.inBlock, Exit.then]
 exact bodyPost_ret (w := World.setRow v6 (w.heap.size + 1) #[.int .i64 1, .int .i64 0, .int .i64 0, .int .i64 0, .string ⟨#[]⟩, .slice none 0 0]) (res6 rfl (AB.row XR6.out _) rfl _ rfl) rfl ⟨rfl, below_setRow HB6.out (Nat.le_succ w.heap.size) _⟩
set_option maxRecDepth 100000 in
set_option maxHeartbeats 4000000 in
theorem fetch_some (li sp : Value) (T : List UInt8) (u : U) (s h : ByteArray) (p n : Int) (w : World)
  (HP : Hid (∀ w', Below w.heap.size w w' → Calls Tryz.prog 45 #[.string (strOf T), .pointer none] w' fun e w'' => ∃ A n' c, e = .returned (.tuple #[.agg (cells u (.slice A n' c)), .int .i64 0]) ∧ PthIs w'' u A n' c ∧ Below w'.heap.size w' w''))
  (hz : SrtA.sortOf u = 1) (bp : Option Addr) (Q : Int → Int → Int → Option Addr → Nat → Nat → ByteArray → World → Prop) (HQ : ∀ st fi ttl A n' c K (a : World) (g : Nat) (ds : Array Value), Q st fi ttl A n' c K a → g < w.heap.size + 2 → w.heap.size ≤ g → Q st fi ttl A n' c K (a.setRow g ds)) (HF : Hid (∀ (A : Option Addr) (n' c : Nat) (w' : World), Below w.heap.size w w' → PthIs w' u A n' c → Calls Tryz.prog 52 #[li, .agg (cells u (.slice A n' c)), .agg #[.string s, .string h, .int .i64 p, .int .i64 n]] w' fun e w'' => e = .returned (.tuple #[.pointer bp, .bool true]) ∧ Below w'.heap.size w' w'')) (HO : Hid (∀ w' : World, Below w.heap.size w w' → w.heap.size + 2 ≤ w'.heap.size → Calls Tryz.prog 53 #[.agg #[.int .i64 1, .int .i64 0, .int .i64 0, .int .i64 0, .string ⟨#[]⟩, .slice none 0 0], .pointer bp, sp] w' fun e w'' => ∃ st fi ttl A n' c K, e = .returned (.agg #[.int .i64 1, .int .i64 st, .int .i64 fi, .int .i64 ttl, .string K, .slice A n' c]) ∧ Below w'.heap.size w' w'' ∧ Q st fi ttl A n' c K w'')) :
  Calls Tryz.prog 25 #[li, .string (strOf T), .agg #[.string s, .string h, .int .i64 p, .int .i64 n], sp] w fun e w' => ∃ st fi ttl A n' c K, e = .returned (.agg #[.int .i64 1, .int .i64 st, .int .i64 fi, .int .i64 ttl, .string K, .slice A n' c]) ∧ Below w.heap.size w w' ∧ Q st fi ttl A n' c K w' := by
 have HZ := hid hz
 clear hz
 go_enter Tryz.func25, Tryz.ntmps25
 go_upto_region 1 with (fail)
 generalize hwa : World.alloc (World.alloc w _) _ = v1
 have h1_ : OB v1 w.heap.size s h p n ∧ AB v1 (w.heap.size + 1) #[.int .i64 0, .int .i64 0, .int .i64 0, .int .i64 0, .string ⟨#[]⟩, .slice none 0 0] ∧ Below w.heap.size w v1 := by
  subst hwa
  exact laid2 w _ _ _ _
 clear hwa
 have XO1 := hid h1_.1
 have XR1 := hid h1_.2.1
 have HB1 := hid h1_.2.2
 clear h1_
 go_wp2_with fail
 refine (HP.out _ HB1.out).mono ?_
 rintro e v2 ⟨A, n', c, rfl, hpt, hb2⟩
 have XO2 := hid (XO1.out.below hb2)
 have XR2 := hid (XR1.out.below hb2)
 have HB2 := hid (bel HB1.out hb2)
 have HPT2 := hid hpt
 clear XO1 XR1 HB1 hb2 hpt
 rw [show Value.agg (cells u (.slice A n' c)) = .agg #[.string (strOf u.sch), .string (strOf u.usr), .string (strOf u.pwd), .string (strOf u.hst), .bool u.hh, .int .i64 u.port, .bool u.opq, .string (strOf u.txt), .slice A n' c, .bool u.hq, .bool u.hf, .string (strOf u.qry), .string (strOf u.frg)] from rfl]
 go_upto_region 4 with (fail)
 generalize hwa : World.alloc v2 _ = v3
 have h3_ : UB v3 v2.heap.size u (.slice A n' c) ∧ Below v2.heap.size v2 v3 := by
  subst hwa
  exact laid1 v2 _ _
 clear hwa
 have XO3 := hid (XO2.out.below h3_.2)
 have XR3 := hid (XR2.out.below h3_.2)
 have HB3 := hid (bel HB2.out h3_.2)
 have HPT3 := hid (PthIs.below HPT2.out h3_.2)
 have XU3 := hid h3_.1
 clear h3_ XO2 XR2 HB2 HPT2
 have HLU := hid XU3.out.load
 go_wp2_with (refine load_as HLU.out (.tmp 9) rfl rfl rfl ?_)
 refine (SrtA.of_any u A n' c _).mono ?_
 rw [HZ.out]
 rintro e v4 ⟨rfl, hb4⟩
 have XO4 := hid (XO3.out.below hb4)
 have XR4 := hid (XR3.out.below hb4)
 have HB4 := hid (bel HB3.out hb4)
 have HPT4 := hid (PthIs.below HPT3.out hb4)
 have XU4 := hid (XU3.out.below hb4)
 clear XO3 XR3 HB3 HPT3 XU3 HLU hb4
 go_upto_region 5 with (fail)
 generalize hwa : World.alloc v4 _ = v5
 have h5_ : AB v5 v4.heap.size #[.int .i64 1, .int .i64 0, .int .i64 0, .int .i64 0, .string ⟨#[]⟩, .slice none 0 0] ∧ Below v4.heap.size v4 v5 := by
  subst hwa
  exact laid1 v4 _ _
 clear hwa
 have XO5 := hid (XO4.out.below h5_.2)
 have XR5 := hid (XR4.out.below h5_.2)
 have HB5 := hid (bel HB4.out h5_.2)
 have HPT5 := hid (PthIs.below HPT4.out h5_.2)
 have XU5 := hid (XU4.out.below h5_.2)
 have XA5 := hid h5_.1
 have HV4 : Hid (w.heap.size + 1 < v4.heap.size) := XR4.out.lt
 clear h5_ XO4 XR4 HB4 HPT4 XU4
 obtain ⟨a0, a1, a2, a3, a4, a5⟩ := XA5.out.facts
 have HLU := hid XU5.out.load
 have HLE := hid (ob_load XO5.out)
 go_wp2_with (first | refine load_as HLU.out (.tmp 9) rfl rfl rfl ?_ | refine load_as HLE.out (.tmp 6) rfl rfl rfl ?_)
 refine (HF.out A n' c _ HB5.out HPT5.out).mono ?_
 rintro e v6 ⟨rfl, hb6⟩
 have XA6 := hid (XA5.out.below hb6)
 have XR6 := hid (XR5.out.below hb6)
 have HB6 := hid (bel HB5.out hb6)
 clear XA5 XR5 HB5 XO5 XU5 HPT5 HLU HLE hb6 a0 a1 a2 a3 a4 a5
 have HLA := hid (XA6.out.load rfl)
 go_wp2_with (refine load_as HLA.out (.tmp 11) rfl rfl rfl ?_)
 refine (HO.out _ HB6.out XR6.out.lt).mono ?_
 rintro e v7 ⟨st, fi, ttl, A7, n7, c7, K7, rfl, hb7, hQ⟩
 have XR7 := hid (XR6.out.below hb7)
 have HB7 := hid (bel HB6.out hb7)
 have HQ7 := hid hQ
 clear XA6 XR6 HB6 HLA hb7 hQ
 go_wp2_with (refine store_ab XR7.out #[.int .i64 1, .int .i64 st, .int .i64 fi, .int .i64 ttl, .string K7, .slice A7 n7 c7] rfl rfl (by simp [Value.oneCell']) (.tmp 8) (.tmp 45) rfl rfl rfl rfl ?_)
 try simp only [Exit.inBlock, Exit.then]
 exact bodyPost_ret (w := World.setRow v7 (w.heap.size + 1) #[.int .i64 1, .int .i64 st, .int .i64 fi, .int .i64 ttl, .string K7, .slice A7 n7 c7]) (res6 rfl (AB.row XR7.out _) rfl _ rfl) rfl ⟨st, fi, ttl, A7, n7, c7, K7, rfl, below_setRow HB7.out (Nat.le_succ w.heap.size) _, HQ _ _ _ _ _ _ _ _ _ _ HQ7.out (by omega) (Nat.le_succ _)⟩
end Go.Proofs.YtegpfgccaminkaaGreatDoor.FetC
namespace Go.Proofs.YtegpfgccaminkaaGreatDoor.StkF
open Go.RowKit Base Base2 Regs OrgA Ubx PrsP LdA StoI FetB FetC StkG StkA StkB
set_option linter.unusedSimpArgs false
set_option linter.unusedVariables false
theorem slice_nil (hd : Int) (a b : Value) (k : ByteArray) (w : World) : Calls Tryz.prog 15 #[.pointer none, .int .i64 hd, a, b, .string k] w fun e w' => e = .returned (.tuple #[.int .i64 0, .int .i64 1]) ∧ Below w.heap.size w w' := by
 go_enter Tryz.func15, Tryz.ntmps15
 go_wp2
 go_ret2
 exact ⟨rfl, Below.refl _ _⟩
theorem register_nil (s h : ByteArray) (p n hd : Int) (RV : Array Value) (w : World) : Calls Tryz.prog 16 #[.pointer none, .agg #[.string s, .string h, .int .i64 p, .int .i64 n], .int .i64 hd, .agg RV] w fun e w' => e = .returned (.tuple #[.string ⟨#[]⟩, .int .i64 1]) ∧ Below w.heap.size w w' := by
 go_enter Tryz.func16, Tryz.ntmps16
 go_wp2
 go_ret2
 exact ⟨rfl, ((Below.refl w.heap.size w).alloc (Nat.le_refl _) _).alloc (by simp) _⟩
theorem notice_nil (w : World) : Calls Tryz.prog 17 #[.pointer none] w fun e w' => e = .returned (.tuple #[.string ⟨#[]⟩, .bool false]) ∧ Below w.heap.size w w' := by
 go_enter Tryz.func17, Tryz.ntmps17
 go_wp2
 go_ret2
 exact ⟨rfl, Below.refl _ _⟩
theorem revoke_nil (T s h : ByteArray) (p n : Int) (w : World) : Calls Tryz.prog 19 #[.pointer none, .string T, .agg #[.string s, .string h, .int .i64 p, .int .i64 n]] w fun e w' => e = .returned (.bool false) ∧ Below w.heap.size w w' := by
 go_enter Tryz.func19, Tryz.ntmps19
 go_wp2
 go_ret
 exact ⟨rfl, (Below.refl w.heap.size w).alloc (Nat.le_refl _) _⟩
theorem urls_nil (w : World) : Calls Tryz.prog 20 #[.pointer none] w fun e w' => e = .returned (.slice none 0 0) ∧ Below w.heap.size w w' := by
 go_enter Tryz.func20, Tryz.ntmps20
 go_wp2
 go_ret
 exact ⟨rfl, Below.refl _ _⟩
theorem sfetch {w : World} (pv : Option Addr) (sp : Value) (T s h : ByteArray) (p n : Int) (Q : Array Value → World → Prop) (HQ : ∀ (cs : Array Value) (a : World) (g : Nat) (ds : Array Value), Q cs a → w.heap.size ≤ g → g < w.heap.size + 2 → Q cs (a.setRow g ds))
  (HF : Hid (∀ w', Below w.heap.size w w' → w.heap.size + 2 ≤ w'.heap.size → Calls Tryz.prog 25 #[.iface 27 (.pointer pv), .string T, .agg #[.string s, .string h, .int .i64 p, .int .i64 n], sp] w' fun e w'' => ∃ cs, e = .returned (.agg cs) ∧ cs.size = 6 ∧ cs.all (·.oneCell') = true ∧ Below w'.heap.size w' w'' ∧ Q cs w'')) :
  Calls Tryz.prog 21 #[.pointer pv, .string T, .agg #[.string s, .string h, .int .i64 p, .int .i64 n], sp] w fun e w' => ∃ cs, e = .returned (.agg cs) ∧ cs.size = 6 ∧ Below w.heap.size w w' ∧ Q cs w' := by
 go_enter Tryz.func21, Tryz.ntmps21
 go_upto_region 1 with (fail)
 generalize hwa : World.alloc (World.alloc w _) _ = v1
 have h1_ : OB v1 w.heap.size s h p n ∧ AB v1 (w.heap.size + 1) #[.int .i64 0, .int .i64 0, .int .i64 0, .int .i64 0, .string ⟨#[]⟩, .slice none 0 0] ∧ Below w.heap.size w v1 := by
  subst hwa
  exact laid2 w _ _ _ _
 clear hwa
 have XO1 := hid h1_.1
 have XR1 := hid h1_.2.1
 have HB1 := hid h1_.2.2
 have HS1 : Hid (w.heap.size + 2 ≤ v1.heap.size) := h1_.2.1.lt
 clear h1_
 have HLE := hid (ob_load XO1.out)
 go_wp2_with (refine load_as HLE.out (.tmp 6) rfl rfl rfl ?_)
 refine (HF.out _ HB1.out HS1.out).mono ?_
 rintro e v2 ⟨cs, rfl, hcs, hone, hb2, hq⟩
 have XR2 := hid (XR1.out.below hb2)
 have HB2 := hid (bel HB1.out hb2)
 have HQ2 := hid hq
 have HC2 := hid hcs
 have HN2 := hid hone
 clear hb2 hq hcs hone XO1 XR1 HB1 HLE
 go_wp2_with (refine store_ab XR2.out cs rfl HC2.out HN2.out (.tmp 8) (.tmp 14) rfl rfl rfl rfl ?_)
 try simp only [Exit.inBlock, Exit.then]
 exact bodyPost_ret (w := World.setRow v2 (w.heap.size + 1) cs) (res6 rfl (AB.row XR2.out _) HC2.out _ rfl) rfl ⟨cs, rfl, HC2.out, below_setRow HB2.out (Nat.le_succ w.heap.size) _, HQ _ _ _ _ HQ2.out (Nat.le_succ _) (Nat.lt_succ_self _)⟩
end Go.Proofs.YtegpfgccaminkaaGreatDoor.StkF
namespace Go.Proofs.YtegpfgccaminkaaGreatDoor.SlsP
open Go.RowKit Base
def spl (b : UInt8) : List UInt8 → List (List UInt8)
 | [] => [[]]
 | c :: L => if c = b then [] :: spl b L else match spl b L with
  | [] => [[c]]
  | x :: r => (c :: x) :: r
theorem spl_ne (b : UInt8) : ∀ L : List UInt8, spl b L ≠ []
 | [] => by simp [spl]
 | c :: L => by
  unfold spl
  split
  ·simp
  ·split <;> simp
theorem spl_at (b : UInt8) (L : List UInt8) : spl b (b :: L) = [] :: spl b L := by rw [spl, if_pos rfl]
theorem spl_not (b c : UInt8) (L : List UInt8) (h : c ≠ b) : spl b (c :: L) = match spl b L with
  | [] => [[c]]
  | x :: r => (c :: x) :: r := by rw [spl, if_neg h]
theorem length_spl (b : UInt8) : ∀ L : List UInt8, (spl b L).length ≤ L.length + 1
 | [] => by simp [spl]
 | c :: L => by
  have ih := length_spl b L
  unfold spl
  split
  ·simp; omega
  ·split
   ·simp
   ·rename_i h
    rw [h] at ih
    simp at ih ⊢
    omega
theorem spl_len (b : UInt8) : ∀ (L : List UInt8), ∀ x ∈ spl b L, x.length ≤ L.length
 | [] => by simp [spl]
 | c :: L => by
  have ih := spl_len b L
  intro x hx
  unfold spl at hx
  split at hx
  ·rcases List.mem_cons.1 hx with rfl | hx
   ·simp
   ·have := ih x hx; simp; omega
  ·split at hx
   ·rename_i h
    simp at hx
    subst hx
    simp
   ·rename_i y r h
    rcases List.mem_cons.1 hx with rfl | hx
    ·have := ih y (by rw [h]; simp); simp; omega
    ·have := ih x (by rw [h]; simp [hx]); simp; omega
end Go.Proofs.YtegpfgccaminkaaGreatDoor.SlsP
namespace Go.Proofs.YtegpfgccaminkaaGreatDoor.PosQ
open Go.RowKit Base SlsP UtfR
def okOne (x : List UInt8) (last : Bool) : Bool := decide (x ≠ [46]) && decide (x ≠ [46, 46]) && (decide (x ≠ []) || last)
def okRow : List (List UInt8) → Bool
 | [] => true
 | x :: r => okOne x r.isEmpty && okRow r
def fine (L : List UInt8) : Bool := val L && decide (L.head? = some 47) && !L.contains 0 && okRow (spl 47 (L.drop 1))
theorem fine_iff (L : List UInt8) : fine L = true ↔ val L = true ∧ L.head? = some 47 ∧ L.contains 0 = false ∧ okRow (spl 47 (L.drop 1)) = true := by
 unfold fine
 simp only [Bool.and_eq_true, decide_eq_true_eq, Bool.not_eq_true', and_assoc]
theorem okRow_drop : ∀ (l : List (List UInt8)) (k : Nat) (h : k < l.length), okRow (l.drop k) = (okOne l[k] (decide (k + 1 = l.length)) && okRow (l.drop (k + 1))) := by
 intro l k h
 rw [List.drop_eq_getElem_cons h, okRow]
 congr 2
 rw [Bool.eq_iff_iff]
 simp only [List.isEmpty_iff, List.drop_eq_nil_iff, decide_eq_true_eq]
 omega
end Go.Proofs.YtegpfgccaminkaaGreatDoor.PosQ
namespace Go.Proofs.YtegpfgccaminkaaGreatDoor.Sls
open Go.RowKit Base Base2 Base3 SlsP
open Go.Proofs.YtegpfgccaminkaaGreatDoor.Spl (Max split_gen)
theorem take_snoc {α : Type} (l : List α) (k : Nat) (h : k < l.length) : l.take (k + 1) = l.take k ++ [l[k]] := List.take_succ_eq_append_getElem h
theorem info_str : (Tryz.prog.info? 9).map (fun i => (i.zero, i.size, i.bytes)) = some (some (.string ByteArray.empty), 1, 16) := by kernel_rfl
theorem split47_any (s : ByteArray) (w : World) (hs : s.size ≤ 1073741824) (hM : Max w) : Calls Tryz.prog 91 #[.string s, .string ⟨#[47]⟩] w (Spl.Read w (spl 47 s.data.toList)) :=
 split_gen 47 (spl 47) rfl (spl_at 47) (spl_not 47) s w hs hM
theorem has1 (b : UInt8) (L : List UInt8) : decide (0 ≤ Lib.indexByte L b) = L.contains b := by
 have hge := Lib.indexByte_ge L b
 by_cases h : Lib.indexByte L b = -1
 ·have hn := Lib.indexByte_none h
  rw [decide_eq_false (by omega)]
  cases e : L.contains b with
  | false => rfl
  | true =>
   have hm : b ∈ L := by simpa using e
   obtain ⟨j, hj, he⟩ := List.getElem_of_mem hm
   exact absurd (List.getElem?_eq_some_iff.2 ⟨hj, he⟩) (hn j)
 ·obtain ⟨o, ho⟩ : ∃ o : Nat, Lib.indexByte L b = o := ⟨(Lib.indexByte L b).toNat, by omega⟩
  have hs := (Lib.indexByte_some ho).1
  rw [decide_eq_true (by omega)]
  obtain ⟨hj, he⟩ := List.getElem?_eq_some_iff.1 hs
  symm
  simpa using (show b ∈ L by rw [← he]; exact List.getElem_mem _)
theorem contains1_any (b : UInt8) (s : ByteArray) (w : World) : Calls Tryz.prog 145 #[.string s, .string ⟨#[b]⟩] w fun e w' => e = .returned (.bool (s.data.toList.contains b)) ∧ w = w' := by
 refine (Tryz.strings_Contains_one s b w).mono ?_
 rintro e w' ⟨rfl, rfl⟩
 exact ⟨ret_bool (has1 b _), rfl⟩
end Go.Proofs.YtegpfgccaminkaaGreatDoor.Sls
namespace Go.Proofs.YtegpfgccaminkaaGreatDoor.RefS
open Go.RowKit Base Base2 UtfR
def okT (t : List UInt8) : Prop := ∀ c ∈ t, 128 ≤ (c.toNat : Int) ∧ (c.toNat : Int) ≤ 191
instance (t : List UInt8) : Decidable (okT t) := by unfold okT; exact inferInstance
def bad2 (x y : Int) : Prop := x = 224 ∧ y < 160 ∨ x = 237 ∧ 159 < y ∨ x = 240 ∧ y < 144 ∨ x = 244 ∧ 143 < y
instance (x y : Int) : Decidable (bad2 x y) := by unfold bad2; exact inferInstance
def bad (x : Int) : List UInt8 → Prop
 | [] => False
 | y :: _ => bad2 x y.toNat
instance (x : Int) (t : List UInt8) : Decidable (bad x t) := by cases t <;> unfold bad <;> exact inferInstance
end Go.Proofs.YtegpfgccaminkaaGreatDoor.RefS
namespace Go.Proofs.YtegpfgccaminkaaGreatDoor.PosA
open Go.RowKit Base Base2 Base3 SlsP PosQ Sls
open Go.Proofs.YtegpfgccaminkaaGreatDoor.Spl (Max)
open Go.Proofs.YtegpfgccaminkaaGreatDoor.UtfR (val)
theorem tl (s : ByteArray) : s.toList = s.data.toList := Lib.toList_data s
theorem cell_at {w : World} {A : Option Addr} {n : Nat} {l : List (List UInt8)} (h : Rds w A n ((l.map strOf).map Value.string)) (k : Nat) (hk : k < n) (hl : l.length = n) : ∃ g off, A = some ⟨g, off, none⟩ ∧ g < w.heap.size ∧ w.cell? ⟨g, off + k, none⟩ = some (.string (strOf (l[k]'(by omega)))) := by
 obtain ⟨g, off, e, hg, hcell⟩ := h.spot (by omega)
 have hc := hcell k (by rw [List.length_map, List.length_map]; omega)
 simp only [List.getElem_map] at hc
 exact ⟨g, off, e, hg, hc⟩
end Go.Proofs.YtegpfgccaminkaaGreatDoor.PosA
namespace Go.Proofs.YtegpfgccaminkaaGreatDoor.PosB
open Go.RowKit Base Base2 Base3 SlsP PosQ Sls PosA
open Go.Proofs.YtegpfgccaminkaaGreatDoor.Spl (Max)
open Go.Proofs.YtegpfgccaminkaaGreatDoor.UtfR (val)
theorem pre47 : ∀ L : List UInt8, Lib.hasPrefix L [47] = decide (L.head? = some 47)
 | [] => rfl
 | c :: L => by
  by_cases h : c = 47
  ·subst h
   rw [decide_eq_true (show (47 :: L).head? = some 47 from rfl)]
   simp [Lib.hasPrefix, List.isPrefixOf]
  ·rw [decide_eq_false (by simpa using h)]
   simp only [Lib.hasPrefix, List.isPrefixOf, Bool.and_true, beq_eq_false_iff_ne, ne_eq]
   exact fun e => h e.symm
theorem ext1 (s : ByteArray) : (s.extract 1 s.size).data.toList = s.data.toList.drop 1 := by
 rw [Regs.ext_drop s 1 s.size rfl]
 rfl
theorem ext1_size (s : ByteArray) : (s.extract 1 s.size).size ≤ s.size := by rw [ByteArray.size_extract]; omega
set_option maxRecDepth 100000 in
set_option maxHeartbeats 8000000 in
theorem fine_any (s : ByteArray) (w : World) (hs : s.size ≤ 900000) (hM : Max w) :
  Calls Tryz.prog 90 #[.string s] w fun e w' => e = .returned (.bool (fine s.data.toList)) ∧ Below w.heap.size w w' := by
 have hl : s.data.toList.length = s.size := Array.length_toList
 obtain ⟨b, hb⟩ : ∃ b, b = fine s.data.toList := ⟨_, rfl⟩
 rw [← hb]
 obtain ⟨v, hv⟩ : ∃ v, v = val s.data.toList := ⟨_, rfl⟩
 obtain ⟨z, hz⟩ : ∃ z, z = s.data.toList.contains 0 := ⟨_, rfl⟩
 obtain ⟨l, hll⟩ : ∃ l, l = spl 47 (s.data.toList.drop 1) := ⟨_, rfl⟩
 obtain ⟨E, hE⟩ : ∃ E, E = okRow l := ⟨_, rfl⟩
 have hV : b = (v && decide (s.data.toList.head? = some 47) && !z && E) := by rw [hb, hv, hz, hE, hll]; rfl
 have HVA : Hid (∀ (A : Option Addr) (n cap : Nat) (w : World), Rds w A n (bcells s.data.toList) → n ≤ 1073741824 → n ≤ cap → Calls Tryz.prog 144 #[.slice A n cap] w fun e w' => e = .returned (.bool v) ∧ Below w.heap.size w w') := fun A n cap w h1 h2 h3 => by rw [hv]; exact UtfR.valid_any A n cap _ w h1 h2 h3
 obtain ⟨p, hp⟩ : ∃ p, p = decide (s.data.toList.head? = some 47) := ⟨_, rfl⟩
 have HPX : Hid (∀ w : World, Calls Tryz.prog 113 #[.string s, .string ⟨#[47]⟩] w fun e w' => e = .returned (.bool p) ∧ w' = w) := fun w => by rw [hp, ← pre47]; exact Tryz.strings_HasPrefix s ⟨#[47]⟩ w
 have HCT : Hid (∀ w : World, Calls Tryz.prog 145 #[.string s, .string ⟨#[0]⟩] w fun e w' => e = .returned (.bool z) ∧ w = w') := fun w => by rw [hz]; exact contains1_any 0 s w
 have HSP : Hid (∀ w : World, Max w → Calls Tryz.prog 91 #[.string (s.extract 1 s.size), .string ⟨#[47]⟩] w (Spl.Read w l)) := fun w h => by rw [hll, ← ext1]; exact split47_any _ w (by have := ext1_size s; omega) h
 have HCAP : Hid (∀ w : World, s.size ≤ grownCap w s.size 0 5) := fun w => grownCap_ge w s.size 0 5
 have hcv := fun (w : World) s => run_bytes_of_string (P := Tryz.prog) w 9 39 5 s Tryz.underlying9 Tryz.underlying39 Tryz.underlying5
 have hpos : p = true → 1 ≤ s.size := by
  intro h
  rw [hp, decide_eq_true_iff] at h
  rw [← hl]
  cases e : s.data.toList with
  | nil => rw [e] at h; cases h
  | cons a t => simp
 rw [← hp] at hV
 have HPO := hid hpos
 have HEE := hid hE
 have HVL := hid hV
 have HS9 := hid hs
 have HM := hid hM
 have hlen2 : l.length ≤ 900001 := by rw [hll]; have := length_spl 47 (s.data.toList.drop 1); rw [List.length_drop, hl] at this; omega
 clear hb hz hll hE hv hs hl hV hp hpos hM
 go_enter Tryz.func90, Tryz.ntmps90
 go_wp2_with fail
 refine (HVA.out _ s.size _ _ (rds_made s _ _ 5) (by have := HS9.out; omega) (HCAP.out _)).mono ?_
 rintro e w3 ⟨rfl, hb3⟩
 have HB := hid (((Below.refl w.heap.size w).alloc (Nat.le_refl _) _).drew.trans (hb3.mono (by simp)))
 clear hb3 hcv
 cases v with
 | false =>
  have HF : Hid (b = false) := by show _ = _; rw [HVL.out]; simp
  go_wp2
  go_ret
  exact ⟨by rw [HF.out]; first | done | rfl, HB.out⟩
 | true =>
  go_wp2_with fail
  refine (HPX.out _).mono ?_
  rintro e w4 ⟨rfl, hw4⟩
  subst hw4
  cases p with
  | false =>
   have HF : Hid (b = false) := by show _ = _; rw [HVL.out]; simp
   go_wp2
   go_ret
   exact ⟨by rw [HF.out]; first | done | rfl, HB.out⟩
  | true =>
   have h0i : (1 : Int) ≤ (s.size : Int) := by have := HPO.out rfl; omega
   go_wp2_with fail
   refine (HCT.out _).mono ?_
   rintro e w5 ⟨rfl, hw5⟩
   subst hw5
   cases z with
   | true =>
    have HF : Hid (b = false) := by show _ = _; rw [HVL.out]; simp
    go_wp2
    go_ret
    exact ⟨by rw [HF.out]; first | done | rfl, HB.out⟩
   | false =>
    have HF : Hid (b = E) := by show _ = _; rw [HVL.out]; simp
    go_wp2_with fail
    refine (HSP.out _ (HM.out.below HB.out)).mono ?_
    rintro e w6 ⟨A, n, cp, rfl, hn, hnc, hcm, hR, hb6⟩
    have HN : Hid (l.length = n) := hn.symm
    have HR := hid hR
    have HB6 := hid (bel HB.out hb6)
    have hm : n ≤ 900001 := by omega
    have HE0 : Hid (E = okRow (l.drop 0)) := HEE.out
    clear hn hR hb6 hcm hlen2
    go_wp2
    go_loopw [4, 5, 24] (fun _ _ vk wr => ∃ k : Nat, k ≤ n ∧ vk = .int .i64 (k : Int) ∧ wr = w6 ∧ Hid (E = okRow (l.drop k))) (fun _ _ vk _ => n - (intOf vk).toNat)
    case atStart => exact ⟨0, Nat.zero_le _, rfl, rfl, HE0⟩
    case round =>
     clear HE0
     obtain ⟨k, hk, rfl, rfl, HE⟩ := hrel
     by_cases hlt : k < n
     ·obtain ⟨g, off, rfl, hg, hc⟩ := cell_at HR.out k hlt HN.out
      obtain ⟨x, hx⟩ : ∃ x, x = l[k]'(by rw [HN.out]; exact hlt) := ⟨_, rfl⟩
      rw [← hx] at hc
      have hok := okRow_drop l k (by rw [HN.out]; exact hlt)
      rw [show l[k]'(by rw [HN.out]; exact hlt) = x from hx.symm, HN.out] at hok
      by_cases h1 : x = [46]
      ·have f1 : ((strOf x).toList == [46]) = true := by rw [tl, h1]; rfl
       have HE2 : Hid (E = false) := by show _ = _; rw [HE.out, hok]; simp [okOne, h1]
       clear hok hx h1
       go_wp2
       go_ret
       exact ⟨by rw [HF.out, HE2.out]; first | done | rfl, HB6.out⟩
      ·have f1 : ((strOf x).toList == [46]) = false := by rw [tl, beq_eq_false_iff_ne]; exact h1
       by_cases h2 : x = [46, 46]
       ·have f2 : ((strOf x).toList == [46, 46]) = true := by rw [tl, h2]; rfl
        have HE2 : Hid (E = false) := by show _ = _; rw [HE.out, hok]; simp [okOne, h2]
        clear hok hx h1 h2
        go_wp2
        go_ret
        exact ⟨by rw [HF.out, HE2.out]; first | done | rfl, HB6.out⟩
       ·have f2 : ((strOf x).toList == [46, 46]) = false := by rw [tl, beq_eq_false_iff_ne]; exact h2
        by_cases h3 : x = []
        ·have f3 : (strOf x).toList = [] := by rw [tl]; exact h3
         by_cases hla : k + 1 = n
         ·have hli : ¬ (k : Int) < (n : Int) - 1 := by omega
          have HE2 : Hid (E = okRow (l.drop (k + 1))) := by show _ = _; rw [HE.out, hok]; simp [okOne, h1, h2, h3, hla]
          clear hok hx h1 h2 h3 hla
          go_wp2
          go_roundw
          case rel => exact ⟨k + 1, by omega, by go_num, by first | rfl | trivial, HE2⟩
          case measure => simp [intOf]; omega
         ·have hli : (k : Int) < (n : Int) - 1 := by omega
          have HE2 : Hid (E = false) := by show _ = _; rw [HE.out, hok]; simp [okOne, h1, h2, h3, hla]
          clear hok hx h1 h2 h3 hla
          go_wp2
          go_ret
          exact ⟨by rw [HF.out, HE2.out]; first | done | rfl, HB6.out⟩
        ·have f3 : ((strOf x).toList == []) = false := by rw [tl, beq_eq_false_iff_ne]; exact h3
         have f3' : (strOf x).toList.isEmpty = false := by rw [tl]; simpa [strOf] using h3
         have HE2 : Hid (E = okRow (l.drop (k + 1))) := by show _ = _; rw [HE.out, hok]; simp [okOne, h1, h2, h3]
         clear hok hx h1 h2 h3
         go_wp2
         go_roundw
         case rel => exact ⟨k + 1, by omega, by go_num, by first | rfl | trivial, HE2⟩
         case measure => simp [intOf]; omega
     ·obtain rfl : k = n := by omega
      have HE2 : Hid (E = true) := by show _ = _; rw [HE.out, List.drop_eq_nil_of_le (by rw [HN.out]; exact Nat.le_refl _)]; rfl
      go_wp2
      go_ret
      exact ⟨by rw [HF.out, HE2.out]; first | done | rfl, HB6.out⟩
end Go.Proofs.YtegpfgccaminkaaGreatDoor.PosB
namespace Go.Proofs.YtegpfgccaminkaaGreatDoor.PosS
open Go.RowKit Base UtfA UtfL EscI
theorem byteAll {p : UInt8 → Prop} [∀ c, Decidable (p c)] (h : ∀ n : Fin 256, p (UInt8.ofNat n.val)) (c : UInt8) : p c := by
 have := h ⟨c.toNat, c.toNat_lt⟩
 simpa using this
def odd (c : UInt8) : Bool := inS 4 c.toNat || (decide (c = 37) || (decide (c = 92) || decide (c = 124)))
def one (c : UInt8) : List UInt8 := if odd c = true then [37, EscE.dig (c.toNat / 16), EscE.dig (c.toNat % 16)] else [c]
def seg (L : List UInt8) : List UInt8 := L.flatMap one
theorem seg_cons (c : UInt8) (L : List UInt8) : seg (c :: L) = one c ++ seg L := by simp [seg]
theorem seg_app (a b : List UInt8) : seg (a ++ b) = seg a ++ seg b := by simp [seg]
theorem seg_len (L : List UInt8) : (seg L).length ≤ 3 * L.length := by
 induction L with
 | nil => simp [seg]
 | cons c L ih =>
  have h : (one c).length ≤ 3 := by unfold one; split <;> simp
  rw [seg_cons, List.length_append, List.length_cons]
  omega
end Go.Proofs.YtegpfgccaminkaaGreatDoor.PosS
namespace Go.Proofs.YtegpfgccaminkaaGreatDoor.BldK
open Go.RowKit Base Base2 BldA
theorem string_any (B b : Nat) (l : List UInt8) (w : World) (h : IsB B b l w) (hBw : B ≤ w.heap.size) :
  Calls Tryz.prog 124 #[.pointer (some ⟨b, 0, none⟩)] w fun e w' => e = .returned (.string (strOf l)) ∧ Below B w w' := Tryz.Builder_String B b l w h hBw
theorem isB_below {B b : Nat} {l : List UInt8} {w w' : World} (h : IsB B b l w) (hb : Below w.heap.size w w') : IsB B b l w' := by
 rcases h with ⟨h1, v, h2, h3, h4⟩ | ⟨h1, v, h2, h3, h4⟩
 ·exact Or.inl ⟨h1, v, (hb.block _ (Array.getElem?_eq_some_iff.1 h2).1).trans h2, owns_below h3 hb, h4⟩
 ·exact Or.inr ⟨h1, v, (hb.block _ (Array.getElem?_eq_some_iff.1 h2).1).trans h2, owns_below h3 hb, h4⟩
end Go.Proofs.YtegpfgccaminkaaGreatDoor.BldK
