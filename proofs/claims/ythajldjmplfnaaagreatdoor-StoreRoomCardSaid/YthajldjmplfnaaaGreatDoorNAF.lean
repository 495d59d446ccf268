/- Texts that belong together: StoK, PthK, PthL, PrsA, PrsQ, PrsB, Regg. -/
import Derived.Test.YthajldjmplfnaaaGreatDoorNAD
import Derived.BigQuiet
import Derived.Deep.QuietTactic
import Derived.Deep.WholeRow
import Derived.Test.YthajldjmplfnaaaGreatDoorNAC
import Derived.Test.YthajldjmplfnaaaGreatDoorNAB
import Derived.Test.YthajldjmplfnaaaGreatDoorNAA
import Derived.Test.YthajldjmplfnaaaGreatDoorShelf
import Derived.Laws.OwnMore
import Derived.Lib.SliceRun
import Derived.Lib.IndexAny
import Derived.Laws.RangeAny
import Derived.Laws.Runes
import Derived.Deep.LoopGhost
import Derived.WalkMore
import Derived.Lib.SplitLaws
import Derived.Lib.LastIndexByte
import Derived.OwnWalk
set_option linter.unusedSimpArgs false
set_option linter.unusedVariables false
namespace Go.Proofs.YthajldjmplfnaaaGreatDoor.StoK
open Go.RowKit Base Base2 Regs TbK StoG StoI OrgA Ubx LdA
set_option linter.unusedSimpArgs false
set_option linter.unusedVariables false
def hasO (l : List (Ent (Int))) (t : ByteArray) (s h : ByteArray) (p n : Int) : Bool := match idx l t with
 | none => false
 | some k => match l[k]? with
  | none => false
  | some e => sameO e.s.data.toList e.h.data.toList e.p e.n s.data.toList h.data.toList p n
theorem uv_load {w : World} {g : Nat} {uv : Array Value} (hs : uv.size = 13) (x : w.heap[g]? = some (.cells uv 34 (0, 0))) : (loadVar 34 ⟨g, 0, none⟩).run Tryz.prog w = .ok (.agg uv) w :=
 run_loadVar_row w g _ _ uv (0, 0) _ x Tryz.underlying34 rfl (by rw [hs]; kernel_rfl)
theorem ent_load {w : World} {b o : Nat} {s h : ByteArray} {p n : Int} (h0 : w.cell? ⟨b, o, none⟩ = some (.string s)) (h1 : w.cell? ⟨b, o + 1, none⟩ = some (.string h)) (h2 : w.cell? ⟨b, o + 2, none⟩ = some (.int .i64 p)) (h3 : w.cell? ⟨b, o + 3, none⟩ = some (.int .i64 n)) : (loadVar 28 ⟨b, o, none⟩).run Tryz.prog w = .ok (.agg #[.string s, .string h, .int .i64 p, .int .i64 n]) w :=
 load_at (l := [.string s, .string h, .int .i64 p, .int .i64 n]) (fun j v hv => by
  match j, hv with
  | 0, hv => injection hv with hv; subst hv; exact h0
  | 1, hv => injection hv with hv; subst hv; exact h1
  | 2, hv => injection hv with hv; subst hv; exact h2
  | 3, hv => injection hv with hv; subst hv; exact h3
  | j + 4, hv => cases hv) Tryz.underlying28 rfl (by kernel_rfl)
set_option maxRecDepth 100000 in
set_option maxHeartbeats 4000000 in
theorem owned_any (B g room : Nat) (l : List (Ent (Int))) (uv : Array Value) (t : ByteArray) (s h : ByteArray) (p n : Int) (w : World) (hS : IsS 114 121 (Value.int .i64) B g room l w) (hl : l.length ≤ 64) (hu : uv.size = 13)
  (HB : Hid (∀ w', Below w.heap.size w w' → Calls Tryz.prog 90 #[.agg uv] w' fun e w'' => e = .returned (.string t) ∧ Below w'.heap.size w' w'')) :
  Calls Tryz.prog 59 #[.pointer (some ⟨g, 0, none⟩), .agg uv, .agg #[.string s, .string h, .int .i64 p, .int .i64 n]] w fun e w' => e = .returned (.tuple #[.int .i64 (plc (idx l t)), .bool (hasO l t s h p n)]) ∧ Below w.heap.size w w' := by
 have HS0 := hid hS
 have HU := hid hu
 clear hS hu
 go_enter Tryz.func59, Tryz.ntmps59
 go_upto_region 1 with (fail)
 generalize hwa : World.alloc (World.alloc w _) _ = v1
 have h1_ : v1.heap[w.heap.size]? = some (.cells uv 34 (0, 0)) ∧ OB v1 (w.heap.size + 1) s h p n ∧ Below w.heap.size w v1 := by
  subst hwa
  exact laid2 w _ _ _ _
 clear hwa
 have X1 := hid h1_.1
 have X2 := hid h1_.2.1
 have HB1 := hid h1_.2.2
 clear h1_
 have HLD : Hid ((loadVar 34 ⟨w.heap.size, 0, none⟩).run Tryz.prog v1 = .ok (.agg uv) v1) := uv_load HU.out X1.out
 go_wp2_with (refine load_as HLD.out (.tmp 4) rfl rfl rfl ?_)
 refine (HB.out _ HB1.out).mono ?_
 rintro e v2 ⟨rfl, hb2⟩
 have X2b := hid (X2.out.below hb2)
 have HB2 := hid (bel HB1.out hb2)
 clear X1 X2 HB1 hb2 HLD
 have HS2 := hid (HS0.out.below HB2.out)
 go_wp2_with fail
 refine (find_any B g room l t _ HS2.out hl).mono ?_
 rintro e v3 ⟨rfl, hb3⟩
 have X2c := hid (X2b.out.below hb3)
 have HB3 := hid (bel HB2.out hb3)
 clear X2b HB2 hb3 HS2
 have HS3 := hid (HS0.out.below HB3.out)
 cases hi : idx l t with
 | none =>
  have HG : Hid (hasO l t s h p n = false) := by show _ = _; unfold hasO; rw [hi]
  rw [show plc none = -1 from rfl]
  have HI := hid hi
  clear hi
  go_wp2_with fail
  go_quiet (fail)
  go_wp2
  go_ret2
  exact ⟨by rw [HG.out, HI.out]; rfl, Base.below_drewN HB3.out _⟩
 | some k =>
  rw [show plc (some k) = (k : Int) from rfl]
  obtain ⟨hk, e1, _⟩ := idx_some hi
  obtain ⟨E, hp⟩ : ∃ E, E = l[k] := ⟨_, rfl⟩
  obtain ⟨b0, hb0⟩ : ∃ x, x = hasO l t s h p n := ⟨_, rfl⟩
  have hb1 : b0 = sameO E.s.data.toList E.h.data.toList E.p E.n s.data.toList h.data.toList p n := by rw [hb0]; unfold hasO; rw [hi]; simp only; rw [List.getElem?_eq_getElem hk, ← hp]
  have HG := hid hb0
  have HSM : Hid (∀ w : World, Calls Tryz.prog 22 #[.agg #[.string E.s, .string E.h, .int .i64 E.p, .int .i64 E.n], .agg #[.string s, .string h, .int .i64 p, .int .i64 n]] w fun e w' => e = .returned (.bool b0) ∧ Below w.heap.size w w') := fun w => by rw [hb1]; exact same_any E.s E.h E.p E.n s h p n w
  have HI := hid hi
  clear hb0 hb1 hi
  obtain ⟨v, hv, hown, hBg⟩ := HS3.out
  obtain ⟨A, c, rfl, hnc, hcm, hcell⟩ := own_cells hown
  obtain ⟨c0, c1⟩ := cells2 hv
  obtain ⟨b, rfl, hbl, hcc⟩ := hcell k hk
  rw [← hp] at hcc
  have HC := hid (six_cells hcc)
  have HLB := hid hbl
  have HLT : Hid (g < v3.heap.size) := HS3.out.lt
  have hki : (k : Int) < (l.length : Int) := by omega
  have hli : (l.length : Int) ≤ 64 := by omega
  clear hcell hcc hp hv hown hbl e1
  go_upto_region 4 with (fail)
  refine wp_region_rel (by kernel_rfl) [is (.int .i64 (k : Int)), is (.bool true), is (.bool true), is (.pointer (some ⟨g, 0, none⟩)), is (.pointer (some ⟨g, 0, none⟩)), is (.pointer (some ⟨g, 1, none⟩)), is (.slice (some ⟨b, 0, none⟩) l.length c), is (.int .i64 (k : Int)), is (.pointer (some ⟨b, k * 6, none⟩)), is (.pointer (some ⟨b, k * 6 + 1, none⟩)), is (.agg #[.string E.s, .string E.h, .int .i64 E.p, .int .i64 E.n]), is (.agg #[.string s, .string h, .int .i64 p, .int .i64 n]), is (.bool b0), is (.bool b0), is (.int .i64 (k : Int)), is (.bool b0)] [[], [], [1], [2], [2, 3], [2, 4], [2, 5], [2], [2, 6, 7], [2, 8], [2, 9], [2], [2, 10, 11], [2, 12], [0], [13]] (by kernel_rfl) ?_ ?_
  ·refine ⟨?_, ?_, ?_, ?_, ?_, ?_, ?_, ?_, ?_, ?_, ?_, ?_, ?_, ?_, ?_, ?_, trivial⟩
   ·intro t wq hbq hh K hK
    clear hh
    simp only [filled, upd, Have, is, any, row, pick, Act.put, List.setIfInBounds_toArray, List.set_cons_zero, List.set_cons_succ, Nat.reduceAdd, Nat.reduceEqDiff, reduceIte] at hK ⊢
    go_simp
    exact hK _ _ (Below.refl _ _) rfl
   ·intro t wq hbq hh K hK
    clear hh
    simp only [filled, upd, Have, is, any, row, pick, Act.put, List.setIfInBounds_toArray, List.set_cons_zero, List.set_cons_succ, Nat.reduceAdd, Nat.reduceEqDiff, reduceIte] at hK ⊢
    go_simp
    exact hK _ _ (Below.refl _ _) rfl
   ·intro t wq hbq hh K hK
    have e1 := hh.1
    simp only [pick] at e1
    replace e1 : t 1 = (.bool true) := e1
    clear hh
    simp only [filled, upd, Have, is, any, row, pick, Act.put, List.setIfInBounds_toArray, List.set_cons_zero, List.set_cons_succ, Nat.reduceAdd, Nat.reduceEqDiff, reduceIte] at hK ⊢
    simp only [e1] at hK ⊢
    go_simp
    exact hK _ _ (Below.refl _ _) rfl
   ·intro t wq hbq hh K hK
    have e2 := hh.1
    simp only [pick] at e2
    replace e2 : t 2 = (.bool true) := e2
    clear hh
    simp only [filled, upd, Have, is, any, row, pick, Act.put, List.setIfInBounds_toArray, List.set_cons_zero, List.set_cons_succ, Nat.reduceAdd, Nat.reduceEqDiff, reduceIte] at hK ⊢
    simp only [e2] at hK ⊢
    go_simp
    exact hK _ _ (Below.refl _ _) rfl
   ·intro t wq hbq hh K hK
    have e2 := hh.1
    simp only [pick] at e2
    replace e2 : t 2 = (.bool true) := e2
    have e3 := hh.2.1
    simp only [pick] at e3
    replace e3 : t 3 = (.pointer (some ⟨g, 0, none⟩)) := e3
    clear hh
    simp only [filled, upd, Have, is, any, row, pick, Act.put, List.setIfInBounds_toArray, List.set_cons_zero, List.set_cons_succ, Nat.reduceAdd, Nat.reduceEqDiff, reduceIte] at hK ⊢
    simp only [e2, e3] at hK ⊢
    go_simp
    exact hK _ _ (Below.refl _ _) rfl
   ·intro t wq hbq hh K hK
    have e2 := hh.1
    simp only [pick] at e2
    replace e2 : t 2 = (.bool true) := e2
    have e4 := hh.2.1
    simp only [pick] at e4
    replace e4 : t 4 = (.pointer (some ⟨g, 0, none⟩)) := e4
    clear hh
    simp only [filled, upd, Have, is, any, row, pick, Act.put, List.setIfInBounds_toArray, List.set_cons_zero, List.set_cons_succ, Nat.reduceAdd, Nat.reduceEqDiff, reduceIte] at hK ⊢
    simp only [e2, e4] at hK ⊢
    go_simp
    exact hK _ _ (Below.refl _ _) rfl
   ·intro t wq hbq hh K hK
    have e2 := hh.1
    simp only [pick] at e2
    replace e2 : t 2 = (.bool true) := e2
    have e5 := hh.2.1
    simp only [pick] at e5
    replace e5 : t 5 = (.pointer (some ⟨g, 1, none⟩)) := e5
    clear hh
    simp only [filled, upd, Have, is, any, row, pick, Act.put, List.setIfInBounds_toArray, List.set_cons_zero, List.set_cons_succ, Nat.reduceAdd, Nat.reduceEqDiff, reduceIte] at hK ⊢
    simp only [e2, e5] at hK ⊢
    have hq := (hbq.cell (p := ⟨g, 1, none⟩) HLT.out).trans c1
    go_simp
    exact hK _ _ (Below.refl _ _) rfl
   ·intro t wq hbq hh K hK
    have e2 := hh.1
    simp only [pick] at e2
    replace e2 : t 2 = (.bool true) := e2
    clear hh
    simp only [filled, upd, Have, is, any, row, pick, Act.put, List.setIfInBounds_toArray, List.set_cons_zero, List.set_cons_succ, Nat.reduceAdd, Nat.reduceEqDiff, reduceIte] at hK ⊢
    simp only [e2] at hK ⊢
    go_simp
    exact hK _ _ (Below.refl _ _) rfl
   ·intro t wq hbq hh K hK
    have e2 := hh.1
    simp only [pick] at e2
    replace e2 : t 2 = (.bool true) := e2
    have e6 := hh.2.1
    simp only [pick] at e6
    replace e6 : t 6 = (.slice (some ⟨b, 0, none⟩) l.length c) := e6
    have e7 := hh.2.2.1
    simp only [pick] at e7
    replace e7 : t 7 = (.int .i64 (k : Int)) := e7
    clear hh
    simp only [filled, upd, Have, is, any, row, pick, Act.put, List.setIfInBounds_toArray, List.set_cons_zero, List.set_cons_succ, Nat.reduceAdd, Nat.reduceEqDiff, reduceIte] at hK ⊢
    simp only [e2, e6, e7] at hK ⊢
    go_simp
    exact hK _ _ (Below.refl _ _) rfl
   ·intro t wq hbq hh K hK
    have e2 := hh.1
    simp only [pick] at e2
    replace e2 : t 2 = (.bool true) := e2
    have e8 := hh.2.1
    simp only [pick] at e8
    replace e8 : t 8 = (.pointer (some ⟨b, k * 6, none⟩)) := e8
    clear hh
    simp only [filled, upd, Have, is, any, row, pick, Act.put, List.setIfInBounds_toArray, List.set_cons_zero, List.set_cons_succ, Nat.reduceAdd, Nat.reduceEqDiff, reduceIte] at hK ⊢
    simp only [e2, e8] at hK ⊢
    go_simp
    exact hK _ _ (Below.refl _ _) rfl
   ·intro t wq hbq hh K hK
    have e2 := hh.1
    simp only [pick] at e2
    replace e2 : t 2 = (.bool true) := e2
    have e9 := hh.2.1
    simp only [pick] at e9
    replace e9 : t 9 = (.pointer (some ⟨b, k * 6 + 1, none⟩)) := e9
    clear hh
    simp only [filled, upd, Have, is, any, row, pick, Act.put, List.setIfInBounds_toArray, List.set_cons_zero, List.set_cons_succ, Nat.reduceAdd, Nat.reduceEqDiff, reduceIte] at hK ⊢
    simp only [e2, e9] at hK ⊢
    have q1 := (hbq.cell (p := ⟨b, k * 6 + 1, none⟩) HLB.out).trans HC.out.2.1
    have q2 := (hbq.cell (p := ⟨b, k * 6 + 2, none⟩) HLB.out).trans HC.out.2.2.1
    have q3 := (hbq.cell (p := ⟨b, k * 6 + 3, none⟩) HLB.out).trans HC.out.2.2.2.1
    have q4 := (hbq.cell (p := ⟨b, k * 6 + 4, none⟩) HLB.out).trans HC.out.2.2.2.2.1
    refine step_load_g (ent_load q1 q2 q3 q4) (.tmp 28) rfl (by go_simp) rfl ?_
    exact hK _ _ (Below.refl _ _) rfl
   ·intro t wq hbq hh K hK
    have e2 := hh.1
    simp only [pick] at e2
    replace e2 : t 2 = (.bool true) := e2
    clear hh
    simp only [filled, upd, Have, is, any, row, pick, Act.put, List.setIfInBounds_toArray, List.set_cons_zero, List.set_cons_succ, Nat.reduceAdd, Nat.reduceEqDiff, reduceIte] at hK ⊢
    simp only [e2] at hK ⊢
    refine step_load_g (ob_load (X2c.out.below hbq)) (.tmp 5) rfl (by go_simp) rfl ?_
    exact hK _ _ (Below.refl _ _) rfl
   ·intro t wq hbq hh K hK
    have e2 := hh.1
    simp only [pick] at e2
    replace e2 : t 2 = (.bool true) := e2
    have e10 := hh.2.1
    simp only [pick] at e10
    replace e10 : t 10 = (.agg #[.string E.s, .string E.h, .int .i64 E.p, .int .i64 E.n]) := e10
    have e11 := hh.2.2.1
    simp only [pick] at e11
    replace e11 : t 11 = (.agg #[.string s, .string h, .int .i64 p, .int .i64 n]) := e11
    clear hh
    simp only [filled, upd, Have, is, any, row, pick, Act.put, List.setIfInBounds_toArray, List.set_cons_zero, List.set_cons_succ, Nat.reduceAdd, Nat.reduceEqDiff, reduceIte] at hK ⊢
    simp only [e2, e10, e11] at hK ⊢
    go_simp
    refine (HSM.out _).mono ?_
    rintro e w9 ⟨rfl, hb9⟩
    exact hK _ _ hb9 rfl
   ·intro t wq hbq hh K hK
    have e2 := hh.1
    simp only [pick] at e2
    replace e2 : t 2 = (.bool true) := e2
    have e12 := hh.2.1
    simp only [pick] at e12
    replace e12 : t 12 = (.bool b0) := e12
    clear hh
    simp only [filled, upd, Have, is, any, row, pick, Act.put, List.setIfInBounds_toArray, List.set_cons_zero, List.set_cons_succ, Nat.reduceAdd, Nat.reduceEqDiff, reduceIte] at hK ⊢
    simp only [e2, e12] at hK ⊢
    go_simp
    exact hK _ _ (Below.refl _ _) rfl
   ·intro t wq hbq hh K hK
    have e0 := hh.1
    simp only [pick] at e0
    replace e0 : t 0 = (.int .i64 (k : Int)) := e0
    clear hh
    simp only [filled, upd, Have, is, any, row, pick, Act.put, List.setIfInBounds_toArray, List.set_cons_zero, List.set_cons_succ, Nat.reduceAdd, Nat.reduceEqDiff, reduceIte] at hK ⊢
    simp only [e0] at hK ⊢
    go_simp
    exact hK _ _ (Below.refl _ _) rfl
   ·intro t wq hbq hh K hK
    have e13 := hh.1
    simp only [pick] at e13
    replace e13 : t 13 = (.bool b0) := e13
    clear hh
    simp only [filled, upd, Have, is, any, row, pick, Act.put, List.setIfInBounds_toArray, List.set_cons_zero, List.set_cons_succ, Nat.reduceAdd, Nat.reduceEqDiff, reduceIte] at hK ⊢
    simp only [e13] at hK ⊢
    go_simp
    exact hK _ _ (Below.refl _ _) rfl
  ·intro t wq hbq hh
   have f14 := have_get hh 14 (by decide)
   simp only [pick] at f14
   replace f14 : t 14 = (.int .i64 (k : Int)) := f14
   have f15 := have_get hh 15 (by decide)
   simp only [pick] at f15
   replace f15 : t 15 = (.bool b0) := f15
   clear hh
   simp only [filled, upd, Have, is, any, row, pick, Act.put, List.setIfInBounds_toArray, List.set_cons_zero, List.set_cons_succ, Nat.reduceAdd, Nat.reduceEqDiff, reduceIte]
   simp only [f14, f15]
   have HB4 := hid (bel HB3.out hbq)
   clear hbq
   go_wp2
   go_ret2
   exact ⟨by rw [← HG.out, HI.out]; rfl, HB4.out⟩
set_option maxRecDepth 100000 in
set_option maxHeartbeats 4000000 in
theorem delete_any (B b c k n1 : Nat) (l : List (Ent (Int))) (w : World) (hown : w.ownsRow B 121 6 (.slice (some ⟨b, 0, none⟩) (n1 + 1) c) (n1 + 1) (flat (Value.int .i64) l)) (hk : k ≤ n1) (hl : n1 ≤ 64) :
  Calls Tryz.prog 60 #[.slice (some ⟨b, 0, none⟩) (n1 + 1) c, .int .i64 (k : Int), .int .i64 ((k : Int) + 1)] w fun e w' => e = .returned (.slice (some ⟨b, 0, none⟩) n1 c) ∧ w'.ownsRow B 121 6 (.slice (some ⟨b, 0, none⟩) n1 c) n1 (flat (Value.int .i64) (l.eraseIdx k)) ∧ w.grownBy w' (some b) := by
 obtain ⟨i0, hi0, hz0, hz1, hz2⟩ := info_parts info_e3
 have hln : l.length = n1 + 1 := by have := hown.1; rw [StoG.flat_length] at this; omega
 have HN := hid hln
 have HBB : Hid (B ≤ b) := (hown.lt b rfl).1
 have HBLT : Hid (b < w.heap.size) := (hown.lt b rfl).2
 have hnc : n1 + 1 ≤ c ∧ c ≤ maxLen := by
  rcases hown.2 with ⟨h, _⟩ | ⟨b', cap, cur, e, _, _, h1, h2, _⟩
  ·cases h
  ·injection e with _ _ e3
   subst e3
   exact ⟨h1, h2⟩
 have HCM : Hid (c ≤ maxLen) := hnc.2
 have hc1 : n1 + 1 ≤ c := hnc.1
 obtain ⟨cur, hh, hsz, htk⟩ := own_block hown
 have hcell : ∀ j u, (flat (Value.int .i64) l)[j]? = some u → w.cell? ⟨b, j, none⟩ = some u := fun j u hj => by
  rw [cell_of_row w b j cur _ _ hh, ← hj, ← htk, List.getElem?_take, if_pos, Array.getElem?_toList]
  have := (List.getElem?_eq_some_iff.1 hj).1
  rw [StoG.flat_length, hln] at this
  omega
 have HPRE : Hid (w.ownsRow B 121 6 (.slice (some ⟨b, 0, none⟩) k c) k (flat (Value.int .i64) (l.take k))) := by
  refine ⟨by rw [StoG.flat_length, List.length_take]; omega, .inr ⟨b, c, cur, rfl, HBB.out, hh, by omega, HCM.out, hsz, ?_⟩⟩
  rw [← StoG.flat_take, ← htk, List.take_take, Nat.min_eq_left (by omega)]
 have h1i : (k : Int) ≤ (n1 : Int) := by omega
 have h2i : (n1 : Int) + 1 ≤ (c : Int) := by omega
 have hkn : ¬ (k : Int) = (k : Int) + 1 := by omega
 by_cases hcc : c = k + 1
 ·have HNEW : Hid (∀ wq, Below w.heap.size w wq → ∀ j u, (flat (Value.int .i64) (l.drop (k + 1)))[j]? = some u → wq.cell? (Addr.add ⟨b, 0, none⟩ j) = some u) := fun wq hb j u hj => by
   rw [List.drop_eq_nil_of_le (by omega)] at hj
   simp [StoG.flat_nil] at hj
  clear hcell hh hsz htk hown hln hnc
  go_enter Tryz.func60, Tryz.ntmps60
  subst hcc
  obtain rfl : n1 = k := by omega
  have hkk : (n1 : Int) ≤ (n1 : Int) + 1 := by omega
  go_wp2_with fail
  generalize ((n1 : Int) == (n1 : Int) + 1) = dd
  refine wp_region_rel_tail (by kernel_rfl) 6 [is (.slice (some ⟨b, 0, none⟩) (n1 + 1) (n1 + 1)), is (.int .i64 (n1 : Int)), is (.slice (some ⟨b, 0, none⟩) n1 (n1 + 1)), is (.slice (some ⟨b, 0, none⟩) (n1 + 1) (n1 + 1)), is (.int .i64 ((n1 : Int) + 1)), is (.slice (some ⟨b, 0, none⟩) 0 0)] [[], [], [0, 1], [], [], [3, 4], [0, 1, 2, 3, 4, 5]] (by kernel_rfl) ?_ ?_
  ·refine ⟨?_, ?_, ?_, ?_, ?_, ?_, trivial⟩
   ·intro t wq hbq hh K hK
    clear hh
    simp only [filled, filledN, upd, Have, is, any, row, pick, Act.put, List.setIfInBounds_toArray, List.set_cons_zero, List.set_cons_succ, Nat.reduceAdd, Nat.reduceEqDiff, reduceIte] at hK ⊢
    go_simp
    exact hK _ _ (Below.refl _ _) rfl
   ·intro t wq hbq hh K hK
    clear hh
    simp only [filled, filledN, upd, Have, is, any, row, pick, Act.put, List.setIfInBounds_toArray, List.set_cons_zero, List.set_cons_succ, Nat.reduceAdd, Nat.reduceEqDiff, reduceIte] at hK ⊢
    go_simp
    exact hK _ _ (Below.refl _ _) rfl
   ·intro t wq hbq hh K hK
    have e0 := hh.1
    simp only [pick] at e0
    replace e0 : t 0 = (.slice (some ⟨b, 0, none⟩) (n1 + 1) (n1 + 1)) := e0
    have e1 := hh.2.1
    simp only [pick] at e1
    replace e1 : t 1 = (.int .i64 (n1 : Int)) := e1
    clear hh
    simp only [filled, filledN, upd, Have, is, any, row, pick, Act.put, List.setIfInBounds_toArray, List.set_cons_zero, List.set_cons_succ, Nat.reduceAdd, Nat.reduceEqDiff, reduceIte] at hK ⊢
    simp only [e0, e1] at hK ⊢
    go_simp
    exact hK _ _ (Below.refl _ _) rfl
   ·intro t wq hbq hh K hK
    clear hh
    simp only [filled, filledN, upd, Have, is, any, row, pick, Act.put, List.setIfInBounds_toArray, List.set_cons_zero, List.set_cons_succ, Nat.reduceAdd, Nat.reduceEqDiff, reduceIte] at hK ⊢
    go_simp
    exact hK _ _ (Below.refl _ _) rfl
   ·intro t wq hbq hh K hK
    clear hh
    simp only [filled, filledN, upd, Have, is, any, row, pick, Act.put, List.setIfInBounds_toArray, List.set_cons_zero, List.set_cons_succ, Nat.reduceAdd, Nat.reduceEqDiff, reduceIte] at hK ⊢
    go_simp
    exact hK _ _ (Below.refl _ _) rfl
   ·intro t wq hbq hh K hK
    have e3 := hh.1
    simp only [pick] at e3
    replace e3 : t 3 = (.slice (some ⟨b, 0, none⟩) (n1 + 1) (n1 + 1)) := e3
    have e4 := hh.2.1
    simp only [pick] at e4
    replace e4 : t 4 = (.int .i64 ((n1 : Int) + 1)) := e4
    clear hh
    simp only [filled, filledN, upd, Have, is, any, row, pick, Act.put, List.setIfInBounds_toArray, List.set_cons_zero, List.set_cons_succ, Nat.reduceAdd, Nat.reduceEqDiff, reduceIte] at hK ⊢
    simp only [e3, e4] at hK ⊢
    go_simp
    exact hK _ _ (Below.refl _ _) rfl
  ·intro t wq hbq hh
   have f2 := have_get hh 2 (by decide)
   simp only [pick] at f2
   replace f2 : t 2 = (.slice (some ⟨b, 0, none⟩) n1 (n1 + 1)) := f2
   have f5 := have_get hh 5 (by decide)
   simp only [pick] at f5
   replace f5 : t 5 = (.slice (some ⟨b, 0, none⟩) 0 0) := f5
   clear hh
   simp only [filled, filledN, upd, Have, is, any, row, pick, Act.put, List.setIfInBounds_toArray, List.set_cons_zero, List.set_cons_succ, Nat.reduceAdd, Nat.reduceEqDiff, reduceIte]
   simp only [f2, f5]
   show wpList _ _ _ [_, _] _ _
   have hpre : wq.ownsRow B 121 6 (.slice (some ⟨b, 0, none⟩) n1 (n1 + 1)) n1 (flat (Value.int .i64) (l.take n1)) := owns_below HPRE.out hbq
   have hnew : ∀ j u, (flat (Value.int .i64) (l.drop (n1 + 1)))[j]? = some u → wq.cell? (Addr.add ⟨b, 0, none⟩ j) = some u := fun j u hj => HNEW.out wq hbq j u hj
   obtain ⟨w4, hrun, hown4, hgrow⟩ := run_append_fits (P := Tryz.prog) wq B 112 112 121 i0 6 Tryz.underlying112 hi0 hz1 b n1 (n1 + 1) (flat (Value.int .i64) (l.take n1)) hpre ⟨b, 0, none⟩ 0 0 (flat (Value.int .i64) (l.drop (n1 + 1))) (by rw [StoG.flat_length, List.length_drop, HN.out]; omega) hnew (StoG.flat_one _ (fun _ => rfl) _) (by omega)
   have hBq : b < wq.heap.size := Nat.lt_of_lt_of_le HBLT.out hbq.size
   rw [show n1 + (0) = n1 by omega] at hrun hown4
   have hfl : flat (Value.int .i64) (l.take n1) ++ flat (Value.int .i64) (l.drop (n1 + 1)) = flat (Value.int .i64) (l.eraseIdx n1) := by rw [← StoG.flat_append, List.eraseIdx_eq_take_drop_succ]
   rw [hfl] at hown4
   obtain ⟨cur4, hh4, hsz4, htk4⟩ := own_block hown4
   have hcl : ∀ ty, (Builtin.clear_ #[112] ty #[.slice (some ⟨b, n1 * 6, none⟩) 1 1]).run Tryz.prog w4 = .ok (.tuple #[]) (w4.setRow b (cur4.toList.take (n1 * 6) ++ ([.string ⟨#[]⟩, .string ⟨#[]⟩, .string ⟨#[]⟩, .int .i64 0, .int .i64 0, .int .i64 0] : List Value) ++ cur4.toList.drop (n1 * 6 + 6)).toArray) :=
    fun ty => run_clear_six w4 112 121 ty [.string ⟨#[]⟩, .string ⟨#[]⟩, .string ⟨#[]⟩, .int .i64 0, .int .i64 0, .int .i64 0] rfl Tryz.underlying112 (zero_of_info info_e).1 rfl (by intro u hu; simp at hu; rcases hu with rfl | rfl | rfl | rfl | rfl | rfl <;> rfl) b (n1 * 6) _ cur4 121 hh4 (by rw [hsz4]; omega)
   have HX : Hid (w.grownBy (w4.setRow b (cur4.toList.take (n1 * 6) ++ ([.string ⟨#[]⟩, .string ⟨#[]⟩, .string ⟨#[]⟩, .int .i64 0, .int .i64 0, .int .i64 0] : List Value) ++ cur4.toList.drop (n1 * 6 + 6)).toArray) (some b) ∧ (w4.setRow b (cur4.toList.take (n1 * 6) ++ ([.string ⟨#[]⟩, .string ⟨#[]⟩, .string ⟨#[]⟩, .int .i64 0, .int .i64 0, .int .i64 0] : List Value) ++ cur4.toList.drop (n1 * 6 + 6)).toArray).ownsRow B 121 6 (.slice (some ⟨b, 0, none⟩) n1 (n1 + 1)) n1 (flat (Value.int .i64) (l.eraseIdx n1))) := by
    have hgw : w.grownBy wq (some b) := ⟨hbq.os, hbq.tape, hbq.output, hbq.size, fun j hj _ => hbq.block j hj⟩
    refine ⟨⟨hgrow.os.trans hgw.os, hgrow.tape.trans hgw.tape, hgrow.output.trans hgw.output, by have := Nat.le_trans hgw.size hgrow.size; simpa using this, fun j hj hne => (setRow_other w4 b j _ (fun e => hne (by rw [e]))).trans ((hgrow.block j (Nat.lt_of_lt_of_le hj hgw.size) hne).trans (hgw.block j hj hne))⟩, ?_⟩
    refine ⟨hown4.1, .inr ⟨b, n1 + 1, _, rfl, HBB.out, setRow_heap w4 b cur4 _ _ _ hh4, by omega, HCM.out, ?_, ?_⟩⟩
    ·simp only [List.size_toArray, List.length_append, List.length_take, List.length_drop, Array.length_toList, List.length_cons, List.length_nil]; omega
    ·rw [List.append_assoc, List.take_append_of_le_length (by rw [List.length_take, Array.length_toList, hsz4]; omega), List.take_take, Nat.min_self, htk4]
   obtain ⟨C5, hC5⟩ : ∃ C5 : Array Value, C5 = (cur4.toList.take (n1 * 6) ++ ([.string ⟨#[]⟩, .string ⟨#[]⟩, .string ⟨#[]⟩, .int .i64 0, .int .i64 0, .int .i64 0] : List Value) ++ cur4.toList.drop (n1 * 6 + 6)).toArray := ⟨_, rfl⟩
   rw [← hC5] at hcl HX
   clear hC5 hpre hnew hown4 hgrow hh4 hsz4 htk4 hfl
   refine wpList_plain rfl fun K' hK' => ?_
   unfold Oper.wp
   simp [execOp, resolve, invoke, builtin, Act.eval, hrun, Result.andThen]
   refine hK' _ _ ?_
   go_wp2
   go_ret
   exact ⟨rfl, HX.out.2, HX.out.1⟩
 ·have HNEW : Hid (∀ wq, Below w.heap.size w wq → ∀ j u, (flat (Value.int .i64) (l.drop (k + 1)))[j]? = some u → wq.cell? (Addr.add ⟨b, (k + 1) * 6, none⟩ j) = some u) := fun wq hb j u hj => by
   have ha : Addr.add ⟨b, (k + 1) * 6, none⟩ j = ⟨b, (k + 1) * 6 + j, none⟩ := by unfold Addr.add; split <;> simp_all
   rw [ha, hb.cell (p := ⟨b, (k + 1) * 6 + j, none⟩) HBLT.out]
   refine hcell _ _ ?_
   rw [← StoG.flat_drop, List.getElem?_drop] at hj
   exact hj
  have hcc2 : ¬ k + 1 = c := fun e => hcc e.symm
  have hcc3 : k + 1 < c := by omega
  have hkc : k ≤ c := by omega
  clear hcell hh hsz htk hown hln hnc
  go_enter Tryz.func60, Tryz.ntmps60
  go_wp2_with fail
  generalize ((k : Int) == (k : Int) + 1) = dd
  refine wp_region_rel_tail (by kernel_rfl) 6 [is (.slice (some ⟨b, 0, none⟩) (n1 + 1) c), is (.int .i64 (k : Int)), is (.slice (some ⟨b, 0, none⟩) k c), is (.slice (some ⟨b, 0, none⟩) (n1 + 1) c), is (.int .i64 ((k : Int) + 1)), is (.slice (some ⟨b, (k + 1) * 6, none⟩) (n1 - k) (c - (k + 1)))] [[], [], [0, 1], [], [], [3, 4], [0, 1, 2, 3, 4, 5]] (by kernel_rfl) ?_ ?_
  ·refine ⟨?_, ?_, ?_, ?_, ?_, ?_, trivial⟩
   ·intro t wq hbq hh K hK
    clear hh
    simp only [filled, filledN, upd, Have, is, any, row, pick, Act.put, List.setIfInBounds_toArray, List.set_cons_zero, List.set_cons_succ, Nat.reduceAdd, Nat.reduceEqDiff, reduceIte] at hK ⊢
    go_simp
    exact hK _ _ (Below.refl _ _) rfl
   ·intro t wq hbq hh K hK
    clear hh
    simp only [filled, filledN, upd, Have, is, any, row, pick, Act.put, List.setIfInBounds_toArray, List.set_cons_zero, List.set_cons_succ, Nat.reduceAdd, Nat.reduceEqDiff, reduceIte] at hK ⊢
    go_simp
    exact hK _ _ (Below.refl _ _) rfl
   ·intro t wq hbq hh K hK
    have e0 := hh.1
    simp only [pick] at e0
    replace e0 : t 0 = (.slice (some ⟨b, 0, none⟩) (n1 + 1) c) := e0
    have e1 := hh.2.1
    simp only [pick] at e1
    replace e1 : t 1 = (.int .i64 (k : Int)) := e1
    clear hh
    simp only [filled, filledN, upd, Have, is, any, row, pick, Act.put, List.setIfInBounds_toArray, List.set_cons_zero, List.set_cons_succ, Nat.reduceAdd, Nat.reduceEqDiff, reduceIte] at hK ⊢
    simp only [e0, e1] at hK ⊢
    go_simp
    exact hK _ _ (Below.refl _ _) rfl
   ·intro t wq hbq hh K hK
    clear hh
    simp only [filled, filledN, upd, Have, is, any, row, pick, Act.put, List.setIfInBounds_toArray, List.set_cons_zero, List.set_cons_succ, Nat.reduceAdd, Nat.reduceEqDiff, reduceIte] at hK ⊢
    go_simp
    exact hK _ _ (Below.refl _ _) rfl
   ·intro t wq hbq hh K hK
    clear hh
    simp only [filled, filledN, upd, Have, is, any, row, pick, Act.put, List.setIfInBounds_toArray, List.set_cons_zero, List.set_cons_succ, Nat.reduceAdd, Nat.reduceEqDiff, reduceIte] at hK ⊢
    go_simp
    exact hK _ _ (Below.refl _ _) rfl
   ·intro t wq hbq hh K hK
    have e3 := hh.1
    simp only [pick] at e3
    replace e3 : t 3 = (.slice (some ⟨b, 0, none⟩) (n1 + 1) c) := e3
    have e4 := hh.2.1
    simp only [pick] at e4
    replace e4 : t 4 = (.int .i64 ((k : Int) + 1)) := e4
    clear hh
    simp only [filled, filledN, upd, Have, is, any, row, pick, Act.put, List.setIfInBounds_toArray, List.set_cons_zero, List.set_cons_succ, Nat.reduceAdd, Nat.reduceEqDiff, reduceIte] at hK ⊢
    simp only [e3, e4] at hK ⊢
    go_simp
    exact hK _ _ (Below.refl _ _) rfl
  ·intro t wq hbq hh
   have f2 := have_get hh 2 (by decide)
   simp only [pick] at f2
   replace f2 : t 2 = (.slice (some ⟨b, 0, none⟩) k c) := f2
   have f5 := have_get hh 5 (by decide)
   simp only [pick] at f5
   replace f5 : t 5 = (.slice (some ⟨b, (k + 1) * 6, none⟩) (n1 - k) (c - (k + 1))) := f5
   clear hh
   simp only [filled, filledN, upd, Have, is, any, row, pick, Act.put, List.setIfInBounds_toArray, List.set_cons_zero, List.set_cons_succ, Nat.reduceAdd, Nat.reduceEqDiff, reduceIte]
   simp only [f2, f5]
   show wpList _ _ _ [_, _] _ _
   have hpre : wq.ownsRow B 121 6 (.slice (some ⟨b, 0, none⟩) k c) k (flat (Value.int .i64) (l.take k)) := owns_below HPRE.out hbq
   have hnew : ∀ j u, (flat (Value.int .i64) (l.drop (k + 1)))[j]? = some u → wq.cell? (Addr.add ⟨b, (k + 1) * 6, none⟩ j) = some u := fun j u hj => HNEW.out wq hbq j u hj
   obtain ⟨w4, hrun, hown4, hgrow⟩ := run_append_fits (P := Tryz.prog) wq B 112 112 121 i0 6 Tryz.underlying112 hi0 hz1 b k c (flat (Value.int .i64) (l.take k)) hpre ⟨b, (k + 1) * 6, none⟩ (n1 - k) (c - (k + 1)) (flat (Value.int .i64) (l.drop (k + 1))) (by rw [StoG.flat_length, List.length_drop, HN.out]; omega) hnew (StoG.flat_one _ (fun _ => rfl) _) (by omega)
   have hBq : b < wq.heap.size := Nat.lt_of_lt_of_le HBLT.out hbq.size
   rw [show k + (n1 - k) = n1 by omega] at hrun hown4
   have hfl : flat (Value.int .i64) (l.take k) ++ flat (Value.int .i64) (l.drop (k + 1)) = flat (Value.int .i64) (l.eraseIdx k) := by rw [← StoG.flat_append, List.eraseIdx_eq_take_drop_succ]
   rw [hfl] at hown4
   obtain ⟨cur4, hh4, hsz4, htk4⟩ := own_block hown4
   have hcl : ∀ ty, (Builtin.clear_ #[112] ty #[.slice (some ⟨b, n1 * 6, none⟩) 1 (c - n1)]).run Tryz.prog w4 = .ok (.tuple #[]) (w4.setRow b (cur4.toList.take (n1 * 6) ++ ([.string ⟨#[]⟩, .string ⟨#[]⟩, .string ⟨#[]⟩, .int .i64 0, .int .i64 0, .int .i64 0] : List Value) ++ cur4.toList.drop (n1 * 6 + 6)).toArray) :=
    fun ty => run_clear_six w4 112 121 ty [.string ⟨#[]⟩, .string ⟨#[]⟩, .string ⟨#[]⟩, .int .i64 0, .int .i64 0, .int .i64 0] rfl Tryz.underlying112 (zero_of_info info_e).1 rfl (by intro u hu; simp at hu; rcases hu with rfl | rfl | rfl | rfl | rfl | rfl <;> rfl) b (n1 * 6) _ cur4 121 hh4 (by rw [hsz4]; omega)
   have HX : Hid (w.grownBy (w4.setRow b (cur4.toList.take (n1 * 6) ++ ([.string ⟨#[]⟩, .string ⟨#[]⟩, .string ⟨#[]⟩, .int .i64 0, .int .i64 0, .int .i64 0] : List Value) ++ cur4.toList.drop (n1 * 6 + 6)).toArray) (some b) ∧ (w4.setRow b (cur4.toList.take (n1 * 6) ++ ([.string ⟨#[]⟩, .string ⟨#[]⟩, .string ⟨#[]⟩, .int .i64 0, .int .i64 0, .int .i64 0] : List Value) ++ cur4.toList.drop (n1 * 6 + 6)).toArray).ownsRow B 121 6 (.slice (some ⟨b, 0, none⟩) n1 c) n1 (flat (Value.int .i64) (l.eraseIdx k))) := by
    have hgw : w.grownBy wq (some b) := ⟨hbq.os, hbq.tape, hbq.output, hbq.size, fun j hj _ => hbq.block j hj⟩
    refine ⟨⟨hgrow.os.trans hgw.os, hgrow.tape.trans hgw.tape, hgrow.output.trans hgw.output, by have := Nat.le_trans hgw.size hgrow.size; simpa using this, fun j hj hne => (setRow_other w4 b j _ (fun e => hne (by rw [e]))).trans ((hgrow.block j (Nat.lt_of_lt_of_le hj hgw.size) hne).trans (hgw.block j hj hne))⟩, ?_⟩
    refine ⟨hown4.1, .inr ⟨b, c, _, rfl, HBB.out, setRow_heap w4 b cur4 _ _ _ hh4, by omega, HCM.out, ?_, ?_⟩⟩
    ·simp only [List.size_toArray, List.length_append, List.length_take, List.length_drop, Array.length_toList, List.length_cons, List.length_nil]; omega
    ·rw [List.append_assoc, List.take_append_of_le_length (by rw [List.length_take, Array.length_toList, hsz4]; omega), List.take_take, Nat.min_self, htk4]
   obtain ⟨C5, hC5⟩ : ∃ C5 : Array Value, C5 = (cur4.toList.take (n1 * 6) ++ ([.string ⟨#[]⟩, .string ⟨#[]⟩, .string ⟨#[]⟩, .int .i64 0, .int .i64 0, .int .i64 0] : List Value) ++ cur4.toList.drop (n1 * 6 + 6)).toArray := ⟨_, rfl⟩
   rw [← hC5] at hcl HX
   clear hC5 hpre hnew hown4 hgrow hh4 hsz4 htk4 hfl
   refine wpList_plain rfl fun K' hK' => ?_
   unfold Oper.wp
   simp [execOp, resolve, invoke, builtin, Act.eval, hrun, Result.andThen]
   refine hK' _ _ ?_
   go_wp2
   go_ret
   exact ⟨rfl, HX.out.2, HX.out.1⟩
set_option maxHeartbeats 1000000 in
theorem rev_yes (B g room : Nat) (l : List (Ent (Int))) (uv : Array Value) (t : ByteArray) (s h : ByteArray) (p n : Int) (w : World) (hS : IsS 114 121 (Value.int .i64) B g room l w) (hl : l.length ≤ 64) (hu : uv.size = 13) (k : Nat) (hk : k < l.length) (hi : idx l t = some k) (hh : hasO l t s h p n = true)
  (HBR : Hid (∀ w', Below w.heap.size w w' → Calls Tryz.prog 90 #[.agg uv] w' fun e w'' => e = .returned (.string t) ∧ Below w'.heap.size w' w'')) :
  Calls Tryz.prog 20 #[.pointer (some ⟨g, 0, none⟩), .agg uv, .agg #[.string s, .string h, .int .i64 p, .int .i64 n]] w fun e w' => e = .returned (.bool true) ∧ IsS 114 121 (Value.int .i64) B g room (l.eraseIdx k) w' ∧ Below B w w' ∧ Kp 114 121 w w' := by
 have HS0 := hid hS
 have HU := hid hu
 have HH := hid hh
 have HI := hid hi
 have hBw : B ≤ w.heap.size := by obtain ⟨_, _, _, h3⟩ := hS; exact Nat.le_trans h3 (Nat.le_of_lt HS0.out.lt)
 obtain ⟨n1, hn1⟩ : ∃ n1, l.length = n1 + 1 := ⟨l.length - 1, by omega⟩
 have HN1 := hid hn1
 have hkn : k ≤ n1 := by omega
 have hn64 : n1 ≤ 64 := by omega
 clear hS hu hh hi hn1
 go_enter Tryz.func20, Tryz.ntmps20
 go_upto_region 1 with (fail)
 generalize hwa : World.alloc (World.alloc w _) _ = v1
 have h1_ : v1.heap[w.heap.size]? = some (.cells uv 34 (0, 0)) ∧ OB v1 (w.heap.size + 1) s h p n ∧ Below w.heap.size w v1 := by
  subst hwa
  exact laid2 w _ _ _ _
 clear hwa
 have HLD : Hid ((loadVar 34 ⟨w.heap.size, 0, none⟩).run Tryz.prog v1 = .ok (.agg uv) v1) := uv_load HU.out h1_.1
 have HLE : Hid ((loadVar 28 ⟨w.heap.size + 1, 0, none⟩).run Tryz.prog v1 = .ok (.agg #[.string s, .string h, .int .i64 p, .int .i64 n]) v1) := ob_load h1_.2.1
 have HB1 := hid h1_.2.2
 clear h1_
 go_wp2_with (first | refine load_as HLD.out (.tmp 4) rfl rfl rfl ?_ | refine load_as HLE.out (.tmp 5) rfl rfl rfl ?_)
 refine (owned_any B g room l uv t s h p n _ (HS0.out.below HB1.out) hl HU.out (hid fun w' hb => HBR.out w' (bel HB1.out hb))).mono ?_
 rw [HH.out, HI.out]
 rintro e v2 ⟨rfl, hb2⟩
 rw [show plc (some k) = (k : Int) from rfl]
 have HB2 := hid (bel HB1.out hb2)
 clear HB1 hb2 HLD HLE
 have HS2 := hid (HS0.out.below HB2.out)
 obtain ⟨v, hv, hown, hBg⟩ := HS2.out
 have hglt := HS2.out.lt
 obtain ⟨A, c, rfl, hnc, hcm, hcell⟩ := own_cells hown
 obtain ⟨b, rfl, hbl, _⟩ := hcell k hk
 rw [HN1.out] at hv hown
 obtain ⟨c0, c1⟩ := cells2 hv
 have HV := hid hv
 have HO := hid hown
 clear hcell hv hown
 have hki : (k : Int) ≤ 64 := by omega
 go_wp2_with fail
 refine (delete_any B b c k n1 l _ HO.out hkn hn64).mono ?_
 rintro e w3 ⟨rfl, hown3, hgrow⟩
 have hv3 : w3.heap[g]? = some (.cells #[.int .i64 (room : Int), .slice (some ⟨b, 0, none⟩) (n1 + 1) c] 114 (0, 0)) := (hgrow.block g hglt (fun e => own_ne (by decide) HV.out HO.out (by rw [e]; rfl))).trans HV.out
 have hb3 : Below B w w3 := (HB2.out.mono hBw).grown hgrow (Nat.le_trans hBw HB2.out.size) (fun j hj => (HO.out.lt j (by rw [← hj]; rfl)).1)
 have hk3 : Kp 114 121 w w3 := (Kp.below HB2.out).trans (Kp.grown HO.out hgrow)
 have hv4 := heap_setCell_same w3 g 1 _ _ (.slice (some ⟨b, 0, none⟩) n1 c) hv3
 have hown4 := own_set (g := g) (i := 1) (x := .slice (some ⟨b, 0, none⟩) n1 c) hown3 (own_ne (by decide) hv3 hown3)
 have HT4 : Hid (IsS 114 121 (Value.int .i64) B g room (l.eraseIdx k) (w3.setCell ⟨g, 1, none⟩ (.slice (some ⟨b, 0, none⟩) n1 c))) := by
  refine ⟨_, by simpa using hv4, ?_, hBg⟩
  rw [show (l.eraseIdx k).length = n1 by rw [List.length_eraseIdx, if_pos hk, HN1.out]; rfl]
  exact hown4
 have HB4 : Hid (Below B w (w3.setCell ⟨g, 1, none⟩ (.slice (some ⟨b, 0, none⟩) n1 c))) := hb3.setCell (p := ⟨g, 1, none⟩) hBg _
 have HK4 : Hid (Kp 114 121 w (w3.setCell ⟨g, 1, none⟩ (.slice (some ⟨b, 0, none⟩) n1 c))) := hk3.trans (Kp.set hv3 (.inl rfl))
 obtain ⟨k0, k1⟩ := cells2 hv3
 obtain ⟨m0, m1⟩ := thaw2 hv3
 clear hown3 hgrow hv3 hb3 hk3 hv4 hown4 c0 c1
 go_wp2
 go_ret
 exact ⟨rfl, HT4.out, HB4.out, HK4.out⟩
theorem info_s : (Tryz.prog.info? 9).map (fun i => (i.zero, i.size, i.bytes)) = some (some (.string ⟨#[]⟩), 1, 16) := by kernel_rfl
def us (l : List (Ent (Int))) : List Value := l.map fun e => .string e.url
theorem us_take (l : List (Ent (Int))) (k : Nat) (h : k < l.length) : us (l.take (k + 1)) = us (l.take k) ++ [.string l[k].url] := by
 rw [List.take_succ_eq_append_getElem h]
 unfold us
 rw [List.map_append]
 rfl
set_option maxHeartbeats 1000000 in
set_option maxRecDepth 100000 in
theorem urls_any (B g room : Nat) (l : List (Ent (Int))) (w : World) (hT : IsS 114 121 (Value.int .i64) B g room l w) (hl : l.length ≤ 64) :
  Calls Tryz.prog 19 #[.pointer (some ⟨g, 0, none⟩)] w fun e w' => ∃ v, e = .returned v ∧ w'.ownsRow w.heap.size 9 1 v l.length (us l) ∧ Below w.heap.size w w' := by
 have hlt := hT.lt
 obtain ⟨i0, hi, hz0, hz1, hz2⟩ := info_parts info_s
 obtain ⟨v, hv, hown, hBg⟩ := hT
 obtain ⟨A, c, rfl, hnc, hcm, hcell⟩ := own_cells hown
 obtain ⟨c0, c1⟩ := cells2 hv
 have HC := hid hcell
 have hlli : (l.length : Int) ≤ 64 := by omega
 clear hcell hv hown
 go_enter Tryz.func19, Tryz.ntmps19
 go_wp2
 go_loopw [3, 13] (fun vr vk wr => ∃ k : Nat, k ≤ l.length ∧ vk = .int .i64 (k : Int) ∧ Hid (wr.ownsRow w.heap.size 9 1 vr k (us (l.take k))) ∧ Below w.heap.size w wr) (fun _ vk _ => l.length - (intOf vk).toNat)
 case atStart => exact ⟨0, by omega, rfl, World.ownsRow_nil _ _ _ _, Below.refl _ _⟩
 case round =>
  obtain ⟨k, hk, rfl, HO, hbel⟩ := hrel
  by_cases hlk : k < l.length
  ·obtain ⟨b, rfl, hbl, hcc⟩ := HC.out k hlk
   obtain ⟨E, hp⟩ : ∃ E, E = l[k] := ⟨_, rfl⟩
   rw [← hp] at hcc
   obtain ⟨k0, k1, k2, k3, k4, k5⟩ := six_cells (w := wr) fun j' v h1 h2 => (hbel.cell (p := ⟨b, k * 6 + j', none⟩) hbl).trans (hcc j' v h1 h2)
   have HP := hid hp
   clear hp hcc
   have HO2 : Hid ((wr.alloc (.cells #[.string E.url, .string E.s, .string E.h, .int .i64 E.p, .int .i64 E.n, (Value.int .i64) E.x] 121)).ownsRow w.heap.size 9 1 _ k (us (l.take k))) := hid (HO.out.alloc _)
   have hbel2 : Below w.heap.size w (wr.alloc (.cells #[.string E.url, .string E.s, .string E.h, .int .i64 E.p, .int .i64 E.n, (Value.int .i64) E.x] 121)) := hbel.alloc hbel.size _
   go_wp2_with (at_builtin; refine wpList_app rfl _ _ 32 rfl w.heap.size 9 i0 (.string ⟨#[]⟩) 16 Tryz.underlying32 hi hz0 hz1 hz2 rfl _ k _ rfl HO2.out hbel2 hbel2.size [.string E.url] 1 rfl (by rw [World.size_alloc]; rfl) (by intro u hu; simp at hu; subst hu; rfl) (by unfold maxLen; omega) (by omega) ?_)
   intro v' w' hown' hbel'
   have HO3 : Hid (w'.ownsRow w.heap.size 9 1 v' (k + 1) (us (l.take (k + 1)))) := by
    show World.ownsRow _ _ _ _ _ _ _
    rw [us_take l k hlk, ← HP.out]
    exact hown'
   clear hown' HO2 hbel2 HO hbel
   go_wp2
   go_roundw
   case rel => exact ⟨k + 1, by omega, by go_num, HO3.out, hbel'⟩
   case measure => simp [intOf]; omega
  ·obtain rfl : k = l.length := by omega
   rw [List.take_length] at HO
   go_wp2
   go_ret
   exact ⟨_, rfl, HO.out, hbel⟩
end Go.Proofs.YthajldjmplfnaaaGreatDoor.StoK
namespace Go.Proofs.YthajldjmplfnaaaGreatDoor.PrsA
open Go.RowKit Base Regs Base2 UtfL UrlA PrsP
theorem dl (s : ByteArray) : s.data.toList.length = s.size := Array.length_toList
end Go.Proofs.YthajldjmplfnaaaGreatDoor.PrsA
namespace Go.Proofs.YthajldjmplfnaaaGreatDoor.PrsQ
open Go.RowKit Base Base2 UtfA UtfL UrlA PrsP PrsA
def schAt (s : List UInt8) (k : Nat) : Bool := match s[k]? with
 | none => true
 | some c => letter c.toNat || (decide (k ≠ 0) && schC c)
theorem isSch_all (s : List UInt8) : isSch s = (decide (s ≠ []) && (List.range s.length).all (schAt s)) := by
 cases s with
 | nil => rfl
 | cons c r =>
  unfold isSch
  rw [List.length_cons, List.range_succ_eq_map, List.all_cons, List.all_map]
  have h0 : schAt (c :: r) 0 = letter c.toNat := by unfold schAt; simp
  rw [h0]
  simp only [ne_eq, reduceCtorEq, not_false_eq_true, decide_true, Bool.true_and]
  congr 1
  have hr : ∀ k, (schAt (c :: r) ∘ Nat.succ) k = match r[k]? with
    | none => true
    | some d => schC d := by
   intro k
   show schAt (c :: r) (k + 1) = _
   unfold schAt
   rw [List.getElem?_cons_succ]
   cases r[k]? with
   | none => rfl
   | some d =>
    simp only [ne_eq, Nat.add_eq_zero_iff, Nat.one_ne_zero, and_false, not_false_eq_true, decide_true, Bool.true_and]
    unfold schC
    cases letter d.toNat <;> simp
  rw [Bool.eq_iff_iff, List.all_eq_true, List.all_eq_true]
  constructor
  ·intro h k hk
   rw [hr k, List.getElem?_eq_getElem (by simpa using hk)]
   exact h _ (List.getElem_mem _)
  ·intro h d hd
   obtain ⟨k, hk, rfl⟩ := List.getElem_of_mem hd
   have := h k (by simpa using hk)
   rw [hr k, List.getElem?_eq_getElem hk] at this
   exact this
theorem isSch_no (s : List UInt8) (k : Nat) (h : k < s.length) (hb : schAt s k = false) : isSch s = false := by
 rw [isSch_all]
 have : (List.range s.length).all (schAt s) = false := by
  cases e : (List.range s.length).all (schAt s) with
  | false => rfl
  | true =>
   have := List.all_eq_true.1 e k (by simpa using h)
   rw [hb] at this
   cases this
 rw [this, Bool.and_false]
theorem isSch_yes (s : List UInt8) (h : ∀ k, k < s.length → schAt s k = true) : isSch s = decide (s ≠ []) := by
 rw [isSch_all, List.all_eq_true.2 fun k hk => h k (by simpa using hk), Bool.and_true]
theorem schAt_eq (s : List UInt8) (k : Nat) (h : k < s.length) : schAt s k = (letter s[k].toNat || (decide (k ≠ 0) && schC s[k])) := by
 unfold schAt
 rw [List.getElem?_eq_getElem h]
end Go.Proofs.YthajldjmplfnaaaGreatDoor.PrsQ
namespace Go.Proofs.YthajldjmplfnaaaGreatDoor.PrsB
open Go.RowKit Base Regs Base2 UtfA UtfL UrlA PrsP PrsA PrsQ
set_option maxRecDepth 100000 in
set_option maxHeartbeats 4000000 in
theorem isScheme_any (s : ByteArray) (w : World) (hs : s.size ≤ 1073741824) : Calls Tryz.prog 108 #[.string s] w fun e w' => e = .returned (.bool (isSch s.data.toList)) ∧ w' = w := by
 obtain ⟨V, hV⟩ : ∃ V, V = isSch s.data.toList := ⟨_, rfl⟩
 rw [← hV]
 have HV := hid hV
 clear hV
 have hixx := ix3
 go_enter Tryz.func108, Tryz.ntmps108
 go_wp2
 go_loopw [3] (fun vk wr => ∃ k : Nat, k ≤ s.size ∧ vk = .int .i64 (k : Int) ∧ wr = w ∧ Hid (∀ j, j < k → schAt s.data.toList j = true)) (fun vk _ => s.size - (intOf vk).toNat)
 case atStart => exact ⟨0, Nat.zero_le _, rfl, rfl, fun j h => by omega⟩
 case round =>
  obtain ⟨k, hk, rfl, hwr, HA⟩ := hrel
  subst hwr
  by_cases hlt : k < s.size
  ·obtain ⟨c, hc⟩ : ∃ c, s[k] = c := ⟨_, rfl⟩
   have hkl : k < s.data.toList.length := by rw [dl]; exact hlt
   have hcl : s.data.toList[k] = c := hc
   have hat : schAt s.data.toList k = (letter (c.toNat : Int) || (decide (k ≠ 0) && schC c)) := by rw [schAt_eq _ k hkl, hcl]
   have hno := isSch_no s.data.toList k hkl
   have hlet := fun w => letter_any (c.toNat : Int) w
   have hdig := fun w => digit_any (c.toNat : Int) w
   have hix := fun w => Tryz.strings_IndexByte ⟨#[43, 45, 46]⟩ (c.toNat : Int) w
   have e2 : ((c.toNat : Int)).toNat.toUInt8 = c := by simp
   rw [e2, show (⟨#[43, 45, 46]⟩ : ByteArray).data.toList = [43, 45, 46] from rfl] at hix
   have hi3 := hixx c
   obtain ⟨z, hz⟩ : ∃ z, z = Lib.indexByte [43, 45, 46] c := ⟨_, rfl⟩
   rw [← hz] at hix hi3
   have HNX : Hid (schAt s.data.toList k = true → ∀ j, j < k + 1 → schAt s.data.toList j = true) := by
    intro h j hj
    by_cases hjk : j < k
    ·exact HA.out j hjk
    ·obtain rfl : j = k := by omega
     exact h
   obtain ⟨l, hl⟩ : ∃ l, l = letter (c.toNat : Int) := ⟨_, rfl⟩
   obtain ⟨g, hg⟩ : ∃ l, l = digit (c.toNat : Int) := ⟨_, rfl⟩
   have hsc : schC c = (l || (g || decide (0 ≤ z))) := by unfold schC; rw [hi3, hl, hg]
   rw [← hl] at hlet hat
   rw [← hg] at hdig
   rw [hsc] at hat
   have HL := hid hlet
   have HG := hid hdig
   have HX := hid hix
   have HAT := hid hat
   have HNO := hid hno
   clear hkl hcl hlet hdig hix e2 hi3 hz hl hg hsc hat hno
   cases l with
   | true =>
    have HN : Hid (∀ j, j < k + 1 → schAt s.data.toList j = true) := HNX.out (by rw [HAT.out]; rfl)
    go_wp2_with fail
    refine (HL.out _).mono ?_
    rintro e w2 ⟨rfl, hw2⟩
    subst hw2
    go_wp2
    go_roundw
    case rel => exact ⟨k + 1, by omega, by go_num, by first | rfl | trivial, HN.out⟩
    case measure => simp [intOf]; omega
   | false =>
    by_cases hk0 : k = 0
    ·have HE : Hid (V = false) := by show _ = _; rw [HV.out]; exact HNO.out (by rw [HAT.out, hk0]; rfl)
     have q0 : ((k : Int) == 0) = true := by rw [hk0]; rfl
     clear hk0
     go_wp2_with fail
     refine (HL.out _).mono ?_
     rintro e w2 ⟨rfl, hw2⟩
     subst hw2
     go_wp2
     go_ret
     exact ⟨ret_bool (by rw [HE.out]), rfl⟩
    ·have q0 : ((k : Int) == 0) = false := by rw [beq_eq_false_iff_ne]; omega
     have HAT2 : Hid (schAt s.data.toList k = (g || decide (0 ≤ z))) := by show _ = _; rw [HAT.out, decide_eq_true hk0]; rfl
     clear hk0
     cases g with
     | true =>
      have HN : Hid (∀ j, j < k + 1 → schAt s.data.toList j = true) := HNX.out (by rw [HAT2.out]; rfl)
      go_wp2_with fail
      refine (HL.out _).mono ?_
      rintro e w2 ⟨rfl, hw2⟩
      subst hw2
      go_wp2_with fail
      refine (HG.out _).mono ?_
      rintro e w2 ⟨rfl, hw2⟩
      subst hw2
      go_wp2
      go_roundw
      case rel => exact ⟨k + 1, by omega, by go_num, by first | rfl | trivial, HN.out⟩
      case measure => simp [intOf]; omega
     | false =>
      by_cases hz0 : 0 ≤ z
      ·have HN : Hid (∀ j, j < k + 1 → schAt s.data.toList j = true) := HNX.out (by rw [HAT2.out, decide_eq_true hz0]; rfl)
       have hz1 : ¬ z < 0 := by omega
       go_wp2_with fail
       refine (HL.out _).mono ?_
       rintro e w2 ⟨rfl, hw2⟩
       subst hw2
       go_wp2_with fail
       refine (HG.out _).mono ?_
       rintro e w2 ⟨rfl, hw2⟩
       subst hw2
       go_wp2_with fail
       refine (HX.out _).mono ?_
       rintro e w2 ⟨rfl, hw2⟩
       subst hw2
       go_wp2
       go_roundw
       case rel => exact ⟨k + 1, by omega, by go_num, by first | rfl | trivial, HN.out⟩
       case measure => simp [intOf]; omega
      ·have HE : Hid (V = false) := by show _ = _; rw [HV.out]; exact HNO.out (by rw [HAT2.out, decide_eq_false hz0]; rfl)
       have hz1 : z < 0 := by omega
       go_wp2_with fail
       refine (HL.out _).mono ?_
       rintro e w2 ⟨rfl, hw2⟩
       subst hw2
       go_wp2_with fail
       refine (HG.out _).mono ?_
       rintro e w2 ⟨rfl, hw2⟩
       subst hw2
       go_wp2_with fail
       refine (HX.out _).mono ?_
       rintro e w2 ⟨rfl, hw2⟩
       subst hw2
       go_wp2
       go_ret
       exact ⟨ret_bool (by rw [HE.out]), rfl⟩
  ·obtain rfl : k = s.size := by omega
   have hE : V = decide (s.data.toList ≠ []) := by rw [HV.out]; exact isSch_yes _ fun j hj => HA.out j (by rw [dl] at hj; exact hj)
   by_cases h0 : s.data.toList = []
   ·have HE : Hid (V = false) := by show _ = _; rw [hE]; exact decide_eq_false (fun h => h h0)
    have q0 : (s.toList == []) = true := by rw [Lib.toList_data, h0]; rfl
    have q1 : s.toList = [] := by rw [Lib.toList_data, h0]
    clear hE h0
    go_wp2
    go_ret
    exact ⟨ret_bool (by rw [HE.out]), rfl⟩
   ·have HE : Hid (V = true) := by show _ = _; rw [hE]; exact decide_eq_true h0
    have q0 : (s.toList == []) = false := by rw [Lib.toList_data, beq_eq_false_iff_ne]; exact h0
    have q1 : ¬ s.toList = [] := by rw [Lib.toList_data]; exact h0
    have q2 : s.toList.isEmpty = false := by rw [Lib.toList_data]; simpa using h0
    clear hE h0
    go_wp2
    go_ret
    exact ⟨ret_bool (by rw [HE.out]), rfl⟩
where
 ix3 (c : UInt8) : (decide (c = 43) || (decide (c = 45) || decide (c = 46))) = decide (0 ≤ Lib.indexByte [43, 45, 46] c) := by
  have H : ∀ n : Fin 256, (decide (UInt8.ofNat n.val = 43) || (decide (UInt8.ofNat n.val = 45) || decide (UInt8.ofNat n.val = 46))) = decide (0 ≤ Lib.indexByte [43, 45, 46] (UInt8.ofNat n.val)) := by decide +kernel
  have := H ⟨c.toNat, c.toNat_lt⟩
  simpa using this
end Go.Proofs.YthajldjmplfnaaaGreatDoor.PrsB
namespace Go.Proofs.YthajldjmplfnaaaGreatDoor.Regs
open Go.RowKit Base
def did (L : Nat → Bool) (i : Nat) (k : Nat) : Bool := if k = i then true else L k
theorem did_self (L : Nat → Bool) (i : Nat) : did L i i = true := by simp [did]
theorem did_ne (L : Nat → Bool) {i k : Nat} (h : k ≠ i) : did L i k = L k := by simp [did, h]
def Free (R : List Keep) : Prop := ∀ k v w w', (pick R k).says v w → (pick R k).says v w'
theorem free_nil : Free [] := fun _ _ _ _ _ => trivial
theorem free_is {R : List Keep} (u : Value) (h : Free R) : Free (is u :: R) := fun k v w w' hs => match k, hs with
 | 0, hs => hs
 | k + 1, hs => h k v w w' hs
theorem free_any {R : List Keep} (h : Free R) : Free (any :: R) := fun k v w w' hs => match k, hs with
 | 0, _ => trivial
 | k + 1, hs => h k v w w' hs
section
variable {P : Program} {md : Region.Mode} {ops : Array Oper} {Q : Exit → Act → World → Prop}
def StepG (P : Program) (ops : Array Oper) (Q : Exit → Act → World → Prop) (A : (Nat → Value) → Act) (G : (Nat → Bool) → (Nat → Value) → World → Prop) (R : List Keep) (N : List (List Nat)) (i : Nat) (o : Oper) (ns : List Nat) : Prop :=
 ∀ L t w, G L t w → L i = false → (∀ k, L k = true → ∀ j ∈ N.getD k [], L j = true) → (∀ k ∈ ns, L k = true) → Have R t w ns → ∀ K : Act → World → Prop, (∀ v w', (pick R i).says v w' → G (did L i) (upd t i v) w' → K (A (upd t i v)) w') →
  if Region.wanted o (yielded ops (A t).tmps) = true then Oper.wp P o (A t) w K Q else K ((A t).put o.dst undef) w
def StepsG (P : Program) (ops : Array Oper) (Q : Exit → Act → World → Prop) (A : (Nat → Value) → Act) (G : (Nat → Bool) → (Nat → Value) → World → Prop) (R : List Keep) (N : List (List Nat)) : Nat → List Oper → List (List Nat) → Prop
 | _, [], _ => True
 | k, o :: os, ns => StepG P ops Q A G R N k o (ns.headD []) ∧ StepsG P ops Q A G R N (k + 1) os ns.tail
theorem StepsG.at {A : (Nat → Value) → Act} {G : (Nat → Bool) → (Nat → Value) → World → Prop} {R : List Keep} {N : List (List Nat)} : ∀ (os : List Oper) (k : Nat) (ns : List (List Nat)), StepsG P ops Q A G R N k os ns → ∀ j o, os[j]? = some o → StepG P ops Q A G R N (k + j) o (ns.getD j [])
 | [], _, _, _, j, o, h => by simp at h
 | p :: os, k, ns, h, 0, o, e => by
  simp at e
  subst e
  cases ns <;> exact h.1
 | p :: os, k, ns, h, j + 1, o, e => by
  have := StepsG.at os (k + 1) ns.tail h.2 j o (by simpa using e)
  rw [Nat.add_assoc, Nat.add_comm 1 j] at this
  cases ns <;> simpa using this
structure InvG (ops : Array Oper) (G : (Nat → Bool) → (Nat → Value) → World → Prop) (R : List Keep) (ns : List (List Nat)) (listed : Array Bool) (t : Nat → Value) (w : World) : Prop where
 own : G (fun k => listed.getD k false) t w
 size : listed.size = ops.size
 held : ∀ i, listed.getD i false = true → (pick R i).says (t i) w ∧ ∀ k ∈ ns.getD i [], listed.getD k false = true
theorem wpAny_inv {A : (Nat → Value) → Act} {G : (Nat → Bool) → (Nat → Value) → World → Prop} {R : List Keep} {ns : List (List Nat)} (hB : needsB md ops ns = true) (hf : Free R) (steps : StepsG P ops Q A G R ns 0 ops.toList ns)
  (fin : ∀ L t w, G L t w → (∀ k < ops.size, L k = true) → Have R t w (List.range ops.size) → Q .normal (A t) w) :
  ∀ (fuel : Nat) (listed : Array Bool) (t : Nat → Value) (w : World), InvG ops G R ns listed t w → unl ops listed ≤ fuel → wpAny P md ops Q fuel listed (A t) w := by
 have done : ∀ (listed : Array Bool) (t : Nat → Value) (w : World), InvG ops G R ns listed t w → Region.ready md ops listed = [] → Q .normal (A t) w := fun listed t w h hr =>
  fin _ t w h.own (fun k hk => all_listed hB h.size hr (k + 1) k (by omega) hk) (have_of _ fun k hk => (h.held k (all_listed hB h.size hr (k + 1) k (by omega) (by simpa using hk))).1)
 intro fuel
 induction fuel with
 | zero =>
  intro listed t w h hu
  have hr : Region.ready md ops listed = [] := by
   cases e : Region.ready md ops listed with
   | nil => rfl
   | cons i l =>
    have hi : i ∈ Region.ready md ops listed := by rw [e]; simp
    obtain ⟨h0, o, ho, _⟩ := mem_ready.1 hi
    have := countP_set h.size (Array.getElem?_eq_some_iff.1 ho).1 h0
    omega
  exact ⟨hr, done listed t w h hr⟩
 | succ fuel ih =>
  intro listed t w h hu
  refine ⟨done listed t w h, fun i hi => ?_⟩
  obtain ⟨h0, o, ho, hall⟩ := mem_ready.1 hi
  have hlt := (Array.getElem?_eq_some_iff.1 ho).1
  have hneed : ∀ k ∈ ns.getD i [], listed.getD k false = true := fun k hk => by
   obtain ⟨e, he, hb, hk⟩ := (needs_back hB ho).2 k hk
   rcases hk with rfl | hk
   ·exact hall e he hb
   ·exact (h.held e.on (hall e he hb)).2 k hk
  have hst := StepsG.at ops.toList 0 ns steps i o (by simpa using ho)
  rw [Nat.zero_add] at hst
  refine wpOp_step ho fun K hK => hst (fun k => listed.getD k false) t w h.own (by
   show listed.getD i false = false
   rw [getD_of (by rw [h.size]; exact hlt) false true]; exact h0) (fun k hk j hj => (h.held k hk).2 j hj) hneed (have_of _ fun k hk => (h.held k (hneed k hk)).1) K fun v w' hv hg => hK _ _ (ih _ _ _ ⟨?_, by simpa using h.size, fun j hj => ?_⟩ ?_)
  ·have e : (fun k => (listed.setIfInBounds i true).getD k false) = did (fun k => listed.getD k false) i := by
    funext k
    by_cases hk : k = i
    ·subst hk
     rw [did_self]
     simp [Array.getD, h.size, hlt]
    ·rw [did_ne _ hk]
     exact getD_set_ne false (Ne.symm hk)
   rw [e]
   exact hg
  ·by_cases hji : j = i
   ·subst hji
    refine ⟨by simpa [upd] using hv, fun k hk => getD_set_true (hneed k hk)⟩
   ·rw [getD_set_ne false (Ne.symm hji)] at hj
    have := h.held j hj
    refine ⟨by simp only [upd, if_neg hji]; exact hf j _ _ _ this.1, fun k hk => getD_set_true (this.2 k hk)⟩
  ·have := countP_set h.size hlt h0
   omega
theorem wp_region_inv {id : Nat} {a : Act} {w : World} {l : List Oper} (hm : P.follows .mixedOrders = true) (G : (Nat → Bool) → (Nat → Value) → World → Prop) (R : List Keep) (ns : List (List Nat)) (hB : needsB .any l.toArray ns = true) (hf : Free R)
  (beg : ∀ t, G (fun _ => false) t { w with drawn := w.drawn + 1 })
  (steps : StepsG P l.toArray Q (fun t => filled t l 0 a) G R ns 0 l ns)
  (fin : ∀ L t w', G L t w' → (∀ k < l.length, L k = true) → Have R t w' (List.range l.length) → Q .normal (filled t l 0 a) w') : (Code.region id l.toArray true).wp P Q a w := by
 refine wp_region_any hm ?_
 have h := wpAny_inv (P := P) (Q := Q) (md := .any) (ops := l.toArray) (A := fun t => filled t l 0 a) (G := G) (R := R) (ns := ns) hB hf (by simpa using steps) (by simpa using fin) l.length (Array.replicate l.length false) (now l a) { w with drawn := w.drawn + 1 }
  ⟨by
   have e : (fun k => (Array.replicate l.length false).getD k false) = fun _ => false := by
    funext k
    by_cases h : k < l.length <;> simp [Array.getD, h]
   rw [e]
   exact beg _, by simp, fun i hi => by
   by_cases h : i < l.length <;> simp [Array.getD, h] at hi⟩ (by unfold unl; refine Nat.le_trans List.countP_le_length ?_; simp)
 have e : filled (now l a) l 0 a = a := filled_now a l l 0 (fun j => by simp)
 have h' : wpAny P .any l.toArray Q l.length (Array.replicate l.length false) (filled (now l a) l 0 a) { w with drawn := w.drawn + 1 } := h
 rw [e] at h'
 simpa using h'
end
end Go.Proofs.YthajldjmplfnaaaGreatDoor.Regs
