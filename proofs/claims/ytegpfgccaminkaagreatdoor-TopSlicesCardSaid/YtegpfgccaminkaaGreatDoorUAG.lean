/- Texts that belong together: StoD, BlobA, BlobB. -/
import Derived.Test.YtegpfgccaminkaaGreatDoorUAF
import Derived.BigQuiet
import Derived.Deep.QuietTactic
import Derived.Deep.WholeRow
import Derived.Test.YtegpfgccaminkaaGreatDoorUAA
import Derived.Test.YtegpfgccaminkaaGreatDoorUAC
import Derived.Lib.SliceRun
set_option linter.unusedSimpArgs false
set_option linter.unusedVariables false
namespace Go.Proofs.YtegpfgccaminkaaGreatDoor.StoD
open Go.RowKit Base Base2 Base3 Regs TbK StoG StoB OrgA Ubx LdA
set_option linter.unusedSimpArgs false
set_option linter.unusedVariables false
def hasO (l : List (Ent (Nat))) (t : ByteArray) (s h : ByteArray) (p n : Int) : Bool := match idx l t with
 | none => false
 | some k => match l[k]? with
  | none => false
  | some e => sameO e.s.data.toList e.h.data.toList e.p e.n s.data.toList h.data.toList p n
theorem uv_load {w : World} {g : Nat} {uv : Array Value} (hs : uv.size = 13) (x : w.heap[g]? = some (.cells uv 52 (0, 0))) : (loadVar 52 ⟨g, 0, none⟩).run Tryz.prog w = .ok (.agg uv) w :=
 run_loadVar_row w g _ _ uv (0, 0) _ x Tryz.underlying52 rfl (by rw [hs]; kernel_rfl)
theorem ent_load {w : World} {b o : Nat} {s h : ByteArray} {p n : Int} (h0 : w.cell? ⟨b, o, none⟩ = some (.string s)) (h1 : w.cell? ⟨b, o + 1, none⟩ = some (.string h)) (h2 : w.cell? ⟨b, o + 2, none⟩ = some (.int .i64 p)) (h3 : w.cell? ⟨b, o + 3, none⟩ = some (.int .i64 n)) : (loadVar 32 ⟨b, o, none⟩).run Tryz.prog w = .ok (.agg #[.string s, .string h, .int .i64 p, .int .i64 n]) w :=
 load_at (l := [.string s, .string h, .int .i64 p, .int .i64 n]) (fun j v hv => by
  match j, hv with
  | 0, hv => injection hv with hv; subst hv; exact h0
  | 1, hv => injection hv with hv; subst hv; exact h1
  | 2, hv => injection hv with hv; subst hv; exact h2
  | 3, hv => injection hv with hv; subst hv; exact h3
  | j + 4, hv => cases hv) Tryz.underlying32 rfl (by kernel_rfl)
set_option maxRecDepth 100000 in
set_option maxHeartbeats 4000000 in
theorem owned_any (B g room : Nat) (l : List (Ent (Nat))) (uv : Array Value) (t : ByteArray) (s h : ByteArray) (p n : Int) (w : World) (hS : IsS 129 147 (TbK.encP) B g room l w) (hl : l.length ≤ 64) (hu : uv.size = 13)
  (HB : Hid (∀ w', Below w.heap.size w w' → Calls Tryz.prog 75 #[.agg uv] w' fun e w'' => e = .returned (.string t) ∧ Below w'.heap.size w' w'')) :
  Calls Tryz.prog 69 #[.pointer (some ⟨g, 0, none⟩), .agg uv, .agg #[.string s, .string h, .int .i64 p, .int .i64 n]] w fun e w' => e = .returned (.tuple #[.int .i64 (plc (idx l t)), .bool (hasO l t s h p n)]) ∧ Below w.heap.size w w' := by
 have HS0 := hid hS
 have HU := hid hu
 clear hS hu
 go_enter Tryz.func69, Tryz.ntmps69
 go_upto_region 1 with (fail)
 generalize hwa : World.alloc (World.alloc w _) _ = v1
 have h1_ : v1.heap[w.heap.size]? = some (.cells uv 52 (0, 0)) ∧ OB v1 (w.heap.size + 1) s h p n ∧ Below w.heap.size w v1 := by
  subst hwa
  exact laid2 w _ _ _ _
 clear hwa
 have X1 := hid h1_.1
 have X2 := hid h1_.2.1
 have HB1 := hid h1_.2.2
 clear h1_
 have HLD : Hid ((loadVar 52 ⟨w.heap.size, 0, none⟩).run Tryz.prog v1 = .ok (.agg uv) v1) := uv_load HU.out X1.out
 go_wp2_with (refine load_as HLD.out (.tmp 4) rfl rfl rfl ?_)
 refine (HB.out _ HB1.out).mono ?_
 rintro e v2 ⟨rfl, hb2⟩
 have X2b := hid (X2.out.below hb2)
 have HB2 := hid (bel HB1.out hb2)
 clear X1 X2 HB1 hb2 HLD
 have HS2 := hid (HS0.out.below HB2.out)
 go_wp2_with fail
 refine (find_any B g room l t _ HS2.out hl).mono ?_
 rintro e v3 ⟨rfl, hb3⟩
 have X2c := hid (X2b.out.below hb3)
 have HB3 := hid (bel HB2.out hb3)
 clear X2b HB2 hb3 HS2
 have HS3 := hid (HS0.out.below HB3.out)
 cases hi : idx l t with
 | none =>
  have HG : Hid (hasO l t s h p n = false) := by show _ = _; unfold hasO; rw [hi]
  rw [show plc none = -1 from rfl]
  have HI := hid hi
  clear hi
  go_wp2_with fail
  go_quiet (fail)
  go_wp2
  go_ret2
  exact ⟨by rw [HG.out, HI.out]; rfl, Base.below_drewN HB3.out _⟩
 | some k =>
  rw [show plc (some k) = (k : Int) from rfl]
  obtain ⟨hk, e1, _⟩ := idx_some hi
  obtain ⟨E, hp⟩ : ∃ E, E = l[k] := ⟨_, rfl⟩
  obtain ⟨b0, hb0⟩ : ∃ x, x = hasO l t s h p n := ⟨_, rfl⟩
  have hb1 : b0 = sameO E.s.data.toList E.h.data.toList E.p E.n s.data.toList h.data.toList p n := by rw [hb0]; unfold hasO; rw [hi]; simp only; rw [List.getElem?_eq_getElem hk, ← hp]
  have HG := hid hb0
  have HSM : Hid (∀ w : World, Calls Tryz.prog 99 #[.agg #[.string E.s, .string E.h, .int .i64 E.p, .int .i64 E.n], .agg #[.string s, .string h, .int .i64 p, .int .i64 n]] w fun e w' => e = .returned (.bool b0) ∧ Below w.heap.size w w') := fun w => by rw [hb1]; exact same_any E.s E.h E.p E.n s h p n w
  have HI := hid hi
  clear hb0 hb1 hi
  obtain ⟨v, hv, hown, hBg⟩ := HS3.out
  obtain ⟨A, c, rfl, hnc, hcm, hcell⟩ := own_cells hown
  obtain ⟨c0, c1⟩ := cells2 hv
  obtain ⟨b, rfl, hbl, hcc⟩ := hcell k hk
  rw [← hp] at hcc
  have HC := hid (six_cells hcc)
  have HLB := hid hbl
  have HLT : Hid (g < v3.heap.size) := HS3.out.lt
  have hki : (k : Int) < (l.length : Int) := by omega
  have hli : (l.length : Int) ≤ 64 := by omega
  clear hcell hcc hp hv hown hbl e1
  go_upto_region 4 with (fail)
  refine wp_region_rel (by kernel_rfl) [is (.int .i64 (k : Int)), is (.bool true), is (.bool true), is (.pointer (some ⟨g, 0, none⟩)), is (.pointer (some ⟨g, 0, none⟩)), is (.pointer (some ⟨g, 1, none⟩)), is (.slice (some ⟨b, 0, none⟩) l.length c), is (.int .i64 (k : Int)), is (.pointer (some ⟨b, k * 6, none⟩)), is (.pointer (some ⟨b, k * 6 + 1, none⟩)), is (.agg #[.string E.s, .string E.h, .int .i64 E.p, .int .i64 E.n]), is (.agg #[.string s, .string h, .int .i64 p, .int .i64 n]), is (.bool b0), is (.bool b0), is (.int .i64 (k : Int)), is (.bool b0)] [[], [], [1], [2], [2, 3], [2, 4], [2, 5], [2], [2, 6, 7], [2, 8], [2, 9], [2], [2, 10, 11], [2, 12], [0], [13]] (by kernel_rfl) ?_ ?_
  ·refine ⟨?_, ?_, ?_, ?_, ?_, ?_, ?_, ?_, ?_, ?_, ?_, ?_, ?_, ?_, ?_, ?_, trivial⟩
   ·intro t wq hbq hh K hK
    clear hh
    simp only [filled, upd, Have, is, any, row, pick, Act.put, List.setIfInBounds_toArray, List.set_cons_zero, List.set_cons_succ, Nat.reduceAdd, Nat.reduceEqDiff, reduceIte] at hK ⊢
    go_simp
    exact hK _ _ (Below.refl _ _) rfl
   ·intro t wq hbq hh K hK
    clear hh
    simp only [filled, upd, Have, is, any, row, pick, Act.put, List.setIfInBounds_toArray, List.set_cons_zero, List.set_cons_succ, Nat.reduceAdd, Nat.reduceEqDiff, reduceIte] at hK ⊢
    go_simp
    exact hK _ _ (Below.refl _ _) rfl
   ·intro t wq hbq hh K hK
    have e1 := hh.1
    simp only [pick] at e1
    replace e1 : t 1 = (.bool true) := e1
    clear hh
    simp only [filled, upd, Have, is, any, row, pick, Act.put, List.setIfInBounds_toArray, List.set_cons_zero, List.set_cons_succ, Nat.reduceAdd, Nat.reduceEqDiff, reduceIte] at hK ⊢
    simp only [e1] at hK ⊢
    go_simp
    exact hK _ _ (Below.refl _ _) rfl
   ·intro t wq hbq hh K hK
    have e2 := hh.1
    simp only [pick] at e2
    replace e2 : t 2 = (.bool true) := e2
    clear hh
    simp only [filled, upd, Have, is, any, row, pick, Act.put, List.setIfInBounds_toArray, List.set_cons_zero, List.set_cons_succ, Nat.reduceAdd, Nat.reduceEqDiff, reduceIte] at hK ⊢
    simp only [e2] at hK ⊢
    go_simp
    exact hK _ _ (Below.refl _ _) rfl
   ·intro t wq hbq hh K hK
    have e2 := hh.1
    simp only [pick] at e2
    replace e2 : t 2 = (.bool true) := e2
    have e3 := hh.2.1
    simp only [pick] at e3
    replace e3 : t 3 = (.pointer (some ⟨g, 0, none⟩)) := e3
    clear hh
    simp only [filled, upd, Have, is, any, row, pick, Act.put, List.setIfInBounds_toArray, List.set_cons_zero, List.set_cons_succ, Nat.reduceAdd, Nat.reduceEqDiff, reduceIte] at hK ⊢
    simp only [e2, e3] at hK ⊢
    go_simp
    exact hK _ _ (Below.refl _ _) rfl
   ·intro t wq hbq hh K hK
    have e2 := hh.1
    simp only [pick] at e2
    replace e2 : t 2 = (.bool true) := e2
    have e4 := hh.2.1
    simp only [pick] at e4
    replace e4 : t 4 = (.pointer (some ⟨g, 0, none⟩)) := e4
    clear hh
    simp only [filled, upd, Have, is, any, row, pick, Act.put, List.setIfInBounds_toArray, List.set_cons_zero, List.set_cons_succ, Nat.reduceAdd, Nat.reduceEqDiff, reduceIte] at hK ⊢
    simp only [e2, e4] at hK ⊢
    go_simp
    exact hK _ _ (Below.refl _ _) rfl
   ·intro t wq hbq hh K hK
    have e2 := hh.1
    simp only [pick] at e2
    replace e2 : t 2 = (.bool true) := e2
    have e5 := hh.2.1
    simp only [pick] at e5
    replace e5 : t 5 = (.pointer (some ⟨g, 1, none⟩)) := e5
    clear hh
    simp only [filled, upd, Have, is, any, row, pick, Act.put, List.setIfInBounds_toArray, List.set_cons_zero, List.set_cons_succ, Nat.reduceAdd, Nat.reduceEqDiff, reduceIte] at hK ⊢
    simp only [e2, e5] at hK ⊢
    have hq := (hbq.cell (p := ⟨g, 1, none⟩) HLT.out).trans c1
    go_simp
    exact hK _ _ (Below.refl _ _) rfl
   ·intro t wq hbq hh K hK
    have e2 := hh.1
    simp only [pick] at e2
    replace e2 : t 2 = (.bool true) := e2
    clear hh
    simp only [filled, upd, Have, is, any, row, pick, Act.put, List.setIfInBounds_toArray, List.set_cons_zero, List.set_cons_succ, Nat.reduceAdd, Nat.reduceEqDiff, reduceIte] at hK ⊢
    simp only [e2] at hK ⊢
    go_simp
    exact hK _ _ (Below.refl _ _) rfl
   ·intro t wq hbq hh K hK
    have e2 := hh.1
    simp only [pick] at e2
    replace e2 : t 2 = (.bool true) := e2
    have e6 := hh.2.1
    simp only [pick] at e6
    replace e6 : t 6 = (.slice (some ⟨b, 0, none⟩) l.length c) := e6
    have e7 := hh.2.2.1
    simp only [pick] at e7
    replace e7 : t 7 = (.int .i64 (k : Int)) := e7
    clear hh
    simp only [filled, upd, Have, is, any, row, pick, Act.put, List.setIfInBounds_toArray, List.set_cons_zero, List.set_cons_succ, Nat.reduceAdd, Nat.reduceEqDiff, reduceIte] at hK ⊢
    simp only [e2, e6, e7] at hK ⊢
    go_simp
    exact hK _ _ (Below.refl _ _) rfl
   ·intro t wq hbq hh K hK
    have e2 := hh.1
    simp only [pick] at e2
    replace e2 : t 2 = (.bool true) := e2
    have e8 := hh.2.1
    simp only [pick] at e8
    replace e8 : t 8 = (.pointer (some ⟨b, k * 6, none⟩)) := e8
    clear hh
    simp only [filled, upd, Have, is, any, row, pick, Act.put, List.setIfInBounds_toArray, List.set_cons_zero, List.set_cons_succ, Nat.reduceAdd, Nat.reduceEqDiff, reduceIte] at hK ⊢
    simp only [e2, e8] at hK ⊢
    go_simp
    exact hK _ _ (Below.refl _ _) rfl
   ·intro t wq hbq hh K hK
    have e2 := hh.1
    simp only [pick] at e2
    replace e2 : t 2 = (.bool true) := e2
    have e9 := hh.2.1
    simp only [pick] at e9
    replace e9 : t 9 = (.pointer (some ⟨b, k * 6 + 1, none⟩)) := e9
    clear hh
    simp only [filled, upd, Have, is, any, row, pick, Act.put, List.setIfInBounds_toArray, List.set_cons_zero, List.set_cons_succ, Nat.reduceAdd, Nat.reduceEqDiff, reduceIte] at hK ⊢
    simp only [e2, e9] at hK ⊢
    have q1 := (hbq.cell (p := ⟨b, k * 6 + 1, none⟩) HLB.out).trans HC.out.2.1
    have q2 := (hbq.cell (p := ⟨b, k * 6 + 2, none⟩) HLB.out).trans HC.out.2.2.1
    have q3 := (hbq.cell (p := ⟨b, k * 6 + 3, none⟩) HLB.out).trans HC.out.2.2.2.1
    have q4 := (hbq.cell (p := ⟨b, k * 6 + 4, none⟩) HLB.out).trans HC.out.2.2.2.2.1
    refine step_load_g (ent_load q1 q2 q3 q4) (.tmp 28) rfl (by go_simp) rfl ?_
    exact hK _ _ (Below.refl _ _) rfl
   ·intro t wq hbq hh K hK
    have e2 := hh.1
    simp only [pick] at e2
    replace e2 : t 2 = (.bool true) := e2
    clear hh
    simp only [filled, upd, Have, is, any, row, pick, Act.put, List.setIfInBounds_toArray, List.set_cons_zero, List.set_cons_succ, Nat.reduceAdd, Nat.reduceEqDiff, reduceIte] at hK ⊢
    simp only [e2] at hK ⊢
    refine step_load_g (ob_load (X2c.out.below hbq)) (.tmp 5) rfl (by go_simp) rfl ?_
    exact hK _ _ (Below.refl _ _) rfl
   ·intro t wq hbq hh K hK
    have e2 := hh.1
    simp only [pick] at e2
    replace e2 : t 2 = (.bool true) := e2
    have e10 := hh.2.1
    simp only [pick] at e10
    replace e10 : t 10 = (.agg #[.string E.s, .string E.h, .int .i64 E.p, .int .i64 E.n]) := e10
    have e11 := hh.2.2.1
    simp only [pick] at e11
    replace e11 : t 11 = (.agg #[.string s, .string h, .int .i64 p, .int .i64 n]) := e11
    clear hh
    simp only [filled, upd, Have, is, any, row, pick, Act.put, List.setIfInBounds_toArray, List.set_cons_zero, List.set_cons_succ, Nat.reduceAdd, Nat.reduceEqDiff, reduceIte] at hK ⊢
    simp only [e2, e10, e11] at hK ⊢
    go_simp
    refine (HSM.out _).mono ?_
    rintro e w9 ⟨rfl, hb9⟩
    exact hK _ _ hb9 rfl
   ·intro t wq hbq hh K hK
    have e2 := hh.1
    simp only [pick] at e2
    replace e2 : t 2 = (.bool true) := e2
    have e12 := hh.2.1
    simp only [pick] at e12
    replace e12 : t 12 = (.bool b0) := e12
    clear hh
    simp only [filled, upd, Have, is, any, row, pick, Act.put, List.setIfInBounds_toArray, List.set_cons_zero, List.set_cons_succ, Nat.reduceAdd, Nat.reduceEqDiff, reduceIte] at hK ⊢
    simp only [e2, e12] at hK ⊢
    go_simp
    exact hK _ _ (Below.refl _ _) rfl
   ·intro t wq hbq hh K hK
    have e0 := hh.1
    simp only [pick] at e0
    replace e0 : t 0 = (.int .i64 (k : Int)) := e0
    clear hh
    simp only [filled, upd, Have, is, any, row, pick, Act.put, List.setIfInBounds_toArray, List.set_cons_zero, List.set_cons_succ, Nat.reduceAdd, Nat.reduceEqDiff, reduceIte] at hK ⊢
    simp only [e0] at hK ⊢
    go_simp
    exact hK _ _ (Below.refl _ _) rfl
   ·intro t wq hbq hh K hK
    have e13 := hh.1
    simp only [pick] at e13
    replace e13 : t 13 = (.bool b0) := e13
    clear hh
    simp only [filled, upd, Have, is, any, row, pick, Act.put, List.setIfInBounds_toArray, List.set_cons_zero, List.set_cons_succ, Nat.reduceAdd, Nat.reduceEqDiff, reduceIte] at hK ⊢
    simp only [e13] at hK ⊢
    go_simp
    exact hK _ _ (Below.refl _ _) rfl
  ·intro t wq hbq hh
   have f14 := have_get hh 14 (by decide)
   simp only [pick] at f14
   replace f14 : t 14 = (.int .i64 (k : Int)) := f14
   have f15 := have_get hh 15 (by decide)
   simp only [pick] at f15
   replace f15 : t 15 = (.bool b0) := f15
   clear hh
   simp only [filled, upd, Have, is, any, row, pick, Act.put, List.setIfInBounds_toArray, List.set_cons_zero, List.set_cons_succ, Nat.reduceAdd, Nat.reduceEqDiff, reduceIte]
   simp only [f14, f15]
   have HB4 := hid (bel HB3.out hbq)
   clear hbq
   go_wp2
   go_ret2
   exact ⟨by rw [← HG.out, HI.out]; rfl, HB4.out⟩
set_option maxRecDepth 100000 in
set_option maxHeartbeats 4000000 in
theorem delete_any (B b c k n1 : Nat) (l : List (Ent (Nat))) (w : World) (hown : w.ownsRow B 147 6 (.slice (some ⟨b, 0, none⟩) (n1 + 1) c) (n1 + 1) (flat (TbK.encP) l)) (hk : k ≤ n1) (hl : n1 ≤ 64) :
  Calls Tryz.prog 74 #[.slice (some ⟨b, 0, none⟩) (n1 + 1) c, .int .i64 (k : Int), .int .i64 ((k : Int) + 1)] w fun e w' => e = .returned (.slice (some ⟨b, 0, none⟩) n1 c) ∧ w'.ownsRow B 147 6 (.slice (some ⟨b, 0, none⟩) n1 c) n1 (flat (TbK.encP) (l.eraseIdx k)) ∧ w.grownBy w' (some b) := by
 obtain ⟨i0, hi0, hz0, hz1, hz2⟩ := info_parts info_e3
 have hln : l.length = n1 + 1 := by have := hown.1; rw [StoG.flat_length] at this; omega
 have HN := hid hln
 have HBB : Hid (B ≤ b) := (hown.lt b rfl).1
 have HBLT : Hid (b < w.heap.size) := (hown.lt b rfl).2
 have hnc : n1 + 1 ≤ c ∧ c ≤ maxLen := by
  rcases hown.2 with ⟨h, _⟩ | ⟨b', cap, cur, e, _, _, h1, h2, _⟩
  ·cases h
  ·injection e with _ _ e3
   subst e3
   exact ⟨h1, h2⟩
 have HCM : Hid (c ≤ maxLen) := hnc.2
 have hc1 : n1 + 1 ≤ c := hnc.1
 obtain ⟨cur, hh, hsz, htk⟩ := own_block hown
 have hcell : ∀ j u, (flat (TbK.encP) l)[j]? = some u → w.cell? ⟨b, j, none⟩ = some u := fun j u hj => by
  rw [cell_of_row w b j cur _ _ hh, ← hj, ← htk, List.getElem?_take, if_pos, Array.getElem?_toList]
  have := (List.getElem?_eq_some_iff.1 hj).1
  rw [StoG.flat_length, hln] at this
  omega
 have HPRE : Hid (w.ownsRow B 147 6 (.slice (some ⟨b, 0, none⟩) k c) k (flat (TbK.encP) (l.take k))) := by
  refine ⟨by rw [StoG.flat_length, List.length_take]; omega, .inr ⟨b, c, cur, rfl, HBB.out, hh, by omega, HCM.out, hsz, ?_⟩⟩
  rw [← StoG.flat_take, ← htk, List.take_take, Nat.min_eq_left (by omega)]
 have h1i : (k : Int) ≤ (n1 : Int) := by omega
 have h2i : (n1 : Int) + 1 ≤ (c : Int) := by omega
 have hkn : ¬ (k : Int) = (k : Int) + 1 := by omega
 by_cases hcc : c = k + 1
 ·have HNEW : Hid (∀ wq, Below w.heap.size w wq → ∀ j u, (flat (TbK.encP) (l.drop (k + 1)))[j]? = some u → wq.cell? (Addr.add ⟨b, 0, none⟩ j) = some u) := fun wq hb j u hj => by
   rw [List.drop_eq_nil_of_le (by omega)] at hj
   simp [StoG.flat_nil] at hj
  clear hcell hh hsz htk hown hln hnc
  go_enter Tryz.func74, Tryz.ntmps74
  subst hcc
  obtain rfl : n1 = k := by omega
  have hkk : (n1 : Int) ≤ (n1 : Int) + 1 := by omega
  go_wp2_with fail
  generalize ((n1 : Int) == (n1 : Int) + 1) = dd
  refine wp_region_rel_tail (by kernel_rfl) 6 [is (.slice (some ⟨b, 0, none⟩) (n1 + 1) (n1 + 1)), is (.int .i64 (n1 : Int)), is (.slice (some ⟨b, 0, none⟩) n1 (n1 + 1)), is (.slice (some ⟨b, 0, none⟩) (n1 + 1) (n1 + 1)), is (.int .i64 ((n1 : Int) + 1)), is (.slice (some ⟨b, 0, none⟩) 0 0)] [[], [], [0, 1], [], [], [3, 4], [0, 1, 2, 3, 4, 5]] (by kernel_rfl) ?_ ?_
  ·refine ⟨?_, ?_, ?_, ?_, ?_, ?_, trivial⟩
   ·intro t wq hbq hh K hK
    clear hh
    simp only [filled, filledN, upd, Have, is, any, row, pick, Act.put, List.setIfInBounds_toArray, List.set_cons_zero, List.set_cons_succ, Nat.reduceAdd, Nat.reduceEqDiff, reduceIte] at hK ⊢
    go_simp
    exact hK _ _ (Below.refl _ _) rfl
   ·intro t wq hbq hh K hK
    clear hh
    simp only [filled, filledN, upd, Have, is, any, row, pick, Act.put, List.setIfInBounds_toArray, List.set_cons_zero, List.set_cons_succ, Nat.reduceAdd, Nat.reduceEqDiff, reduceIte] at hK ⊢
    go_simp
    exact hK _ _ (Below.refl _ _) rfl
   ·intro t wq hbq hh K hK
    have e0 := hh.1
    simp only [pick] at e0
    replace e0 : t 0 = (.slice (some ⟨b, 0, none⟩) (n1 + 1) (n1 + 1)) := e0
    have e1 := hh.2.1
    simp only [pick] at e1
    replace e1 : t 1 = (.int .i64 (n1 : Int)) := e1
    clear hh
    simp only [filled, filledN, upd, Have, is, any, row, pick, Act.put, List.setIfInBounds_toArray, List.set_cons_zero, List.set_cons_succ, Nat.reduceAdd, Nat.reduceEqDiff, reduceIte] at hK ⊢
    simp only [e0, e1] at hK ⊢
    go_simp
    exact hK _ _ (Below.refl _ _) rfl
   ·intro t wq hbq hh K hK
    clear hh
    simp only [filled, filledN, upd, Have, is, any, row, pick, Act.put, List.setIfInBounds_toArray, List.set_cons_zero, List.set_cons_succ, Nat.reduceAdd, Nat.reduceEqDiff, reduceIte] at hK ⊢
    go_simp
    exact hK _ _ (Below.refl _ _) rfl
   ·intro t wq hbq hh K hK
    clear hh
    simp only [filled, filledN, upd, Have, is, any, row, pick, Act.put, List.setIfInBounds_toArray, List.set_cons_zero, List.set_cons_succ, Nat.reduceAdd, Nat.reduceEqDiff, reduceIte] at hK ⊢
    go_simp
    exact hK _ _ (Below.refl _ _) rfl
   ·intro t wq hbq hh K hK
    have e3 := hh.1
    simp only [pick] at e3
    replace e3 : t 3 = (.slice (some ⟨b, 0, none⟩) (n1 + 1) (n1 + 1)) := e3
    have e4 := hh.2.1
    simp only [pick] at e4
    replace e4 : t 4 = (.int .i64 ((n1 : Int) + 1)) := e4
    clear hh
    simp only [filled, filledN, upd, Have, is, any, row, pick, Act.put, List.setIfInBounds_toArray, List.set_cons_zero, List.set_cons_succ, Nat.reduceAdd, Nat.reduceEqDiff, reduceIte] at hK ⊢
    simp only [e3, e4] at hK ⊢
    go_simp
    exact hK _ _ (Below.refl _ _) rfl
  ·intro t wq hbq hh
   have f2 := have_get hh 2 (by decide)
   simp only [pick] at f2
   replace f2 : t 2 = (.slice (some ⟨b, 0, none⟩) n1 (n1 + 1)) := f2
   have f5 := have_get hh 5 (by decide)
   simp only [pick] at f5
   replace f5 : t 5 = (.slice (some ⟨b, 0, none⟩) 0 0) := f5
   clear hh
   simp only [filled, filledN, upd, Have, is, any, row, pick, Act.put, List.setIfInBounds_toArray, List.set_cons_zero, List.set_cons_succ, Nat.reduceAdd, Nat.reduceEqDiff, reduceIte]
   simp only [f2, f5]
   show wpList _ _ _ [_, _] _ _
   have hpre : wq.ownsRow B 147 6 (.slice (some ⟨b, 0, none⟩) n1 (n1 + 1)) n1 (flat (TbK.encP) (l.take n1)) := owns_below HPRE.out hbq
   have hnew : ∀ j u, (flat (TbK.encP) (l.drop (n1 + 1)))[j]? = some u → wq.cell? (Addr.add ⟨b, 0, none⟩ j) = some u := fun j u hj => HNEW.out wq hbq j u hj
   obtain ⟨w4, hrun, hown4, hgrow⟩ := run_append_fits (P := Tryz.prog) wq B 127 127 147 i0 6 Tryz.underlying127 hi0 hz1 b n1 (n1 + 1) (flat (TbK.encP) (l.take n1)) hpre ⟨b, 0, none⟩ 0 0 (flat (TbK.encP) (l.drop (n1 + 1))) (by rw [StoG.flat_length, List.length_drop, HN.out]; omega) hnew (StoG.flat_one _ (fun _ => rfl) _) (by omega)
   have hBq : b < wq.heap.size := Nat.lt_of_lt_of_le HBLT.out hbq.size
   rw [show n1 + (0) = n1 by omega] at hrun hown4
   have hfl : flat (TbK.encP) (l.take n1) ++ flat (TbK.encP) (l.drop (n1 + 1)) = flat (TbK.encP) (l.eraseIdx n1) := by rw [← StoG.flat_append, List.eraseIdx_eq_take_drop_succ]
   rw [hfl] at hown4
   obtain ⟨cur4, hh4, hsz4, htk4⟩ := own_block hown4
   have hcl : ∀ ty, (Builtin.clear_ #[127] ty #[.slice (some ⟨b, n1 * 6, none⟩) 1 1]).run Tryz.prog w4 = .ok (.tuple #[]) (w4.setRow b (cur4.toList.take (n1 * 6) ++ ([.string ⟨#[]⟩, .string ⟨#[]⟩, .string ⟨#[]⟩, .int .i64 0, .int .i64 0, .pointer none] : List Value) ++ cur4.toList.drop (n1 * 6 + 6)).toArray) :=
    fun ty => run_clear_six w4 127 147 ty [.string ⟨#[]⟩, .string ⟨#[]⟩, .string ⟨#[]⟩, .int .i64 0, .int .i64 0, .pointer none] rfl Tryz.underlying127 (zero_of_info info_e).1 rfl (by intro u hu; simp at hu; rcases hu with rfl | rfl | rfl | rfl | rfl | rfl <;> rfl) b (n1 * 6) _ cur4 147 hh4 (by rw [hsz4]; omega)
   have HX : Hid (w.grownBy (w4.setRow b (cur4.toList.take (n1 * 6) ++ ([.string ⟨#[]⟩, .string ⟨#[]⟩, .string ⟨#[]⟩, .int .i64 0, .int .i64 0, .pointer none] : List Value) ++ cur4.toList.drop (n1 * 6 + 6)).toArray) (some b) ∧ (w4.setRow b (cur4.toList.take (n1 * 6) ++ ([.string ⟨#[]⟩, .string ⟨#[]⟩, .string ⟨#[]⟩, .int .i64 0, .int .i64 0, .pointer none] : List Value) ++ cur4.toList.drop (n1 * 6 + 6)).toArray).ownsRow B 147 6 (.slice (some ⟨b, 0, none⟩) n1 (n1 + 1)) n1 (flat (TbK.encP) (l.eraseIdx n1))) := by
    have hgw : w.grownBy wq (some b) := ⟨hbq.os, hbq.tape, hbq.output, hbq.size, fun j hj _ => hbq.block j hj⟩
    refine ⟨⟨hgrow.os.trans hgw.os, hgrow.tape.trans hgw.tape, hgrow.output.trans hgw.output, by have := Nat.le_trans hgw.size hgrow.size; simpa using this, fun j hj hne => (setRow_other w4 b j _ (fun e => hne (by rw [e]))).trans ((hgrow.block j (Nat.lt_of_lt_of_le hj hgw.size) hne).trans (hgw.block j hj hne))⟩, ?_⟩
    refine ⟨hown4.1, .inr ⟨b, n1 + 1, _, rfl, HBB.out, setRow_heap w4 b cur4 _ _ _ hh4, by omega, HCM.out, ?_, ?_⟩⟩
    ·simp only [List.size_toArray, List.length_append, List.length_take, List.length_drop, Array.length_toList, List.length_cons, List.length_nil]; omega
    ·rw [List.append_assoc, List.take_append_of_le_length (by rw [List.length_take, Array.length_toList, hsz4]; omega), List.take_take, Nat.min_self, htk4]
   obtain ⟨C5, hC5⟩ : ∃ C5 : Array Value, C5 = (cur4.toList.take (n1 * 6) ++ ([.string ⟨#[]⟩, .string ⟨#[]⟩, .string ⟨#[]⟩, .int .i64 0, .int .i64 0, .pointer none] : List Value) ++ cur4.toList.drop (n1 * 6 + 6)).toArray := ⟨_, rfl⟩
   rw [← hC5] at hcl HX
   clear hC5 hpre hnew hown4 hgrow hh4 hsz4 htk4 hfl
   refine wpList_plain rfl fun K' hK' => ?_
   unfold Oper.wp
   simp [execOp, resolve, invoke, builtin, Act.eval, hrun, Result.andThen]
   refine hK' _ _ ?_
   go_wp2
   go_ret
   exact ⟨rfl, HX.out.2, HX.out.1⟩
 ·have HNEW : Hid (∀ wq, Below w.heap.size w wq → ∀ j u, (flat (TbK.encP) (l.drop (k + 1)))[j]? = some u → wq.cell? (Addr.add ⟨b, (k + 1) * 6, none⟩ j) = some u) := fun wq hb j u hj => by
   have ha : Addr.add ⟨b, (k + 1) * 6, none⟩ j = ⟨b, (k + 1) * 6 + j, none⟩ := by unfold Addr.add; split <;> simp_all
   rw [ha, hb.cell (p := ⟨b, (k + 1) * 6 + j, none⟩) HBLT.out]
   refine hcell _ _ ?_
   rw [← StoG.flat_drop, List.getElem?_drop] at hj
   exact hj
  have hcc2 : ¬ k + 1 = c := fun e => hcc e.symm
  have hcc3 : k + 1 < c := by omega
  have hkc : k ≤ c := by omega
  clear hcell hh hsz htk hown hln hnc
  go_enter Tryz.func74, Tryz.ntmps74
  go_wp2_with fail
  generalize ((k : Int) == (k : Int) + 1) = dd
  refine wp_region_rel_tail (by kernel_rfl) 6 [is (.slice (some ⟨b, 0, none⟩) (n1 + 1) c), is (.int .i64 (k : Int)), is (.slice (some ⟨b, 0, none⟩) k c), is (.slice (some ⟨b, 0, none⟩) (n1 + 1) c), is (.int .i64 ((k : Int) + 1)), is (.slice (some ⟨b, (k + 1) * 6, none⟩) (n1 - k) (c - (k + 1)))] [[], [], [0, 1], [], [], [3, 4], [0, 1, 2, 3, 4, 5]] (by kernel_rfl) ?_ ?_
  ·refine ⟨?_, ?_, ?_, ?_, ?_, ?_, trivial⟩
   ·intro t wq hbq hh K hK
    clear hh
    simp only [filled, filledN, upd, Have, is, any, row, pick, Act.put, List.setIfInBounds_toArray, List.set_cons_zero, List.set_cons_succ, Nat.reduceAdd, Nat.reduceEqDiff, reduceIte] at hK ⊢
    go_simp
    exact hK _ _ (Below.refl _ _) rfl
   ·intro t wq hbq hh K hK
    clear hh
    simp only [filled, filledN, upd, Have, is, any, row, pick, Act.put, List.setIfInBounds_toArray, List.set_cons_zero, List.set_cons_succ, Nat.reduceAdd, Nat.reduceEqDiff, reduceIte] at hK ⊢
    go_simp
    exact hK _ _ (Below.refl _ _) rfl
   ·intro t wq hbq hh K hK
    have e0 := hh.1
    simp only [pick] at e0
    replace e0 : t 0 = (.slice (some ⟨b, 0, none⟩) (n1 + 1) c) := e0
    have e1 := hh.2.1
    simp only [pick] at e1
    replace e1 : t 1 = (.int .i64 (k : Int)) := e1
    clear hh
    simp only [filled, filledN, upd, Have, is, any, row, pick, Act.put, List.setIfInBounds_toArray, List.set_cons_zero, List.set_cons_succ, Nat.reduceAdd, Nat.reduceEqDiff, reduceIte] at hK ⊢
    simp only [e0, e1] at hK ⊢
    go_simp
    exact hK _ _ (Below.refl _ _) rfl
   ·intro t wq hbq hh K hK
    clear hh
    simp only [filled, filledN, upd, Have, is, any, row, pick, Act.put, List.setIfInBounds_toArray, List.set_cons_zero, List.set_cons_succ, Nat.reduceAdd, Nat.reduceEqDiff, reduceIte] at hK ⊢
    go_simp
    exact hK _ _ (Below.refl _ _) rfl
   ·intro t wq hbq hh K hK
    clear hh
    simp only [filled, filledN, upd, Have, is, any, row, pick, Act.put, List.setIfInBounds_toArray, List.set_cons_zero, List.set_cons_succ, Nat.reduceAdd, Nat.reduceEqDiff, reduceIte] at hK ⊢
    go_simp
    exact hK _ _ (Below.refl _ _) rfl
   ·intro t wq hbq hh K hK
    have e3 := hh.1
    simp only [pick] at e3
    replace e3 : t 3 = (.slice (some ⟨b, 0, none⟩) (n1 + 1) c) := e3
    have e4 := hh.2.1
    simp only [pick] at e4
    replace e4 : t 4 = (.int .i64 ((k : Int) + 1)) := e4
    clear hh
    simp only [filled, filledN, upd, Have, is, any, row, pick, Act.put, List.setIfInBounds_toArray, List.set_cons_zero, List.set_cons_succ, Nat.reduceAdd, Nat.reduceEqDiff, reduceIte] at hK ⊢
    simp only [e3, e4] at hK ⊢
    go_simp
    exact hK _ _ (Below.refl _ _) rfl
  ·intro t wq hbq hh
   have f2 := have_get hh 2 (by decide)
   simp only [pick] at f2
   replace f2 : t 2 = (.slice (some ⟨b, 0, none⟩) k c) := f2
   have f5 := have_get hh 5 (by decide)
   simp only [pick] at f5
   replace f5 : t 5 = (.slice (some ⟨b, (k + 1) * 6, none⟩) (n1 - k) (c - (k + 1))) := f5
   clear hh
   simp only [filled, filledN, upd, Have, is, any, row, pick, Act.put, List.setIfInBounds_toArray, List.set_cons_zero, List.set_cons_succ, Nat.reduceAdd, Nat.reduceEqDiff, reduceIte]
   simp only [f2, f5]
   show wpList _ _ _ [_, _] _ _
   have hpre : wq.ownsRow B 147 6 (.slice (some ⟨b, 0, none⟩) k c) k (flat (TbK.encP) (l.take k)) := owns_below HPRE.out hbq
   have hnew : ∀ j u, (flat (TbK.encP) (l.drop (k + 1)))[j]? = some u → wq.cell? (Addr.add ⟨b, (k + 1) * 6, none⟩ j) = some u := fun j u hj => HNEW.out wq hbq j u hj
   obtain ⟨w4, hrun, hown4, hgrow⟩ := run_append_fits (P := Tryz.prog) wq B 127 127 147 i0 6 Tryz.underlying127 hi0 hz1 b k c (flat (TbK.encP) (l.take k)) hpre ⟨b, (k + 1) * 6, none⟩ (n1 - k) (c - (k + 1)) (flat (TbK.encP) (l.drop (k + 1))) (by rw [StoG.flat_length, List.length_drop, HN.out]; omega) hnew (StoG.flat_one _ (fun _ => rfl) _) (by omega)
   have hBq : b < wq.heap.size := Nat.lt_of_lt_of_le HBLT.out hbq.size
   rw [show k + (n1 - k) = n1 by omega] at hrun hown4
   have hfl : flat (TbK.encP) (l.take k) ++ flat (TbK.encP) (l.drop (k + 1)) = flat (TbK.encP) (l.eraseIdx k) := by rw [← StoG.flat_append, List.eraseIdx_eq_take_drop_succ]
   rw [hfl] at hown4
   obtain ⟨cur4, hh4, hsz4, htk4⟩ := own_block hown4
   have hcl : ∀ ty, (Builtin.clear_ #[127] ty #[.slice (some ⟨b, n1 * 6, none⟩) 1 (c - n1)]).run Tryz.prog w4 = .ok (.tuple #[]) (w4.setRow b (cur4.toList.take (n1 * 6) ++ ([.string ⟨#[]⟩, .string ⟨#[]⟩, .string ⟨#[]⟩, .int .i64 0, .int .i64 0, .pointer none] : List Value) ++ cur4.toList.drop (n1 * 6 + 6)).toArray) :=
    fun ty => run_clear_six w4 127 147 ty [.string ⟨#[]⟩, .string ⟨#[]⟩, .string ⟨#[]⟩, .int .i64 0, .int .i64 0, .pointer none] rfl Tryz.underlying127 (zero_of_info info_e).1 rfl (by intro u hu; simp at hu; rcases hu with rfl | rfl | rfl | rfl | rfl | rfl <;> rfl) b (n1 * 6) _ cur4 147 hh4 (by rw [hsz4]; omega)
   have HX : Hid (w.grownBy (w4.setRow b (cur4.toList.take (n1 * 6) ++ ([.string ⟨#[]⟩, .string ⟨#[]⟩, .string ⟨#[]⟩, .int .i64 0, .int .i64 0, .pointer none] : List Value) ++ cur4.toList.drop (n1 * 6 + 6)).toArray) (some b) ∧ (w4.setRow b (cur4.toList.take (n1 * 6) ++ ([.string ⟨#[]⟩, .string ⟨#[]⟩, .string ⟨#[]⟩, .int .i64 0, .int .i64 0, .pointer none] : List Value) ++ cur4.toList.drop (n1 * 6 + 6)).toArray).ownsRow B 147 6 (.slice (some ⟨b, 0, none⟩) n1 c) n1 (flat (TbK.encP) (l.eraseIdx k))) := by
    have hgw : w.grownBy wq (some b) := ⟨hbq.os, hbq.tape, hbq.output, hbq.size, fun j hj _ => hbq.block j hj⟩
    refine ⟨⟨hgrow.os.trans hgw.os, hgrow.tape.trans hgw.tape, hgrow.output.trans hgw.output, by have := Nat.le_trans hgw.size hgrow.size; simpa using this, fun j hj hne => (setRow_other w4 b j _ (fun e => hne (by rw [e]))).trans ((hgrow.block j (Nat.lt_of_lt_of_le hj hgw.size) hne).trans (hgw.block j hj hne))⟩, ?_⟩
    refine ⟨hown4.1, .inr ⟨b, c, _, rfl, HBB.out, setRow_heap w4 b cur4 _ _ _ hh4, by omega, HCM.out, ?_, ?_⟩⟩
    ·simp only [List.size_toArray, List.length_append, List.length_take, List.length_drop, Array.length_toList, List.length_cons, List.length_nil]; omega
    ·rw [List.append_assoc, List.take_append_of_le_length (by rw [List.length_take, Array.length_toList, hsz4]; omega), List.take_take, Nat.min_self, htk4]
   obtain ⟨C5, hC5⟩ : ∃ C5 : Array Value, C5 = (cur4.toList.take (n1 * 6) ++ ([.string ⟨#[]⟩, .string ⟨#[]⟩, .string ⟨#[]⟩, .int .i64 0, .int .i64 0, .pointer none] : List Value) ++ cur4.toList.drop (n1 * 6 + 6)).toArray := ⟨_, rfl⟩
   rw [← hC5] at hcl HX
   clear hC5 hpre hnew hown4 hgrow hh4 hsz4 htk4 hfl
   refine wpList_plain rfl fun K' hK' => ?_
   unfold Oper.wp
   simp [execOp, resolve, invoke, builtin, Act.eval, hrun, Result.andThen]
   refine hK' _ _ ?_
   go_wp2
   go_ret
   exact ⟨rfl, HX.out.2, HX.out.1⟩
theorem rev_no (B g room : Nat) (l : List (Ent (Nat))) (uv : Array Value) (t : ByteArray) (s h : ByteArray) (p n : Int) (w : World) (hS : IsS 129 147 (TbK.encP) B g room l w) (hl : l.length ≤ 64) (hu : uv.size = 13) (hh : hasO l t s h p n = false)
  (HBR : Hid (∀ w', Below w.heap.size w w' → Calls Tryz.prog 75 #[.agg uv] w' fun e w'' => e = .returned (.string t) ∧ Below w'.heap.size w' w'')) :
  Calls Tryz.prog 46 #[.pointer (some ⟨g, 0, none⟩), .agg uv, .agg #[.string s, .string h, .int .i64 p, .int .i64 n]] w fun e w' => e = .returned (.bool false) ∧ Below w.heap.size w w' := by
 have HS0 := hid hS
 have HU := hid hu
 have HH := hid hh
 clear hS hu hh
 go_enter Tryz.func46, Tryz.ntmps46
 go_upto_region 1 with (fail)
 generalize hwa : World.alloc (World.alloc w _) _ = v1
 have h1_ : v1.heap[w.heap.size]? = some (.cells uv 52 (0, 0)) ∧ OB v1 (w.heap.size + 1) s h p n ∧ Below w.heap.size w v1 := by
  subst hwa
  exact laid2 w _ _ _ _
 clear hwa
 have HLD : Hid ((loadVar 52 ⟨w.heap.size, 0, none⟩).run Tryz.prog v1 = .ok (.agg uv) v1) := uv_load HU.out h1_.1
 have HLE : Hid ((loadVar 32 ⟨w.heap.size + 1, 0, none⟩).run Tryz.prog v1 = .ok (.agg #[.string s, .string h, .int .i64 p, .int .i64 n]) v1) := ob_load h1_.2.1
 have HB1 := hid h1_.2.2
 clear h1_
 go_wp2_with (first | refine load_as HLD.out (.tmp 4) rfl rfl rfl ?_ | refine load_as HLE.out (.tmp 5) rfl rfl rfl ?_)
 refine (owned_any B g room l uv t s h p n _ (HS0.out.below HB1.out) hl HU.out (hid fun w' hb => HBR.out w' (bel HB1.out hb))).mono ?_
 rw [HH.out]
 rintro e v2 ⟨rfl, hb2⟩
 have HB2 := hid (bel HB1.out hb2)
 clear HB1 hb2 HLD HLE
 generalize plc (idx l t) = zz
 go_wp2
 go_ret
 exact ⟨rfl, HB2.out⟩
set_option maxHeartbeats 1000000 in
theorem rev_yes (B g room : Nat) (l : List (Ent (Nat))) (uv : Array Value) (t : ByteArray) (s h : ByteArray) (p n : Int) (w : World) (hS : IsS 129 147 (TbK.encP) B g room l w) (hl : l.length ≤ 64) (hu : uv.size = 13) (k : Nat) (hk : k < l.length) (hi : idx l t = some k) (hh : hasO l t s h p n = true)
  (HBR : Hid (∀ w', Below w.heap.size w w' → Calls Tryz.prog 75 #[.agg uv] w' fun e w'' => e = .returned (.string t) ∧ Below w'.heap.size w' w'')) :
  Calls Tryz.prog 46 #[.pointer (some ⟨g, 0, none⟩), .agg uv, .agg #[.string s, .string h, .int .i64 p, .int .i64 n]] w fun e w' => e = .returned (.bool true) ∧ IsS 129 147 (TbK.encP) B g room (l.eraseIdx k) w' ∧ Below B w w' ∧ Kp 129 147 w w' := by
 have HS0 := hid hS
 have HU := hid hu
 have HH := hid hh
 have HI := hid hi
 have hBw : B ≤ w.heap.size := by obtain ⟨_, _, _, h3⟩ := hS; exact Nat.le_trans h3 (Nat.le_of_lt HS0.out.lt)
 obtain ⟨n1, hn1⟩ : ∃ n1, l.length = n1 + 1 := ⟨l.length - 1, by omega⟩
 have HN1 := hid hn1
 have hkn : k ≤ n1 := by omega
 have hn64 : n1 ≤ 64 := by omega
 clear hS hu hh hi hn1
 go_enter Tryz.func46, Tryz.ntmps46
 go_upto_region 1 with (fail)
 generalize hwa : World.alloc (World.alloc w _) _ = v1
 have h1_ : v1.heap[w.heap.size]? = some (.cells uv 52 (0, 0)) ∧ OB v1 (w.heap.size + 1) s h p n ∧ Below w.heap.size w v1 := by
  subst hwa
  exact laid2 w _ _ _ _
 clear hwa
 have HLD : Hid ((loadVar 52 ⟨w.heap.size, 0, none⟩).run Tryz.prog v1 = .ok (.agg uv) v1) := uv_load HU.out h1_.1
 have HLE : Hid ((loadVar 32 ⟨w.heap.size + 1, 0, none⟩).run Tryz.prog v1 = .ok (.agg #[.string s, .string h, .int .i64 p, .int .i64 n]) v1) := ob_load h1_.2.1
 have HB1 := hid h1_.2.2
 clear h1_
 go_wp2_with (first | refine load_as HLD.out (.tmp 4) rfl rfl rfl ?_ | refine load_as HLE.out (.tmp 5) rfl rfl rfl ?_)
 refine (owned_any B g room l uv t s h p n _ (HS0.out.below HB1.out) hl HU.out (hid fun w' hb => HBR.out w' (bel HB1.out hb))).mono ?_
 rw [HH.out, HI.out]
 rintro e v2 ⟨rfl, hb2⟩
 rw [show plc (some k) = (k : Int) from rfl]
 have HB2 := hid (bel HB1.out hb2)
 clear HB1 hb2 HLD HLE
 have HS2 := hid (HS0.out.below HB2.out)
 obtain ⟨v, hv, hown, hBg⟩ := HS2.out
 have hglt := HS2.out.lt
 obtain ⟨A, c, rfl, hnc, hcm, hcell⟩ := own_cells hown
 obtain ⟨b, rfl, hbl, _⟩ := hcell k hk
 rw [HN1.out] at hv hown
 obtain ⟨c0, c1⟩ := cells2 hv
 have HV := hid hv
 have HO := hid hown
 clear hcell hv hown
 have hki : (k : Int) ≤ 64 := by omega
 go_wp2_with fail
 refine (delete_any B b c k n1 l _ HO.out hkn hn64).mono ?_
 rintro e w3 ⟨rfl, hown3, hgrow⟩
 have hv3 : w3.heap[g]? = some (.cells #[.int .i64 (room : Int), .slice (some ⟨b, 0, none⟩) (n1 + 1) c] 129 (0, 0)) := (hgrow.block g hglt (fun e => own_ne (by decide) HV.out HO.out (by rw [e]; rfl))).trans HV.out
 have hb3 : Below B w w3 := (HB2.out.mono hBw).grown hgrow (Nat.le_trans hBw HB2.out.size) (fun j hj => (HO.out.lt j (by rw [← hj]; rfl)).1)
 have hk3 : Kp 129 147 w w3 := (Kp.below HB2.out).trans (Kp.grown HO.out hgrow)
 have hv4 := heap_setCell_same w3 g 1 _ _ (.slice (some ⟨b, 0, none⟩) n1 c) hv3
 have hown4 := own_set (g := g) (i := 1) (x := .slice (some ⟨b, 0, none⟩) n1 c) hown3 (own_ne (by decide) hv3 hown3)
 have HT4 : Hid (IsS 129 147 (TbK.encP) B g room (l.eraseIdx k) (w3.setCell ⟨g, 1, none⟩ (.slice (some ⟨b, 0, none⟩) n1 c))) := by
  refine ⟨_, by simpa using hv4, ?_, hBg⟩
  rw [show (l.eraseIdx k).length = n1 by rw [List.length_eraseIdx, if_pos hk, HN1.out]; rfl]
  exact hown4
 have HB4 : Hid (Below B w (w3.setCell ⟨g, 1, none⟩ (.slice (some ⟨b, 0, none⟩) n1 c))) := hb3.setCell (p := ⟨g, 1, none⟩) hBg _
 have HK4 : Hid (Kp 129 147 w (w3.setCell ⟨g, 1, none⟩ (.slice (some ⟨b, 0, none⟩) n1 c))) := hk3.trans (Kp.set hv3 (.inl rfl))
 obtain ⟨k0, k1⟩ := cells2 hv3
 obtain ⟨m0, m1⟩ := thaw2 hv3
 clear hown3 hgrow hv3 hb3 hk3 hv4 hown4 c0 c1
 go_wp2
 go_ret
 exact ⟨rfl, HT4.out, HB4.out, HK4.out⟩
theorem info_s : (Tryz.prog.info? 9).map (fun i => (i.zero, i.size, i.bytes)) = some (some (.string ⟨#[]⟩), 1, 16) := by kernel_rfl
def us (l : List (Ent (Nat))) : List Value := l.map fun e => .string e.url
theorem us_take (l : List (Ent (Nat))) (k : Nat) (h : k < l.length) : us (l.take (k + 1)) = us (l.take k) ++ [.string l[k].url] := by
 rw [List.take_succ_eq_append_getElem h]
 unfold us
 rw [List.map_append]
 rfl
set_option maxHeartbeats 1000000 in
set_option maxRecDepth 100000 in
theorem urls_any (B g room : Nat) (l : List (Ent (Nat))) (w : World) (hT : IsS 129 147 (TbK.encP) B g room l w) (hl : l.length ≤ 64) :
  Calls Tryz.prog 48 #[.pointer (some ⟨g, 0, none⟩)] w fun e w' => ∃ v, e = .returned v ∧ w'.ownsRow w.heap.size 9 1 v l.length (us l) ∧ Below w.heap.size w w' := by
 have hlt := hT.lt
 obtain ⟨i0, hi, hz0, hz1, hz2⟩ := info_parts info_s
 obtain ⟨v, hv, hown, hBg⟩ := hT
 obtain ⟨A, c, rfl, hnc, hcm, hcell⟩ := own_cells hown
 obtain ⟨c0, c1⟩ := cells2 hv
 have HC := hid hcell
 have hlli : (l.length : Int) ≤ 64 := by omega
 clear hcell hv hown
 go_enter Tryz.func48, Tryz.ntmps48
 go_wp2
 go_loopw [3, 13] (fun vr vk wr => ∃ k : Nat, k ≤ l.length ∧ vk = .int .i64 (k : Int) ∧ Hid (wr.ownsRow w.heap.size 9 1 vr k (us (l.take k))) ∧ Below w.heap.size w wr) (fun _ vk _ => l.length - (intOf vk).toNat)
 case atStart => exact ⟨0, by omega, rfl, World.ownsRow_nil _ _ _ _, Below.refl _ _⟩
 case round =>
  obtain ⟨k, hk, rfl, HO, hbel⟩ := hrel
  by_cases hlk : k < l.length
  ·obtain ⟨b, rfl, hbl, hcc⟩ := HC.out k hlk
   obtain ⟨E, hp⟩ : ∃ E, E = l[k] := ⟨_, rfl⟩
   rw [← hp] at hcc
   obtain ⟨k0, k1, k2, k3, k4, k5⟩ := six_cells (w := wr) fun j' v h1 h2 => (hbel.cell (p := ⟨b, k * 6 + j', none⟩) hbl).trans (hcc j' v h1 h2)
   replace k5 : wr.cell? ⟨b, k * 6 + 5, none⟩ = some (.pointer (some ⟨E.x, 0, none⟩)) := k5
   have HP := hid hp
   clear hp hcc
   have HO2 : Hid ((wr.alloc (.cells #[.string E.url, .string E.s, .string E.h, .int .i64 E.p, .int .i64 E.n, .pointer (some ⟨E.x, 0, none⟩)] 147)).ownsRow w.heap.size 9 1 _ k (us (l.take k))) := hid (HO.out.alloc _)
   have hbel2 : Below w.heap.size w (wr.alloc (.cells #[.string E.url, .string E.s, .string E.h, .int .i64 E.p, .int .i64 E.n, .pointer (some ⟨E.x, 0, none⟩)] 147)) := hbel.alloc hbel.size _
   go_wp2_with (at_builtin; refine wpList_app rfl _ _ 50 rfl w.heap.size 9 i0 (.string ⟨#[]⟩) 16 Tryz.underlying50 hi hz0 hz1 hz2 rfl _ k _ rfl HO2.out hbel2 hbel2.size [.string E.url] 1 rfl (by rw [World.size_alloc]; rfl) (by intro u hu; simp at hu; subst hu; rfl) (by unfold maxLen; omega) (by omega) ?_)
   intro v' w' hown' hbel'
   have HO3 : Hid (w'.ownsRow w.heap.size 9 1 v' (k + 1) (us (l.take (k + 1)))) := by
    show World.ownsRow _ _ _ _ _ _ _
    rw [us_take l k hlk, ← HP.out]
    exact hown'
   clear hown' HO2 hbel2 HO hbel
   go_wp2
   go_roundw
   case rel => exact ⟨k + 1, by omega, by go_num, HO3.out, hbel'⟩
   case measure => simp [intOf]; omega
  ·obtain rfl : k = l.length := by omega
   rw [List.take_length] at HO
   go_wp2
   go_ret
   exact ⟨_, rfl, HO.out, hbel⟩
end Go.Proofs.YtegpfgccaminkaaGreatDoor.StoD
namespace Go.Proofs.YtegpfgccaminkaaGreatDoor.BlobA
open Go.RowKit Base Base2 Base3 UtfL
theorem clone_any (A : Option Addr) (n cap : Nat) (L : List UInt8) (w : World) (h : Rds w A n (bcells L)) (hm : n ≤ 1073741824) :
  Calls Tryz.prog 61 #[.slice A n cap] w fun e w' => ∃ v, e = .returned v ∧ w'.ownsRow w.heap.size 5 1 v n (bcells L) ∧ Below w.heap.size w w' := by
 have hl : L.length = n := by rw [← length_bcells]; exact h.1
 have HH := hid h
 clear h
 obtain ⟨i0, hi, hz0, hz1, hz2⟩ := info_parts info_u8
 have hnil := fun (W : World) => Lib.run_eql_slice_nil (P := Tryz.prog) W 39 5 A n cap 0 0 Tryz.underlying39
 cases A with
 | none =>
  have h0 : n = 0 := by
   rcases Nat.eq_zero_or_pos n with h0 | h0
   ·exact h0
   ·obtain ⟨_, _, e, _⟩ := HH.out.spot h0
    cases e
  subst h0
  obtain rfl : L = [] := List.eq_nil_of_length_eq_zero hl
  go_enter Tryz.func61, Tryz.ntmps61
  go_wp2
  go_ret
  exact ⟨_, rfl, World.ownsRow_nil _ _ _ _, Below.refl _ _⟩
 | some ad =>
  have hownA : (w.alloc (.cells #[] 5)).ownsRow w.heap.size 5 1 (.slice (some ⟨w.heap.size, 0, none⟩) 0 0) 0 [] := World.ownsRow_made w #[] 0 (Nat.le_refl _) (by decide) rfl
  have hbelA : Below w.heap.size w (w.alloc (.cells #[] 5)) := (Below.refl _ _).alloc (Nat.le_refl _) _
  have HRA : Hid (Rds (w.alloc (.cells #[] 5)) (some ad) n (bcells L)) := HH.out.below hbelA
  clear hl
  go_enter Tryz.func61, Tryz.ntmps61
  go_wp2_with (at_builtin; refine wpList_app_any rfl _ _ 39 rfl w.heap.size 5 i0 (.int .u8 0) 1 Tryz.underlying39 hi hz0 hz1 hz2 rfl _ 0 [] rfl hownA hbelA hbelA.size (some ad) n cap (bcells L) rfl HRA.out (bcells_one _) (by unfold maxLen; omega) (by omega) ?_)
  intro v3 w3 hown3 hbel3
  clear hownA hbelA HRA
  go_wp2
  go_ret
  exact ⟨_, rfl, hown3, hbel3⟩
def fineK (L : List UInt8) : Bool := decide (∀ c ∈ L, 32 ≤ c.toNat ∧ c.toNat ≤ 126)
def kd (L : List UInt8) : List UInt8 := if fineK L = true then lower L else []
set_option maxRecDepth 100000 in
theorem kind_any (s : ByteArray) (w : World) (hm : s.size ≤ maxLen) :
  Calls Tryz.prog 62 #[.string s] w fun e w' => e = .returned (.string (strOf (kd s.data.toList))) ∧ Below w.heap.size w w' := by
 have hl : s.data.toList.length = s.size := Array.length_toList
 have HL := hid hl
 clear hl
 have hm' : s.size ≤ 9223372036854775807 := hm
 go_enter Tryz.func62, Tryz.ntmps62
 go_wp2
 go_loopw [3] (fun vk wr => ∃ j : Nat, j ≤ s.size ∧ vk = .int .i64 j ∧ Hid (∀ i (h : i < s.data.toList.length), i < j → 32 ≤ s.data.toList[i].toNat ∧ s.data.toList[i].toNat ≤ 126) ∧ Below w.heap.size w wr) (fun vk _ => s.size - (intOf vk).toNat)
 case atStart => exact ⟨0, Nat.zero_le _, rfl, (fun i _ h => absurd h (by omega)), Below.refl _ _⟩
 case round =>
  obtain ⟨j, hj, rfl, HA, hbel⟩ := hrel
  by_cases hlt : j < s.size
  ·obtain ⟨c, hc⟩ : ∃ c, s[j] = c := ⟨_, rfl⟩
   have HC : Hid (s.data.toList[j]'(by rw [HL.out]; exact hlt) = c) := by rw [← hc]; rfl
   have hc0 : (c.toNat : Int) < 256 := by have := c.toNat_lt; omega
   by_cases hf : 32 ≤ (c.toNat : Int) ∧ (c.toNat : Int) ≤ 126
   ·obtain ⟨f1, f2⟩ := hf
    have f1' : ¬ (c.toNat : Int) < 32 := by omega
    have f2' : ¬ 126 < (c.toNat : Int) := by omega
    have HA2 : Hid (∀ i (h : i < s.data.toList.length), i < j + 1 → 32 ≤ s.data.toList[i].toNat ∧ s.data.toList[i].toNat ≤ 126) := by
     intro i h hi
     by_cases e : i = j
     ·subst e
      rw [HC.out]
      omega
     ·exact HA.out i h (by omega)
    go_wp2
    go_roundw
    case rel => exact ⟨j + 1, by omega, by go_num, HA2, hbel⟩
    case measure => simp [intOf]; omega
   ·have HK : Hid (kd s.data.toList = []) := by
     show kd _ = []
     unfold kd
     rw [if_neg]
     unfold fineK
     rw [decide_eq_true_iff]
     intro h
     have := h c (by rw [← HC.out]; exact List.getElem_mem _)
     omega
    rcases (show (c.toNat : Int) < 32 ∨ ¬ (c.toNat : Int) < 32 ∧ 126 < (c.toNat : Int) by omega) with h1 | ⟨h1, h2⟩
    all_goals
     clear hf
     go_wp2
     go_ret
     exact ⟨ret_str (by rw [HK.out]; rfl), hbel⟩
  ·obtain rfl : j = s.size := by omega
   have HK : Hid (kd s.data.toList = lower s.data.toList) := by
    show kd _ = _
    unfold kd
    rw [if_pos]
    unfold fineK
    rw [decide_eq_true_iff]
    intro c hc
    obtain ⟨i, hi, rfl⟩ := List.mem_iff_getElem.1 hc
    exact HA.out i hi (by rw [← HL.out]; exact hi)
   go_wp2_with fail
   refine (UtfL.lower_any s _ hm).mono ?_
   rintro e w4 ⟨rfl, hb4⟩
   go_wp2
   go_ret
   exact ⟨ret_str (by rw [HK.out]), hbel.trans (hb4.mono hbel.size)⟩
end Go.Proofs.YtegpfgccaminkaaGreatDoor.BlobA
namespace Go.Proofs.YtegpfgccaminkaaGreatDoor.BlobB
open Go.RowKit Base Base2 Base3 UtfL BlobA
def BlobAt (w : World) (g n : Nat) (L K : List UInt8) : Prop :=
 ∃ A c, g < w.heap.size ∧ w.cell? ⟨g, 0, none⟩ = some (.slice A n c) ∧ w.cell? ⟨g, 1, none⟩ = some (.string (strOf K)) ∧ n ≤ c ∧ c ≤ maxLen ∧ Rds w A n (bcells L)
theorem BlobAt.below {w w' : World} {g n : Nat} {L K : List UInt8} (h : BlobAt w g n L K) (hb : Below w.heap.size w w') : BlobAt w' g n L K := by
 obtain ⟨A, c, h1, h2, h3, h4, h5, h6⟩ := h
 exact ⟨A, c, Nat.lt_of_lt_of_le h1 hb.size, (hb.cell (p := ⟨g, 0, none⟩) h1).trans h2, (hb.cell (p := ⟨g, 1, none⟩) h1).trans h3, h4, h5, h6.below hb⟩
theorem bytes_any (g n : Nat) (L K : List UInt8) (w : World) (h : BlobAt w g n L K) (hm : n ≤ 1073741824) :
  Calls Tryz.prog 85 #[.pointer (some ⟨g, 0, none⟩)] w fun e w' => ∃ v, e = .returned v ∧ w'.ownsRow w.heap.size 5 1 v n (bcells L) ∧ Below w.heap.size w w' := by
 obtain ⟨A, c, h1, h2, h3, h4, h5, h6⟩ := h
 have HH := hid h6
 clear h6
 go_enter Tryz.func85, Tryz.ntmps85
 go_wp2_with fail
 refine (clone_any A n c L _ HH.out hm).mono ?_
 rintro e w1 ⟨v, rfl, hown, hb1⟩
 go_wp2
 go_ret
 exact ⟨_, rfl, hown, hb1⟩
theorem kindm_any (g n : Nat) (L K : List UInt8) (w : World) (h : BlobAt w g n L K) :
  Calls Tryz.prog 84 #[.pointer (some ⟨g, 0, none⟩)] w fun e w' => e = .returned (.string (strOf K)) ∧ Below w.heap.size w w' := by
 obtain ⟨A, c, h1, h2, h3, h4, h5, h6⟩ := h
 clear h6
 go_enter Tryz.func84, Tryz.ntmps84
 go_wp2
 go_ret
 exact ⟨rfl, Below.refl _ _⟩
theorem len_any (g n : Nat) (L K : List UInt8) (w : World) (h : BlobAt w g n L K) :
  Calls Tryz.prog 36 #[.pointer (some ⟨g, 0, none⟩)] w fun e w' => e = .returned (.int .i64 (n : Int)) ∧ Below w.heap.size w w' := by
 obtain ⟨A, c, h1, h2, h3, h4, h5, h6⟩ := h
 clear h6
 unfold maxLen at h5
 have hn : n ≤ 9223372036854775807 := Nat.le_trans h4 h5
 go_enter Tryz.func36, Tryz.ntmps36
 go_wp2
 go_ret
 exact ⟨rfl, Below.refl _ _⟩
def plc (z : Int) (n : Nat) : Nat := if z < 0 then ((n : Int) + z).toNat else min z.toNat n
theorem place_nil (g n : Nat) (L K : List UInt8) (l : Int) (w : World) (_h : BlobAt w g n L K) :
  Calls Tryz.prog 64 #[.pointer (some ⟨g, 0, none⟩), .pointer none, .int .i64 l] w fun e w' => e = .returned (.int .i64 l) ∧ Below w.heap.size w w' := by
 go_enter Tryz.func64, Tryz.ntmps64
 go_wp2
 go_ret
 exact ⟨rfl, Below.refl _ _⟩
end Go.Proofs.YtegpfgccaminkaaGreatDoor.BlobB
