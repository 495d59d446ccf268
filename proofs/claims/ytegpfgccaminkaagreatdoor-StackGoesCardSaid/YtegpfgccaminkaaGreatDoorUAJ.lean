/- Texts that belong together: StkB, PthK, PthL, PrsA, PrsQ, PrsB, PrsC, HstA, SixM, HstB, HstC. -/
import Derived.Test.YtegpfgccaminkaaGreatDoorUAI
import Derived.BigQuiet
import Derived.Deep.QuietTactic
import Derived.Test.YtegpfgccaminkaaGreatDoorUAE
import Derived.Test.YtegpfgccaminkaaGreatDoorUAC
import Derived.Test.YtegpfgccaminkaaGreatDoorUAA
import Derived.Test.YtegpfgccaminkaaGreatDoorShelf
import Derived.Lib.SliceRun
import Derived.Lib.IndexAny
import Derived.Laws.RangeAny
import Derived.Laws.Runes
import Derived.Deep.LoopGhost
import Derived.WalkMore
import Derived.Lib.SplitLaws
import Derived.Lib.LastIndexByte
import Derived.OwnWalk
import Derived.Test.YtegpfgccaminkaaGreatDoorUAF
import Derived.Lib.IndexMore
import Derived.Laws.BitsAllLaws
import Derived.Lib.IndexLaws
import Derived.Laws.Rows
import Derived.Lib.LaidTab
import Derived.Lib.LaidU8
import Derived.Lib.SmallJoins
import Derived.Laws.Bits64b
import Derived.Deep.DeepCutAuto
import Derived.Deep.CutBlock
import Derived.Test.YtegpfgccaminkaaGreatDoorShelf3
import Derived.Laws.IdiomStrings
import Derived.Laws.StructEq
set_option linter.unusedSimpArgs false
set_option linter.unusedVariables false
namespace Go.Proofs.YtegpfgccaminkaaGreatDoor.StkB
open Go.RowKit Base Base2 Base3 Regs UtfL BlobA BlobK TbK StoG MaiB StkG
set_option linter.unusedSimpArgs false
set_option linter.unusedVariables false
open Go.Proofs.YtegpfgccaminkaaGreatDoor.Regw (GW)
def bkeep (lo : Nat) (L K : List UInt8) : Keep := ⟨fun v w => ∃ g, v = .pointer (some ⟨g, 0, none⟩) ∧ lo ≤ g ∧ BlobK lo w g L K, fun _ _ _ hb ⟨g, h1, h2, h3⟩ => ⟨g, h1, h2, h3.below hb⟩⟩
def more (m : SM) (g : Nat) (L K : List UInt8) : SM := { m with last := m.last + 1, tbl := m.tbl ++ [(m.last + 1, g)], bl := fun k => if k = g then (L, K) else m.bl k }
theorem more_same (m : SM) (g : Nat) (L K : List UInt8) {k : Nat} (h : Live m k) (hg : ¬ Live m g) : (if k = g then (L, K) else m.bl k) = m.bl k := if_neg (fun e : k = g => hg (by rw [← e]; exact h))
theorem total_more (m : SM) (g : Nat) (L K : List UInt8) (hg : ¬ Live m g) : total (more m g L K) = total m + L.length := by
 unfold total more
 simp only [List.map_append, List.sum_append, List.map_cons, List.map_nil, List.sum_cons, List.sum_nil, if_true]
 have : (m.tbl.map fun p => (if p.2 = g then (L, K) else m.bl p.2).1.length) = m.tbl.map fun p => (m.bl p.2).1.length := List.map_congr_left fun p hp => by rw [more_same m g L K (.inl ⟨p, hp, rfl⟩) hg]
 rw [this]
 omega
theorem fit_more {m : SM} (h : Fit m) (g : Nat) (L K : List UInt8) (hg : ¬ Live m g) (hr : m.tbl.length < m.bcap) (hq : total m + L.length ≤ m.bytes) : Fit (more m g L K) where
 tn := by show (m.tbl ++ [(m.last + 1, g)]).length ≤ m.bcap; simp; omega
 b64 := h.b64
 un := h.un
 u64 := h.u64
 sum := by rw [total_more m g L K hg]; exact hq
 cap := h.cap
 ord := by
  have key : ∀ i j (hi : i < (m.tbl ++ [(m.last + 1, g)]).length) (hj : j < (m.tbl ++ [(m.last + 1, g)]).length), i < j → ((m.tbl ++ [(m.last + 1, g)])[i]).1 < ((m.tbl ++ [(m.last + 1, g)])[j]).1 := fun i j hi hj hij => by
   have hj' := hj
   simp only [List.length_append, List.length_cons, List.length_nil] at hj'
   rw [List.getElem_append_left (by omega)]
   by_cases e : j < m.tbl.length
   ·rw [List.getElem_append_left e]; exact h.ord i j (by omega) e hij
   ·rw [List.getElem_append_right (by omega)]
    have := (h.top _ (List.getElem_mem (show i < m.tbl.length by omega))).2
    simp only [List.getElem_singleton]
    omega
  exact key
 top := fun p hp => by
  have hp' : p ∈ m.tbl ++ [(m.last + 1, g)] := hp
  rw [List.mem_append] at hp'
  rcases hp' with hp' | hp'
  ·have := h.top p hp'; exact ⟨this.1, Nat.le_succ_of_le this.2⟩
  ·rw [List.mem_singleton] at hp'
   rw [hp']
   exact ⟨Nat.succ_le_succ (Nat.zero_le _), Nat.le_refl _⟩
theorem live_more {m : SM} {g : Nat} {L K : List UInt8} {k : Nat} (h : Live (more m g L K) k) : k = g ∨ Live m k := by
 rcases h with ⟨p, hp, rfl⟩ | h
 ·have hp' : p ∈ m.tbl ++ [(m.last + 1, g)] := hp
  rw [List.mem_append] at hp'
  rcases hp' with hp' | hp'
  ·exact .inr (.inl ⟨p, hp', rfl⟩)
  ·rw [List.mem_singleton] at hp'
   rw [hp']
   exact .inl rfl
 ·exact .inr (.inr h)
theorem IsK.live_lt {B gs gt gu gm : Nat} {m : SM} {w : World} (h : IsK B gs gt gu gm m w) {g : Nat} (hg : Live m g) : g < w.heap.size := (h.blo g hg).lt
theorem blobs_more {B gs gt gu gm : Nat} {m : SM} {wq : World} (h : IsK B gs gt gu gm m wq) {lo g : Nat} {L K : List UInt8} (hB : B ≤ lo) (hb : BlobK lo wq g L K) (hg : ¬ Live m g) : ∀ k, Live (more m g L K) k → BlobK B wq k ((more m g L K).bl k).1 ((more m g L K).bl k).2 := fun k hk => by
 show BlobK B wq k (if k = g then (L, K) else m.bl k).1 (if k = g then (L, K) else m.bl k).2
 rcases live_more hk with rfl | hk
 ·rw [if_pos rfl]; exact hb.low hB
 ·rw [more_same m g L K hk hg]; exact h.blo k hk
set_option maxRecDepth 100000 in
set_option maxHeartbeats 4000000 in
theorem create_quota (B gs gt gu gm : Nat) (m : SM) (A : Option Addr) (n cap : Nat) (L0 : List UInt8) (s : ByteArray) (w : World) (h : IsK B gs gt gu gm m w) (hR : Rds w A n (bcells L0)) (hn : n ≤ 100000000) (hs : s.size ≤ maxLen) (hq : m.bytes < total m + n) :
  Calls Tryz.prog 13 #[.pointer (some ⟨gs, 0, none⟩), .slice A n cap, .string s] w fun e w' => e = .returned (.tuple #[.int .i64 0, .int .i64 7]) ∧ Below w.heap.size w w' := by
 have HK0 := hid h
 have HR0 := hid hR
 obtain ⟨c0, c1, c2, c3⟩ := h.facts
 have HLT : Hid (gs < w.heap.size) := h.lt
 have hcap : total m ≤ 1048576 := Nat.le_trans h.fit.sum h.fit.cap
 have HQ : Hid (decide ((m.bytes : Int) < (total m : Int) + (n : Int)) = true) := by show _ = _; first | (rw [decide_eq_true]; omega) | (rw [decide_eq_false]; omega)
 clear h hR
 go_enter Tryz.func13, Tryz.ntmps13
 go_upto_region 3 with (fail)
 refine wp_region_rel (by kernel_rfl) [is (.pointer (some ⟨gs, 0, none⟩)), is (.int .i64 (total m : Int)), is (.slice A n cap), is (.int .i64 (n : Int)), is (.int .i64 ((total m : Int) + (n : Int))), is (.pointer (some ⟨gs, 0, none⟩)), is (.pointer (some ⟨gs, 0, none⟩)), is (.pointer (some ⟨gs, 0, none⟩)), is (.int .i64 (m.bytes : Int)), is (.bool (decide ((m.bytes : Int) < (total m : Int) + (n : Int))))] [[], [0], [], [2], [1, 3], [], [5], [6], [7], [4, 8]] (by kernel_rfl) ?_ ?_
 ·refine ⟨?_, ?_, ?_, ?_, ?_, ?_, ?_, ?_, ?_, ?_, trivial⟩
  ·intro t wq hbq hh K hK
   clear hh
   simp only [filled, upd, Have, is, any, row, pick, Act.put, List.setIfInBounds_toArray, List.set_cons_zero, List.set_cons_succ, Nat.reduceAdd, Nat.reduceEqDiff, reduceIte] at hK ⊢
   go_simp
   exact hK _ _ (Below.refl _ _) rfl
  ·intro t wq hbq hh K hK
   have e0 := hh.1
   simp only [pick] at e0
   replace e0 : t 0 = (.pointer (some ⟨gs, 0, none⟩)) := e0
   clear hh
   simp only [filled, upd, Have, is, any, row, pick, Act.put, List.setIfInBounds_toArray, List.set_cons_zero, List.set_cons_succ, Nat.reduceAdd, Nat.reduceEqDiff, reduceIte] at hK ⊢
   simp only [e0] at hK ⊢
   go_simp
   refine (StkA.bytes_any B gs gt gu gm m _ (HK0.out.below hbq)).mono ?_
   rintro e w9 ⟨rfl, hb9⟩
   exact hK _ _ hb9 rfl
  ·intro t wq hbq hh K hK
   clear hh
   simp only [filled, upd, Have, is, any, row, pick, Act.put, List.setIfInBounds_toArray, List.set_cons_zero, List.set_cons_succ, Nat.reduceAdd, Nat.reduceEqDiff, reduceIte] at hK ⊢
   go_simp
   exact hK _ _ (Below.refl _ _) rfl
  ·intro t wq hbq hh K hK
   have e2 := hh.1
   simp only [pick] at e2
   replace e2 : t 2 = (.slice A n cap) := e2
   clear hh
   simp only [filled, upd, Have, is, any, row, pick, Act.put, List.setIfInBounds_toArray, List.set_cons_zero, List.set_cons_succ, Nat.reduceAdd, Nat.reduceEqDiff, reduceIte] at hK ⊢
   simp only [e2] at hK ⊢
   go_simp
   exact hK _ _ (Below.refl _ _) rfl
  ·intro t wq hbq hh K hK
   have e1 := hh.1
   simp only [pick] at e1
   replace e1 : t 1 = (.int .i64 (total m : Int)) := e1
   have e3 := hh.2.1
   simp only [pick] at e3
   replace e3 : t 3 = (.int .i64 (n : Int)) := e3
   clear hh
   simp only [filled, upd, Have, is, any, row, pick, Act.put, List.setIfInBounds_toArray, List.set_cons_zero, List.set_cons_succ, Nat.reduceAdd, Nat.reduceEqDiff, reduceIte] at hK ⊢
   simp only [e1, e3] at hK ⊢
   go_simp
   first | exact hK _ _ (Below.refl _ _) rfl | exact hK _ _ (Below.refl _ _) (int_wrap (by omega) (by omega))
  ·intro t wq hbq hh K hK
   clear hh
   simp only [filled, upd, Have, is, any, row, pick, Act.put, List.setIfInBounds_toArray, List.set_cons_zero, List.set_cons_succ, Nat.reduceAdd, Nat.reduceEqDiff, reduceIte] at hK ⊢
   go_simp
   exact hK _ _ (Below.refl _ _) rfl
  ·intro t wq hbq hh K hK
   have e5 := hh.1
   simp only [pick] at e5
   replace e5 : t 5 = (.pointer (some ⟨gs, 0, none⟩)) := e5
   clear hh
   simp only [filled, upd, Have, is, any, row, pick, Act.put, List.setIfInBounds_toArray, List.set_cons_zero, List.set_cons_succ, Nat.reduceAdd, Nat.reduceEqDiff, reduceIte] at hK ⊢
   simp only [e5] at hK ⊢
   go_simp
   exact hK _ _ (Below.refl _ _) rfl
  ·intro t wq hbq hh K hK
   have e6 := hh.1
   simp only [pick] at e6
   replace e6 : t 6 = (.pointer (some ⟨gs, 0, none⟩)) := e6
   clear hh
   simp only [filled, upd, Have, is, any, row, pick, Act.put, List.setIfInBounds_toArray, List.set_cons_zero, List.set_cons_succ, Nat.reduceAdd, Nat.reduceEqDiff, reduceIte] at hK ⊢
   simp only [e6] at hK ⊢
   go_simp
   exact hK _ _ (Below.refl _ _) rfl
  ·intro t wq hbq hh K hK
   have e7 := hh.1
   simp only [pick] at e7
   replace e7 : t 7 = (.pointer (some ⟨gs, 0, none⟩)) := e7
   clear hh
   simp only [filled, upd, Have, is, any, row, pick, Act.put, List.setIfInBounds_toArray, List.set_cons_zero, List.set_cons_succ, Nat.reduceAdd, Nat.reduceEqDiff, reduceIte] at hK ⊢
   simp only [e7] at hK ⊢
   have hq := (hbq.cell (p := ⟨gs, 0, none⟩) HLT.out).trans c0
   go_simp
   exact hK _ _ (Below.refl _ _) rfl
  ·intro t wq hbq hh K hK
   have e4 := hh.1
   simp only [pick] at e4
   replace e4 : t 4 = (.int .i64 ((total m : Int) + (n : Int))) := e4
   have e8 := hh.2.1
   simp only [pick] at e8
   replace e8 : t 8 = (.int .i64 (m.bytes : Int)) := e8
   clear hh
   simp only [filled, upd, Have, is, any, row, pick, Act.put, List.setIfInBounds_toArray, List.set_cons_zero, List.set_cons_succ, Nat.reduceAdd, Nat.reduceEqDiff, reduceIte] at hK ⊢
   simp only [e4, e8] at hK ⊢
   go_simp
   go_simp
   exact hK _ _ (Below.refl _ _) rfl
 ·intro t wq hbq hh
  have f9 := have_get hh 9 (by decide)
  simp only [pick] at f9
  replace f9 : t 9 = (.bool (decide ((m.bytes : Int) < (total m : Int) + (n : Int)))) := f9
  clear hh
  simp only [filled, upd, Have, is, any, row, pick, Act.put, List.setIfInBounds_toArray, List.set_cons_zero, List.set_cons_succ, Nat.reduceAdd, Nat.reduceEqDiff, reduceIte]
  simp only [f9]
  rw [HQ.out]
  have HK3 := hid (HK0.out.below hbq)
  have HR3 := hid (HR0.out.below hbq)
  have HB3 := hid hbq
  have HLT3 : Hid (gs < wq.heap.size) := HK3.out.lt
  clear hbq c0 c1 c2 c3 HK0 HR0 HLT
  go_wp2
  go_ret2
  exact ⟨rfl, HB3.out⟩
set_option maxRecDepth 100000 in
set_option maxHeartbeats 4000000 in
theorem create_full (B gs gt gu gm : Nat) (m : SM) (A : Option Addr) (n cap : Nat) (L0 : List UInt8) (s : ByteArray) (w : World) (h : IsK B gs gt gu gm m w) (hR : Rds w A n (bcells L0)) (hn : n ≤ 100000000) (hs : s.size ≤ maxLen) (hq : total m + n ≤ m.bytes) (hr : m.bcap ≤ m.tbl.length) :
  Calls Tryz.prog 13 #[.pointer (some ⟨gs, 0, none⟩), .slice A n cap, .string s] w fun e w' => e = .returned (.tuple #[.int .i64 0, .int .i64 4]) ∧ Below w.heap.size w w' := by
 have HK0 := hid h
 have HR0 := hid hR
 obtain ⟨c0, c1, c2, c3⟩ := h.facts
 have HLT : Hid (gs < w.heap.size) := h.lt
 have hcap : total m ≤ 1048576 := Nat.le_trans h.fit.sum h.fit.cap
 have HQ : Hid (decide ((m.bytes : Int) < (total m : Int) + (n : Int)) = false) := by show _ = _; first | (rw [decide_eq_true]; omega) | (rw [decide_eq_false]; omega)
 clear h hR
 go_enter Tryz.func13, Tryz.ntmps13
 go_upto_region 3 with (fail)
 refine wp_region_rel (by kernel_rfl) [is (.pointer (some ⟨gs, 0, none⟩)), is (.int .i64 (total m : Int)), is (.slice A n cap), is (.int .i64 (n : Int)), is (.int .i64 ((total m : Int) + (n : Int))), is (.pointer (some ⟨gs, 0, none⟩)), is (.pointer (some ⟨gs, 0, none⟩)), is (.pointer (some ⟨gs, 0, none⟩)), is (.int .i64 (m.bytes : Int)), is (.bool (decide ((m.bytes : Int) < (total m : Int) + (n : Int))))] [[], [0], [], [2], [1, 3], [], [5], [6], [7], [4, 8]] (by kernel_rfl) ?_ ?_
 ·refine ⟨?_, ?_, ?_, ?_, ?_, ?_, ?_, ?_, ?_, ?_, trivial⟩
  ·intro t wq hbq hh K hK
   clear hh
   simp only [filled, upd, Have, is, any, row, pick, Act.put, List.setIfInBounds_toArray, List.set_cons_zero, List.set_cons_succ, Nat.reduceAdd, Nat.reduceEqDiff, reduceIte] at hK ⊢
   go_simp
   exact hK _ _ (Below.refl _ _) rfl
  ·intro t wq hbq hh K hK
   have e0 := hh.1
   simp only [pick] at e0
   replace e0 : t 0 = (.pointer (some ⟨gs, 0, none⟩)) := e0
   clear hh
   simp only [filled, upd, Have, is, any, row, pick, Act.put, List.setIfInBounds_toArray, List.set_cons_zero, List.set_cons_succ, Nat.reduceAdd, Nat.reduceEqDiff, reduceIte] at hK ⊢
   simp only [e0] at hK ⊢
   go_simp
   refine (StkA.bytes_any B gs gt gu gm m _ (HK0.out.below hbq)).mono ?_
   rintro e w9 ⟨rfl, hb9⟩
   exact hK _ _ hb9 rfl
  ·intro t wq hbq hh K hK
   clear hh
   simp only [filled, upd, Have, is, any, row, pick, Act.put, List.setIfInBounds_toArray, List.set_cons_zero, List.set_cons_succ, Nat.reduceAdd, Nat.reduceEqDiff, reduceIte] at hK ⊢
   go_simp
   exact hK _ _ (Below.refl _ _) rfl
  ·intro t wq hbq hh K hK
   have e2 := hh.1
   simp only [pick] at e2
   replace e2 : t 2 = (.slice A n cap) := e2
   clear hh
   simp only [filled, upd, Have, is, any, row, pick, Act.put, List.setIfInBounds_toArray, List.set_cons_zero, List.set_cons_succ, Nat.reduceAdd, Nat.reduceEqDiff, reduceIte] at hK ⊢
   simp only [e2] at hK ⊢
   go_simp
   exact hK _ _ (Below.refl _ _) rfl
  ·intro t wq hbq hh K hK
   have e1 := hh.1
   simp only [pick] at e1
   replace e1 : t 1 = (.int .i64 (total m : Int)) := e1
   have e3 := hh.2.1
   simp only [pick] at e3
   replace e3 : t 3 = (.int .i64 (n : Int)) := e3
   clear hh
   simp only [filled, upd, Have, is, any, row, pick, Act.put, List.setIfInBounds_toArray, List.set_cons_zero, List.set_cons_succ, Nat.reduceAdd, Nat.reduceEqDiff, reduceIte] at hK ⊢
   simp only [e1, e3] at hK ⊢
   go_simp
   first | exact hK _ _ (Below.refl _ _) rfl | exact hK _ _ (Below.refl _ _) (int_wrap (by omega) (by omega))
  ·intro t wq hbq hh K hK
   clear hh
   simp only [filled, upd, Have, is, any, row, pick, Act.put, List.setIfInBounds_toArray, List.set_cons_zero, List.set_cons_succ, Nat.reduceAdd, Nat.reduceEqDiff, reduceIte] at hK ⊢
   go_simp
   exact hK _ _ (Below.refl _ _) rfl
  ·intro t wq hbq hh K hK
   have e5 := hh.1
   simp only [pick] at e5
   replace e5 : t 5 = (.pointer (some ⟨gs, 0, none⟩)) := e5
   clear hh
   simp only [filled, upd, Have, is, any, row, pick, Act.put, List.setIfInBounds_toArray, List.set_cons_zero, List.set_cons_succ, Nat.reduceAdd, Nat.reduceEqDiff, reduceIte] at hK ⊢
   simp only [e5] at hK ⊢
   go_simp
   exact hK _ _ (Below.refl _ _) rfl
  ·intro t wq hbq hh K hK
   have e6 := hh.1
   simp only [pick] at e6
   replace e6 : t 6 = (.pointer (some ⟨gs, 0, none⟩)) := e6
   clear hh
   simp only [filled, upd, Have, is, any, row, pick, Act.put, List.setIfInBounds_toArray, List.set_cons_zero, List.set_cons_succ, Nat.reduceAdd, Nat.reduceEqDiff, reduceIte] at hK ⊢
   simp only [e6] at hK ⊢
   go_simp
   exact hK _ _ (Below.refl _ _) rfl
  ·intro t wq hbq hh K hK
   have e7 := hh.1
   simp only [pick] at e7
   replace e7 : t 7 = (.pointer (some ⟨gs, 0, none⟩)) := e7
   clear hh
   simp only [filled, upd, Have, is, any, row, pick, Act.put, List.setIfInBounds_toArray, List.set_cons_zero, List.set_cons_succ, Nat.reduceAdd, Nat.reduceEqDiff, reduceIte] at hK ⊢
   simp only [e7] at hK ⊢
   have hq := (hbq.cell (p := ⟨gs, 0, none⟩) HLT.out).trans c0
   go_simp
   exact hK _ _ (Below.refl _ _) rfl
  ·intro t wq hbq hh K hK
   have e4 := hh.1
   simp only [pick] at e4
   replace e4 : t 4 = (.int .i64 ((total m : Int) + (n : Int))) := e4
   have e8 := hh.2.1
   simp only [pick] at e8
   replace e8 : t 8 = (.int .i64 (m.bytes : Int)) := e8
   clear hh
   simp only [filled, upd, Have, is, any, row, pick, Act.put, List.setIfInBounds_toArray, List.set_cons_zero, List.set_cons_succ, Nat.reduceAdd, Nat.reduceEqDiff, reduceIte] at hK ⊢
   simp only [e4, e8] at hK ⊢
   go_simp
   go_simp
   exact hK _ _ (Below.refl _ _) rfl
 ·intro t wq hbq hh
  have f9 := have_get hh 9 (by decide)
  simp only [pick] at f9
  replace f9 : t 9 = (.bool (decide ((m.bytes : Int) < (total m : Int) + (n : Int)))) := f9
  clear hh
  simp only [filled, upd, Have, is, any, row, pick, Act.put, List.setIfInBounds_toArray, List.set_cons_zero, List.set_cons_succ, Nat.reduceAdd, Nat.reduceEqDiff, reduceIte]
  simp only [f9]
  rw [HQ.out]
  have HK3 := hid (HK0.out.below hbq)
  have HR3 := hid (HR0.out.below hbq)
  have HB3 := hid hbq
  have HLT3 : Hid (gs < wq.heap.size) := HK3.out.lt
  clear hbq c0 c1 c2 c3 HK0 HR0 HLT
  obtain ⟨c0, c1, c2, c3⟩ := HK3.out.facts
  clear c0 c2 c3
  have HNL : Hid (L0.length = n) := by show _ = _; rw [← length_bcells]; exact HR3.out.1
  generalize hw3 : wq = w3 at HK3 HR3 HB3 HLT3 c1 ⊢
  clear hw3 hcap HQ
  skip
  go_upto_region 5 with (fail)
  refine wp_region_rel (by kernel_rfl) [is (.pointer (some ⟨gs, 0, none⟩)), is (.pointer (some ⟨gs, 0, none⟩)), is (.pointer (some ⟨gs, 1, none⟩)), is (.pointer (some ⟨gt, 0, none⟩)), is (.slice A n cap), is (.string s), bkeep w3.heap.size L0 (kd s.data.toList), is (.tuple #[.int .i64 0, .int .i64 4]), is (.int .i64 0), is (.int .i64 4), is (.int .i64 0), is (.int .i64 4)] [[], [0], [1], [2], [], [], [4, 5], [3, 6], [7], [7], [8], [9]] (by kernel_rfl) ?_ ?_
  ·refine ⟨?_, ?_, ?_, ?_, ?_, ?_, ?_, ?_, ?_, ?_, ?_, ?_, trivial⟩
   ·intro t wq hbq hh K hK
    clear hh
    simp only [filled, upd, Have, is, any, row, pick, Act.put, List.setIfInBounds_toArray, List.set_cons_zero, List.set_cons_succ, Nat.reduceAdd, Nat.reduceEqDiff, reduceIte] at hK ⊢
    go_simp
    exact hK _ _ (Below.refl _ _) rfl
   ·intro t wq hbq hh K hK
    have e0 := hh.1
    simp only [pick] at e0
    replace e0 : t 0 = (.pointer (some ⟨gs, 0, none⟩)) := e0
    clear hh
    simp only [filled, upd, Have, is, any, row, pick, Act.put, List.setIfInBounds_toArray, List.set_cons_zero, List.set_cons_succ, Nat.reduceAdd, Nat.reduceEqDiff, reduceIte] at hK ⊢
    simp only [e0] at hK ⊢
    go_simp
    exact hK _ _ (Below.refl _ _) rfl
   ·intro t wq hbq hh K hK
    have e1 := hh.1
    simp only [pick] at e1
    replace e1 : t 1 = (.pointer (some ⟨gs, 0, none⟩)) := e1
    clear hh
    simp only [filled, upd, Have, is, any, row, pick, Act.put, List.setIfInBounds_toArray, List.set_cons_zero, List.set_cons_succ, Nat.reduceAdd, Nat.reduceEqDiff, reduceIte] at hK ⊢
    simp only [e1] at hK ⊢
    go_simp
    exact hK _ _ (Below.refl _ _) rfl
   ·intro t wq hbq hh K hK
    have e2 := hh.1
    simp only [pick] at e2
    replace e2 : t 2 = (.pointer (some ⟨gs, 1, none⟩)) := e2
    clear hh
    simp only [filled, upd, Have, is, any, row, pick, Act.put, List.setIfInBounds_toArray, List.set_cons_zero, List.set_cons_succ, Nat.reduceAdd, Nat.reduceEqDiff, reduceIte] at hK ⊢
    simp only [e2] at hK ⊢
    have hq := (hbq.cell (p := ⟨gs, 1, none⟩) HLT3.out).trans c1
    go_simp
    exact hK _ _ (Below.refl _ _) rfl
   ·intro t wq hbq hh K hK
    clear hh
    simp only [filled, upd, Have, is, any, row, pick, Act.put, List.setIfInBounds_toArray, List.set_cons_zero, List.set_cons_succ, Nat.reduceAdd, Nat.reduceEqDiff, reduceIte] at hK ⊢
    go_simp
    exact hK _ _ (Below.refl _ _) rfl
   ·intro t wq hbq hh K hK
    clear hh
    simp only [filled, upd, Have, is, any, row, pick, Act.put, List.setIfInBounds_toArray, List.set_cons_zero, List.set_cons_succ, Nat.reduceAdd, Nat.reduceEqDiff, reduceIte] at hK ⊢
    go_simp
    exact hK _ _ (Below.refl _ _) rfl
   ·intro t wq hbq hh K hK
    have e4 := hh.1
    simp only [pick] at e4
    replace e4 : t 4 = (.slice A n cap) := e4
    have e5 := hh.2.1
    simp only [pick] at e5
    replace e5 : t 5 = (.string s) := e5
    clear hh
    simp only [filled, upd, Have, is, any, row, pick, Act.put, List.setIfInBounds_toArray, List.set_cons_zero, List.set_cons_succ, Nat.reduceAdd, Nat.reduceEqDiff, reduceIte] at hK ⊢
    simp only [e4, e5] at hK ⊢
    go_simp
    refine (new_k A n cap L0 s _ (HR3.out.below hbq) (by omega) hs).mono ?_
    rintro e w9 ⟨g, rfl, hg, hk, hb9⟩
    exact hK _ _ hb9 ⟨g, rfl, Nat.le_trans hbq.size hg, hk.low hbq.size⟩
   ·intro t wq hbq hh K hK
    have e3 := hh.1
    simp only [pick] at e3
    replace e3 : t 3 = (.pointer (some ⟨gt, 0, none⟩)) := e3
    have e6 := hh.2.1
    simp only [pick] at e6
    clear hh
    simp only [filled, upd, Have, is, any, row, pick, Act.put, List.setIfInBounds_toArray, List.set_cons_zero, List.set_cons_succ, Nat.reduceAdd, Nat.reduceEqDiff, reduceIte] at hK ⊢
    simp only [e3] at hK ⊢
    obtain ⟨g, e6, hg, hbk⟩ := e6
    simp only [e6] at hK ⊢
    go_simp
    refine (TbB.put_full B gt m.bcap m.last m.tbl g _ (HK3.out.below hbq).tab hr (Nat.le_trans HK3.out.fit.tn HK3.out.fit.b64)).mono ?_
    rintro e w6 ⟨rfl, hb⟩
    exact hK _ _ hb rfl
   ·intro t wq hbq hh K hK
    have e7 := hh.1
    simp only [pick] at e7
    replace e7 : t 7 = (.tuple #[.int .i64 0, .int .i64 4]) := e7
    clear hh
    simp only [filled, upd, Have, is, any, row, pick, Act.put, List.setIfInBounds_toArray, List.set_cons_zero, List.set_cons_succ, Nat.reduceAdd, Nat.reduceEqDiff, reduceIte] at hK ⊢
    simp only [e7] at hK ⊢
    go_simp
    exact hK _ _ (Below.refl _ _) rfl
   ·intro t wq hbq hh K hK
    have e7 := hh.1
    simp only [pick] at e7
    replace e7 : t 7 = (.tuple #[.int .i64 0, .int .i64 4]) := e7
    clear hh
    simp only [filled, upd, Have, is, any, row, pick, Act.put, List.setIfInBounds_toArray, List.set_cons_zero, List.set_cons_succ, Nat.reduceAdd, Nat.reduceEqDiff, reduceIte] at hK ⊢
    simp only [e7] at hK ⊢
    go_simp
    exact hK _ _ (Below.refl _ _) rfl
   ·intro t wq hbq hh K hK
    have e8 := hh.1
    simp only [pick] at e8
    replace e8 : t 8 = (.int .i64 0) := e8
    clear hh
    simp only [filled, upd, Have, is, any, row, pick, Act.put, List.setIfInBounds_toArray, List.set_cons_zero, List.set_cons_succ, Nat.reduceAdd, Nat.reduceEqDiff, reduceIte] at hK ⊢
    simp only [e8] at hK ⊢
    go_simp
    exact hK _ _ (Below.refl _ _) rfl
   ·intro t wq hbq hh K hK
    have e9 := hh.1
    simp only [pick] at e9
    replace e9 : t 9 = (.int .i64 4) := e9
    clear hh
    simp only [filled, upd, Have, is, any, row, pick, Act.put, List.setIfInBounds_toArray, List.set_cons_zero, List.set_cons_succ, Nat.reduceAdd, Nat.reduceEqDiff, reduceIte] at hK ⊢
    simp only [e9] at hK ⊢
    go_simp
    exact hK _ _ (Below.refl _ _) rfl
  ·intro t wq hbq hh
   have f10 := have_get hh 10 (by decide)
   simp only [pick] at f10
   replace f10 : t 10 = (.int .i64 0) := f10
   have f11 := have_get hh 11 (by decide)
   simp only [pick] at f11
   replace f11 : t 11 = (.int .i64 4) := f11
   clear hh
   simp only [filled, upd, Have, is, any, row, pick, Act.put, List.setIfInBounds_toArray, List.set_cons_zero, List.set_cons_succ, Nat.reduceAdd, Nat.reduceEqDiff, reduceIte]
   simp only [f10, f11]
   have HB6 := hid (bel HB3.out hbq)
   clear hbq
   go_wp2
   go_ret2
   exact ⟨rfl, HB6.out⟩
set_option maxRecDepth 100000 in
set_option maxHeartbeats 4000000 in
theorem create_ok (B gs gt gu gm : Nat) (m : SM) (A : Option Addr) (n cap : Nat) (L0 : List UInt8) (s : ByteArray) (w : World) (h : IsK B gs gt gu gm m w) (hR : Rds w A n (bcells L0)) (hn : n ≤ 100000000) (hs : s.size ≤ maxLen) (hq : total m + n ≤ m.bytes) (hr : m.tbl.length < m.bcap) (hl : m.last ≤ 100000) :
  Calls Tryz.prog 13 #[.pointer (some ⟨gs, 0, none⟩), .slice A n cap, .string s] w fun e w' => ∃ g, e = .returned (.tuple #[.int .i64 ((m.last : Int) + 1), .int .i64 0]) ∧ w.heap.size ≤ g ∧ IsK B gs gt gu gm (more m g L0 (kd s.data.toList)) w' ∧ Below B w w' ∧ Ks w w' := by
 have HBW : Hid (B ≤ w.heap.size) := h.size
 have HK0 := hid h
 have HR0 := hid hR
 obtain ⟨c0, c1, c2, c3⟩ := h.facts
 have HLT : Hid (gs < w.heap.size) := h.lt
 have hcap : total m ≤ 1048576 := Nat.le_trans h.fit.sum h.fit.cap
 have HQ : Hid (decide ((m.bytes : Int) < (total m : Int) + (n : Int)) = false) := by show _ = _; first | (rw [decide_eq_true]; omega) | (rw [decide_eq_false]; omega)
 clear h hR
 go_enter Tryz.func13, Tryz.ntmps13
 go_upto_region 3 with (fail)
 refine wp_region_rel (by kernel_rfl) [is (.pointer (some ⟨gs, 0, none⟩)), is (.int .i64 (total m : Int)), is (.slice A n cap), is (.int .i64 (n : Int)), is (.int .i64 ((total m : Int) + (n : Int))), is (.pointer (some ⟨gs, 0, none⟩)), is (.pointer (some ⟨gs, 0, none⟩)), is (.pointer (some ⟨gs, 0, none⟩)), is (.int .i64 (m.bytes : Int)), is (.bool (decide ((m.bytes : Int) < (total m : Int) + (n : Int))))] [[], [0], [], [2], [1, 3], [], [5], [6], [7], [4, 8]] (by kernel_rfl) ?_ ?_
 ·refine ⟨?_, ?_, ?_, ?_, ?_, ?_, ?_, ?_, ?_, ?_, trivial⟩
  ·intro t wq hbq hh K hK
   clear hh
   simp only [filled, upd, Have, is, any, row, pick, Act.put, List.setIfInBounds_toArray, List.set_cons_zero, List.set_cons_succ, Nat.reduceAdd, Nat.reduceEqDiff, reduceIte] at hK ⊢
   go_simp
   exact hK _ _ (Below.refl _ _) rfl
  ·intro t wq hbq hh K hK
   have e0 := hh.1
   simp only [pick] at e0
   replace e0 : t 0 = (.pointer (some ⟨gs, 0, none⟩)) := e0
   clear hh
   simp only [filled, upd, Have, is, any, row, pick, Act.put, List.setIfInBounds_toArray, List.set_cons_zero, List.set_cons_succ, Nat.reduceAdd, Nat.reduceEqDiff, reduceIte] at hK ⊢
   simp only [e0] at hK ⊢
   go_simp
   refine (StkA.bytes_any B gs gt gu gm m _ (HK0.out.below hbq)).mono ?_
   rintro e w9 ⟨rfl, hb9⟩
   exact hK _ _ hb9 rfl
  ·intro t wq hbq hh K hK
   clear hh
   simp only [filled, upd, Have, is, any, row, pick, Act.put, List.setIfInBounds_toArray, List.set_cons_zero, List.set_cons_succ, Nat.reduceAdd, Nat.reduceEqDiff, reduceIte] at hK ⊢
   go_simp
   exact hK _ _ (Below.refl _ _) rfl
  ·intro t wq hbq hh K hK
   have e2 := hh.1
   simp only [pick] at e2
   replace e2 : t 2 = (.slice A n cap) := e2
   clear hh
   simp only [filled, upd, Have, is, any, row, pick, Act.put, List.setIfInBounds_toArray, List.set_cons_zero, List.set_cons_succ, Nat.reduceAdd, Nat.reduceEqDiff, reduceIte] at hK ⊢
   simp only [e2] at hK ⊢
   go_simp
   exact hK _ _ (Below.refl _ _) rfl
  ·intro t wq hbq hh K hK
   have e1 := hh.1
   simp only [pick] at e1
   replace e1 : t 1 = (.int .i64 (total m : Int)) := e1
   have e3 := hh.2.1
   simp only [pick] at e3
   replace e3 : t 3 = (.int .i64 (n : Int)) := e3
   clear hh
   simp only [filled, upd, Have, is, any, row, pick, Act.put, List.setIfInBounds_toArray, List.set_cons_zero, List.set_cons_succ, Nat.reduceAdd, Nat.reduceEqDiff, reduceIte] at hK ⊢
   simp only [e1, e3] at hK ⊢
   go_simp
   first | exact hK _ _ (Below.refl _ _) rfl | exact hK _ _ (Below.refl _ _) (int_wrap (by omega) (by omega))
  ·intro t wq hbq hh K hK
   clear hh
   simp only [filled, upd, Have, is, any, row, pick, Act.put, List.setIfInBounds_toArray, List.set_cons_zero, List.set_cons_succ, Nat.reduceAdd, Nat.reduceEqDiff, reduceIte] at hK ⊢
   go_simp
   exact hK _ _ (Below.refl _ _) rfl
  ·intro t wq hbq hh K hK
   have e5 := hh.1
   simp only [pick] at e5
   replace e5 : t 5 = (.pointer (some ⟨gs, 0, none⟩)) := e5
   clear hh
   simp only [filled, upd, Have, is, any, row, pick, Act.put, List.setIfInBounds_toArray, List.set_cons_zero, List.set_cons_succ, Nat.reduceAdd, Nat.reduceEqDiff, reduceIte] at hK ⊢
   simp only [e5] at hK ⊢
   go_simp
   exact hK _ _ (Below.refl _ _) rfl
  ·intro t wq hbq hh K hK
   have e6 := hh.1
   simp only [pick] at e6
   replace e6 : t 6 = (.pointer (some ⟨gs, 0, none⟩)) := e6
   clear hh
   simp only [filled, upd, Have, is, any, row, pick, Act.put, List.setIfInBounds_toArray, List.set_cons_zero, List.set_cons_succ, Nat.reduceAdd, Nat.reduceEqDiff, reduceIte] at hK ⊢
   simp only [e6] at hK ⊢
   go_simp
   exact hK _ _ (Below.refl _ _) rfl
  ·intro t wq hbq hh K hK
   have e7 := hh.1
   simp only [pick] at e7
   replace e7 : t 7 = (.pointer (some ⟨gs, 0, none⟩)) := e7
   clear hh
   simp only [filled, upd, Have, is, any, row, pick, Act.put, List.setIfInBounds_toArray, List.set_cons_zero, List.set_cons_succ, Nat.reduceAdd, Nat.reduceEqDiff, reduceIte] at hK ⊢
   simp only [e7] at hK ⊢
   have hq := (hbq.cell (p := ⟨gs, 0, none⟩) HLT.out).trans c0
   go_simp
   exact hK _ _ (Below.refl _ _) rfl
  ·intro t wq hbq hh K hK
   have e4 := hh.1
   simp only [pick] at e4
   replace e4 : t 4 = (.int .i64 ((total m : Int) + (n : Int))) := e4
   have e8 := hh.2.1
   simp only [pick] at e8
   replace e8 : t 8 = (.int .i64 (m.bytes : Int)) := e8
   clear hh
   simp only [filled, upd, Have, is, any, row, pick, Act.put, List.setIfInBounds_toArray, List.set_cons_zero, List.set_cons_succ, Nat.reduceAdd, Nat.reduceEqDiff, reduceIte] at hK ⊢
   simp only [e4, e8] at hK ⊢
   go_simp
   go_simp
   exact hK _ _ (Below.refl _ _) rfl
 ·intro t wq hbq hh
  have f9 := have_get hh 9 (by decide)
  simp only [pick] at f9
  replace f9 : t 9 = (.bool (decide ((m.bytes : Int) < (total m : Int) + (n : Int)))) := f9
  clear hh
  simp only [filled, upd, Have, is, any, row, pick, Act.put, List.setIfInBounds_toArray, List.set_cons_zero, List.set_cons_succ, Nat.reduceAdd, Nat.reduceEqDiff, reduceIte]
  simp only [f9]
  rw [HQ.out]
  have HK3 := hid (HK0.out.below hbq)
  have HR3 := hid (HR0.out.below hbq)
  have HB3 := hid hbq
  have HLT3 : Hid (gs < wq.heap.size) := HK3.out.lt
  clear hbq c0 c1 c2 c3 HK0 HR0 HLT
  obtain ⟨c0, c1, c2, c3⟩ := HK3.out.facts
  clear c0 c2 c3
  have HNL : Hid (L0.length = n) := by show _ = _; rw [← length_bcells]; exact HR3.out.1
  generalize hw3 : wq = w3 at HK3 HR3 HB3 HLT3 c1 ⊢
  clear hw3 hcap HQ
  skip
  go_upto_region 5 with (fail)
  have HZ : Hid (∀ a b : World, Below a.heap.size a b → (∃ g, w3.heap.size ≤ g ∧ IsK B gs gt gu gm (more m g L0 (kd s.data.toList)) a ∧ Below B w a ∧ Ks w a) → (∃ g, w3.heap.size ≤ g ∧ IsK B gs gt gu gm (more m g L0 (kd s.data.toList)) b ∧ Below B w b ∧ Ks w b)) := fun a b hb hz => by
   obtain ⟨g, z1, z2, z3, z4⟩ := hz
   exact ⟨g, z1, z2.below hb, z3.trans (hb.mono z2.size), z4.trans (Ks.below hb)⟩
  refine wp_region_inv (by kernel_rfl) (GW 7 w3 [(6, bkeep w3.heap.size L0 (kd s.data.toList))] fun wr => ∃ g, w3.heap.size ≤ g ∧ IsK B gs gt gu gm (more m g L0 (kd s.data.toList)) wr ∧ Below B w wr ∧ Ks w wr) [is (.pointer (some ⟨gs, 0, none⟩)), is (.pointer (some ⟨gs, 0, none⟩)), is (.pointer (some ⟨gs, 1, none⟩)), is (.pointer (some ⟨gt, 0, none⟩)), is (.slice A n cap), is (.string s), any, is (.tuple #[.int .i64 ((m.last : Int) + 1), .int .i64 0]), is (.int .i64 ((m.last : Int) + 1)), is (.int .i64 0), is (.int .i64 ((m.last : Int) + 1)), is (.int .i64 0)] [[], [0], [1], [2], [], [], [4, 5], [3, 6], [7], [7], [8], [9]] (by kernel_rfl) (by repeat (first | exact free_nil | refine free_is _ ?_ | refine free_any ?_)) ?_ ?_ ?_
  ·exact fun t => Regw.GW.beg 7 w3 _ _ t
  ·refine ⟨?_, ?_, ?_, ?_, ?_, ?_, ?_, ?_, ?_, ?_, ?_, ?_, trivial⟩
   ·intro L t wq hG hL hC hN hh K hK
    clear hh
    simp only [filled, upd, Have, is, any, row, pick, Act.put, List.setIfInBounds_toArray, List.set_cons_zero, List.set_cons_succ, Nat.reduceAdd, Nat.reduceEqDiff, reduceIte] at hK ⊢
    go_simp
    exact hK _ _ rfl (Regw.stab HZ.out 0 rfl (Below.refl _ _) hG)
   ·intro L t wq hG hL hC hN hh K hK
    have e0 := hh.1
    simp only [pick] at e0
    replace e0 : t 0 = (.pointer (some ⟨gs, 0, none⟩)) := e0
    clear hh
    simp only [filled, upd, Have, is, any, row, pick, Act.put, List.setIfInBounds_toArray, List.set_cons_zero, List.set_cons_succ, Nat.reduceAdd, Nat.reduceEqDiff, reduceIte] at hK ⊢
    simp only [e0] at hK ⊢
    go_simp
    exact hK _ _ rfl (Regw.stab HZ.out 1 rfl (Below.refl _ _) hG)
   ·intro L t wq hG hL hC hN hh K hK
    have e1 := hh.1
    simp only [pick] at e1
    replace e1 : t 1 = (.pointer (some ⟨gs, 0, none⟩)) := e1
    clear hh
    simp only [filled, upd, Have, is, any, row, pick, Act.put, List.setIfInBounds_toArray, List.set_cons_zero, List.set_cons_succ, Nat.reduceAdd, Nat.reduceEqDiff, reduceIte] at hK ⊢
    simp only [e1] at hK ⊢
    go_simp
    exact hK _ _ rfl (Regw.stab HZ.out 2 rfl (Below.refl _ _) hG)
   ·intro L t wq hG hL hC hN hh K hK
    have e2 := hh.1
    simp only [pick] at e2
    replace e2 : t 2 = (.pointer (some ⟨gs, 1, none⟩)) := e2
    clear hh
    simp only [filled, upd, Have, is, any, row, pick, Act.put, List.setIfInBounds_toArray, List.set_cons_zero, List.set_cons_succ, Nat.reduceAdd, Nat.reduceEqDiff, reduceIte] at hK ⊢
    simp only [e2] at hK ⊢
    have h7 : L 7 = false := by
     cases h : L 7 with
     | false => rfl
     | true => exact absurd (hC 7 h 3 (by decide)) (by rw [hL]; simp)
    have hq := ((hG.pre h7).1.cell (p := ⟨gs, 1, none⟩) HLT3.out).trans c1
    go_simp
    exact hK _ _ rfl (Regw.stab HZ.out 3 rfl (Below.refl _ _) hG)
   ·intro L t wq hG hL hC hN hh K hK
    clear hh
    simp only [filled, upd, Have, is, any, row, pick, Act.put, List.setIfInBounds_toArray, List.set_cons_zero, List.set_cons_succ, Nat.reduceAdd, Nat.reduceEqDiff, reduceIte] at hK ⊢
    go_simp
    exact hK _ _ rfl (Regw.stab HZ.out 4 rfl (Below.refl _ _) hG)
   ·intro L t wq hG hL hC hN hh K hK
    clear hh
    simp only [filled, upd, Have, is, any, row, pick, Act.put, List.setIfInBounds_toArray, List.set_cons_zero, List.set_cons_succ, Nat.reduceAdd, Nat.reduceEqDiff, reduceIte] at hK ⊢
    go_simp
    exact hK _ _ rfl (Regw.stab HZ.out 5 rfl (Below.refl _ _) hG)
   ·intro L t wq hG hL hC hN hh K hK
    have e4 := hh.1
    simp only [pick] at e4
    replace e4 : t 4 = (.slice A n cap) := e4
    have e5 := hh.2.1
    simp only [pick] at e5
    replace e5 : t 5 = (.string s) := e5
    clear hh
    simp only [filled, upd, Have, is, any, row, pick, Act.put, List.setIfInBounds_toArray, List.set_cons_zero, List.set_cons_succ, Nat.reduceAdd, Nat.reduceEqDiff, reduceIte] at hK ⊢
    simp only [e4, e5] at hK ⊢
    go_simp
    have h7 : L 7 = false := by
     cases h : L 7 with
     | false => rfl
     | true => exact absurd (hC 7 h 6 (by decide)) (by rw [hL]; simp)
    have hp6 := (hG.pre h7).1
    refine (new_k A n cap L0 s _ (HR3.out.below hp6) (by omega) hs).mono ?_
    rintro e w9 ⟨g, rfl, hg, hk, hb9⟩
    refine hK _ _ trivial (Regw.keep hG h7 6 (by decide) hb9 fun p hp _ => ?_)
    rw [List.mem_singleton] at hp
    subst hp
    exact ⟨g, rfl, Nat.le_trans hp6.size hg, hk.low hp6.size⟩
   ·intro L t wq hG hL hC hN hh K hK
    have e3 := hh.1
    simp only [pick] at e3
    replace e3 : t 3 = (.pointer (some ⟨gt, 0, none⟩)) := e3
    clear hh
    simp only [filled, upd, Have, is, any, row, pick, Act.put, List.setIfInBounds_toArray, List.set_cons_zero, List.set_cons_succ, Nat.reduceAdd, Nat.reduceEqDiff, reduceIte] at hK ⊢
    simp only [e3] at hK ⊢
    obtain ⟨hp7, hq7⟩ := hG.pre hL
    obtain ⟨g, e6, hg, hbk⟩ := hq7 _ (List.mem_singleton.2 rfl) (hN 6 (by decide))
    simp only at e6
    simp only [e6] at hK ⊢
    go_simp
    have HKq := HK3.out.below hp7
    refine (TbB.put_any B gt m.bcap m.last m.tbl g _ HKq.tab hr HKq.fit.b64 hl).mono ?_
    rintro e w6 ⟨rfl, hT, hb, hk⟩
    have hnl : ¬ Live m g := fun hl => by have := IsK.live_lt HK3.out hl; omega
    have hz : ∃ g, w3.heap.size ≤ g ∧ IsK B gs gt gu gm (more m g L0 (kd s.data.toList)) w6 ∧ Below B w w6 ∧ Ks w w6 := ⟨g, hg, IsK.tab' (m' := more m g L0 (kd s.data.toList)) HKq hk hT (blobs_more HKq HK3.out.size hbk hnl) (fit_more HKq.fit g L0 _ hnl hr (by rw [HNL.out]; exact hq)) rfl rfl rfl rfl rfl, (HB3.out.mono HBW.out).trans ((hp7.mono HK3.out.size).trans hb), (Ks.below (bel HB3.out hp7)).trans (Ks.tab hk)⟩
    exact hK _ _ rfl (Regw.call hz)
   ·intro L t wq hG hL hC hN hh K hK
    have e7 := hh.1
    simp only [pick] at e7
    replace e7 : t 7 = (.tuple #[.int .i64 ((m.last : Int) + 1), .int .i64 0]) := e7
    clear hh
    simp only [filled, upd, Have, is, any, row, pick, Act.put, List.setIfInBounds_toArray, List.set_cons_zero, List.set_cons_succ, Nat.reduceAdd, Nat.reduceEqDiff, reduceIte] at hK ⊢
    simp only [e7] at hK ⊢
    go_simp
    exact hK _ _ rfl (Regw.stab HZ.out 8 rfl (Below.refl _ _) hG)
   ·intro L t wq hG hL hC hN hh K hK
    have e7 := hh.1
    simp only [pick] at e7
    replace e7 : t 7 = (.tuple #[.int .i64 ((m.last : Int) + 1), .int .i64 0]) := e7
    clear hh
    simp only [filled, upd, Have, is, any, row, pick, Act.put, List.setIfInBounds_toArray, List.set_cons_zero, List.set_cons_succ, Nat.reduceAdd, Nat.reduceEqDiff, reduceIte] at hK ⊢
    simp only [e7] at hK ⊢
    go_simp
    exact hK _ _ rfl (Regw.stab HZ.out 9 rfl (Below.refl _ _) hG)
   ·intro L t wq hG hL hC hN hh K hK
    have e8 := hh.1
    simp only [pick] at e8
    replace e8 : t 8 = (.int .i64 ((m.last : Int) + 1)) := e8
    clear hh
    simp only [filled, upd, Have, is, any, row, pick, Act.put, List.setIfInBounds_toArray, List.set_cons_zero, List.set_cons_succ, Nat.reduceAdd, Nat.reduceEqDiff, reduceIte] at hK ⊢
    simp only [e8] at hK ⊢
    go_simp
    exact hK _ _ rfl (Regw.stab HZ.out 10 rfl (Below.refl _ _) hG)
   ·intro L t wq hG hL hC hN hh K hK
    have e9 := hh.1
    simp only [pick] at e9
    replace e9 : t 9 = (.int .i64 0) := e9
    clear hh
    simp only [filled, upd, Have, is, any, row, pick, Act.put, List.setIfInBounds_toArray, List.set_cons_zero, List.set_cons_succ, Nat.reduceAdd, Nat.reduceEqDiff, reduceIte] at hK ⊢
    simp only [e9] at hK ⊢
    go_simp
    exact hK _ _ rfl (Regw.stab HZ.out 11 rfl (Below.refl _ _) hG)
  ·intro Lz t wq hG hall hh
   have f10 := have_get hh 10 (by decide)
   simp only [pick] at f10
   replace f10 : t 10 = (.int .i64 ((m.last : Int) + 1)) := f10
   have f11 := have_get hh 11 (by decide)
   simp only [pick] at f11
   replace f11 : t 11 = (.int .i64 0) := f11
   clear hh
   simp only [filled, upd, Have, is, any, row, pick, Act.put, List.setIfInBounds_toArray, List.set_cons_zero, List.set_cons_succ, Nat.reduceAdd, Nat.reduceEqDiff, reduceIte]
   simp only [f10, f11]
   obtain ⟨g, z1, z2, z3, z4⟩ := hG.post (hall 7 (by decide))
   have Z1 := hid z1
   have Z2 := hid z2
   have Z3 := hid z3
   have Z4 := hid z4
   have HS3 : Hid (w.heap.size ≤ w3.heap.size) := HB3.out.size
   clear hG hall z1 z2 z3 z4 c1
   go_wp2
   go_ret2
   exact ⟨g, rfl, Nat.le_trans HS3.out Z1.out, Z2.out, Z3.out, Z4.out⟩
theorem live_erase {m : SM} {k g : Nat} (h : Live { m with tbl := m.tbl.eraseIdx k } g) : Live m g := by
 rcases h with ⟨p, hp, rfl⟩ | h
 ·exact .inl ⟨p, List.mem_of_mem_eraseIdx hp, rfl⟩
 ·exact .inr h
theorem total_erase (m : SM) (k : Nat) (h : k < m.tbl.length) : total { m with tbl := m.tbl.eraseIdx k } + (m.bl m.tbl[k].2).1.length = total m := by
 unfold total
 simp only
 rw [List.eraseIdx_eq_take_drop_succ, List.map_append, List.sum_append]
 conv => rhs; rw [← List.take_append_drop k m.tbl, List.drop_eq_getElem_cons h, List.map_append, List.map_cons, List.sum_append, List.sum_cons]
 omega
theorem fit_erase {m : SM} (h : Fit m) (k : Nat) (hk : k < m.tbl.length) : Fit { m with tbl := m.tbl.eraseIdx k } where
 tn := by show (m.tbl.eraseIdx k).length ≤ m.bcap; rw [List.length_eraseIdx, if_pos hk]; have := h.tn; omega
 b64 := h.b64
 un := h.un
 u64 := h.u64
 sum := by have := total_erase m k hk; have := h.sum; show total { m with tbl := m.tbl.eraseIdx k } ≤ m.bytes; omega
 cap := h.cap
 ord := by
  have key : ∀ i j (hi : i < (m.tbl.eraseIdx k).length) (hj : j < (m.tbl.eraseIdx k).length), i < j → ((m.tbl.eraseIdx k)[i]).1 < ((m.tbl.eraseIdx k)[j]).1 := fun i j hi hj hij => by
   have hi' := hi
   have hj' := hj
   rw [List.length_eraseIdx, if_pos hk] at hi' hj'
   rw [List.getElem_eraseIdx, List.getElem_eraseIdx]
   split <;> split
   ·exact h.ord i j _ _ hij
   ·exact h.ord i (j + 1) _ _ (by omega)
   ·omega
   ·exact h.ord (i + 1) (j + 1) _ _ (by omega)
  exact key
 top := fun p hp => h.top p (List.mem_of_mem_eraseIdx hp)
theorem forget_yes (B gs gt gu gm : Nat) (m : SM) (hd : Int) (k : Nat) (w : World) (h : IsK B gs gt gu gm m w) (hi : TbK.idx m.tbl hd = some k) :
  Calls Tryz.prog 14 #[.pointer (some ⟨gs, 0, none⟩), .int .i64 hd] w fun e w' => e = .returned (.bool true) ∧ IsK B gs gt gu gm { m with tbl := m.tbl.eraseIdx k } w' ∧ Below B w w' ∧ Ks w w' := by
 have HK0 := hid h
 obtain ⟨hk, _⟩ := TbK.idx_some hi
 have HG : Hid (TbB.got m.tbl hd = .tuple #[.pointer (some ⟨m.tbl[k].2, 0, none⟩), .bool true]) := by
  show _ = _
  unfold TbB.got
  rw [hi]
  simp only
  rw [List.getElem?_eq_getElem hk]
  rfl
 have HGN : Hid (TbB.gone m.tbl hd = m.tbl.eraseIdx k) := by show _ = _; unfold TbB.gone; rw [hi]
 obtain ⟨c0, c1, c2, c3⟩ := h.facts
 have hlt := h.lt
 clear h hi
 go_enter Tryz.func14, Tryz.ntmps14
 go_wp2_with fail
 refine (TbB.del_any B gt m.bcap m.last m.tbl hd _ HK0.out.tab (Nat.le_trans HK0.out.fit.tn HK0.out.fit.b64)).mono ?_
 rw [HG.out, HGN.out]
 rintro e w1 ⟨rfl, hT, hb, hkp⟩
 have HF : Hid (IsK B gs gt gu gm { m with tbl := m.tbl.eraseIdx k } w1) := IsK.tab' (m' := { m with tbl := m.tbl.eraseIdx k }) HK0.out hkp hT (fun g hg => HK0.out.blo g (live_erase hg)) (fit_erase HK0.out.fit k hk) rfl rfl rfl rfl rfl
 have HB1 := hid hb
 have HKS := hid (Ks.tab hkp)
 clear hT hb hkp c0 c1 c2 c3
 go_wp2
 go_ret
 exact ⟨rfl, HF.out, HB1.out, HKS.out⟩
theorem forget_no (B gs gt gu gm : Nat) (m : SM) (hd : Int) (w : World) (h : IsK B gs gt gu gm m w) (hi : TbK.idx m.tbl hd = none) :
  Calls Tryz.prog 14 #[.pointer (some ⟨gs, 0, none⟩), .int .i64 hd] w fun e w' => e = .returned (.bool false) ∧ IsK B gs gt gu gm m w' ∧ Below B w w' ∧ Ks w w' := by
 have HK0 := hid h
 have HG : Hid (TbB.got m.tbl hd = .tuple #[.pointer none, .bool false]) := by show _ = _; unfold TbB.got; rw [hi]
 have HGN : Hid (TbB.gone m.tbl hd = m.tbl) := by show _ = _; unfold TbB.gone; rw [hi]
 obtain ⟨c0, c1, c2, c3⟩ := h.facts
 have hlt := h.lt
 clear h hi
 go_enter Tryz.func14, Tryz.ntmps14
 go_wp2_with fail
 refine (TbB.del_any B gt m.bcap m.last m.tbl hd _ HK0.out.tab (Nat.le_trans HK0.out.fit.tn HK0.out.fit.b64)).mono ?_
 rw [HG.out, HGN.out]
 rintro e w1 ⟨rfl, hT, hb, hkp⟩
 have HF : Hid (IsK B gs gt gu gm m w1) := IsK.tab' (m' := m) HK0.out hkp hT HK0.out.blo HK0.out.fit rfl rfl rfl rfl rfl
 have HB1 := hid hb
 have HKS := hid (Ks.tab hkp)
 clear hT hb hkp c0 c1 c2 c3
 go_wp2
 go_ret
 exact ⟨rfl, HF.out, HB1.out, HKS.out⟩
theorem forget_nil (hd : Int) (w : World) : Calls Tryz.prog 14 #[.pointer none, .int .i64 hd] w fun e w' => e = .returned (.bool false) ∧ Below w.heap.size w w' := by
 go_enter Tryz.func14, Tryz.ntmps14
 go_wp2
 go_ret
 exact ⟨rfl, Below.refl _ _⟩
theorem create_nil (A : Option Addr) (n cap : Nat) (s : ByteArray) (w : World) : Calls Tryz.prog 13 #[.pointer none, .slice A n cap, .string s] w fun e w' => e = .returned (.tuple #[.int .i64 0, .int .i64 1]) ∧ Below w.heap.size w w' := by
 go_enter Tryz.func13, Tryz.ntmps13
 go_wp2
 go_ret2
 exact ⟨rfl, Below.refl _ _⟩
end Go.Proofs.YtegpfgccaminkaaGreatDoor.StkB
namespace Go.Proofs.YtegpfgccaminkaaGreatDoor.PrsA
open Go.RowKit Base Regs Base2 UtfL UrlA PrsP
theorem dl (s : ByteArray) : s.data.toList.length = s.size := Array.length_toList
end Go.Proofs.YtegpfgccaminkaaGreatDoor.PrsA
namespace Go.Proofs.YtegpfgccaminkaaGreatDoor.PrsQ
open Go.RowKit Base Base2 UtfA UtfL UrlA PrsP PrsA
def schAt (s : List UInt8) (k : Nat) : Bool := match s[k]? with
 | none => true
 | some c => letter c.toNat || (decide (k ≠ 0) && schC c)
theorem isSch_all (s : List UInt8) : isSch s = (decide (s ≠ []) && (List.range s.length).all (schAt s)) := by
 cases s with
 | nil => rfl
 | cons c r =>
  unfold isSch
  rw [List.length_cons, List.range_succ_eq_map, List.all_cons, List.all_map]
  have h0 : schAt (c :: r) 0 = letter c.toNat := by unfold schAt; simp
  rw [h0]
  simp only [ne_eq, reduceCtorEq, not_false_eq_true, decide_true, Bool.true_and]
  congr 1
  have hr : ∀ k, (schAt (c :: r) ∘ Nat.succ) k = match r[k]? with
    | none => true
    | some d => schC d := by
   intro k
   show schAt (c :: r) (k + 1) = _
   unfold schAt
   rw [List.getElem?_cons_succ]
   cases r[k]? with
   | none => rfl
   | some d =>
    simp only [ne_eq, Nat.add_eq_zero_iff, Nat.one_ne_zero, and_false, not_false_eq_true, decide_true, Bool.true_and]
    unfold schC
    cases letter d.toNat <;> simp
  rw [Bool.eq_iff_iff, List.all_eq_true, List.all_eq_true]
  constructor
  ·intro h k hk
   rw [hr k, List.getElem?_eq_getElem (by simpa using hk)]
   exact h _ (List.getElem_mem _)
  ·intro h d hd
   obtain ⟨k, hk, rfl⟩ := List.getElem_of_mem hd
   have := h k (by simpa using hk)
   rw [hr k, List.getElem?_eq_getElem hk] at this
   exact this
theorem isSch_no (s : List UInt8) (k : Nat) (h : k < s.length) (hb : schAt s k = false) : isSch s = false := by
 rw [isSch_all]
 have : (List.range s.length).all (schAt s) = false := by
  cases e : (List.range s.length).all (schAt s) with
  | false => rfl
  | true =>
   have := List.all_eq_true.1 e k (by simpa using h)
   rw [hb] at this
   cases this
 rw [this, Bool.and_false]
theorem isSch_yes (s : List UInt8) (h : ∀ k, k < s.length → schAt s k = true) : isSch s = decide (s ≠ []) := by
 rw [isSch_all, List.all_eq_true.2 fun k hk => h k (by simpa using hk), Bool.and_true]
theorem schAt_eq (s : List UInt8) (k : Nat) (h : k < s.length) : schAt s k = (letter s[k].toNat || (decide (k ≠ 0) && schC s[k])) := by
 unfold schAt
 rw [List.getElem?_eq_getElem h]
end Go.Proofs.YtegpfgccaminkaaGreatDoor.PrsQ
namespace Go.Proofs.YtegpfgccaminkaaGreatDoor.PrsB
open Go.RowKit Base Regs Base2 UtfA UtfL UrlA PrsP PrsA PrsQ
set_option maxRecDepth 100000 in
set_option maxHeartbeats 4000000 in
theorem isScheme_any (s : ByteArray) (w : World) (hs : s.size ≤ 1073741824) : Calls Tryz.prog 104 #[.string s] w fun e w' => e = .returned (.bool (isSch s.data.toList)) ∧ w' = w := by
 obtain ⟨V, hV⟩ : ∃ V, V = isSch s.data.toList := ⟨_, rfl⟩
 rw [← hV]
 have HV := hid hV
 clear hV
 have hixx := ix3
 go_enter Tryz.func104, Tryz.ntmps104
 go_wp2
 go_loopw [3] (fun vk wr => ∃ k : Nat, k ≤ s.size ∧ vk = .int .i64 (k : Int) ∧ wr = w ∧ Hid (∀ j, j < k → schAt s.data.toList j = true)) (fun vk _ => s.size - (intOf vk).toNat)
 case atStart => exact ⟨0, Nat.zero_le _, rfl, rfl, fun j h => by omega⟩
 case round =>
  obtain ⟨k, hk, rfl, hwr, HA⟩ := hrel
  subst hwr
  by_cases hlt : k < s.size
  ·obtain ⟨c, hc⟩ : ∃ c, s[k] = c := ⟨_, rfl⟩
   have hkl : k < s.data.toList.length := by rw [dl]; exact hlt
   have hcl : s.data.toList[k] = c := hc
   have hat : schAt s.data.toList k = (letter (c.toNat : Int) || (decide (k ≠ 0) && schC c)) := by rw [schAt_eq _ k hkl, hcl]
   have hno := isSch_no s.data.toList k hkl
   have hlet := fun w => letter_any (c.toNat : Int) w
   have hdig := fun w => digit_any (c.toNat : Int) w
   have hix := fun w => Tryz.strings_IndexByte ⟨#[43, 45, 46]⟩ (c.toNat : Int) w
   have e2 : ((c.toNat : Int)).toNat.toUInt8 = c := by simp
   rw [e2, show (⟨#[43, 45, 46]⟩ : ByteArray).data.toList = [43, 45, 46] from rfl] at hix
   have hi3 := hixx c
   obtain ⟨z, hz⟩ : ∃ z, z = Lib.indexByte [43, 45, 46] c := ⟨_, rfl⟩
   rw [← hz] at hix hi3
   have HNX : Hid (schAt s.data.toList k = true → ∀ j, j < k + 1 → schAt s.data.toList j = true) := by
    intro h j hj
    by_cases hjk : j < k
    ·exact HA.out j hjk
    ·obtain rfl : j = k := by omega
     exact h
   obtain ⟨l, hl⟩ : ∃ l, l = letter (c.toNat : Int) := ⟨_, rfl⟩
   obtain ⟨g, hg⟩ : ∃ l, l = digit (c.toNat : Int) := ⟨_, rfl⟩
   have hsc : schC c = (l || (g || decide (0 ≤ z))) := by unfold schC; rw [hi3, hl, hg]
   rw [← hl] at hlet hat
   rw [← hg] at hdig
   rw [hsc] at hat
   have HL := hid hlet
   have HG := hid hdig
   have HX := hid hix
   have HAT := hid hat
   have HNO := hid hno
   clear hkl hcl hlet hdig hix e2 hi3 hz hl hg hsc hat hno
   cases l with
   | true =>
    have HN : Hid (∀ j, j < k + 1 → schAt s.data.toList j = true) := HNX.out (by rw [HAT.out]; rfl)
    go_wp2_with fail
    refine (HL.out _).mono ?_
    rintro e w2 ⟨rfl, hw2⟩
    subst hw2
    go_wp2
    go_roundw
    case rel => exact ⟨k + 1, by omega, by go_num, by first | rfl | trivial, HN.out⟩
    case measure => simp [intOf]; omega
   | false =>
    by_cases hk0 : k = 0
    ·have HE : Hid (V = false) := by show _ = _; rw [HV.out]; exact HNO.out (by rw [HAT.out, hk0]; rfl)
     have q0 : ((k : Int) == 0) = true := by rw [hk0]; rfl
     clear hk0
     go_wp2_with fail
     refine (HL.out _).mono ?_
     rintro e w2 ⟨rfl, hw2⟩
     subst hw2
     go_wp2
     go_ret
     exact ⟨ret_bool (by rw [HE.out]), rfl⟩
    ·have q0 : ((k : Int) == 0) = false := by rw [beq_eq_false_iff_ne]; omega
     have HAT2 : Hid (schAt s.data.toList k = (g || decide (0 ≤ z))) := by show _ = _; rw [HAT.out, decide_eq_true hk0]; rfl
     clear hk0
     cases g with
     | true =>
      have HN : Hid (∀ j, j < k + 1 → schAt s.data.toList j = true) := HNX.out (by rw [HAT2.out]; rfl)
      go_wp2_with fail
      refine (HL.out _).mono ?_
      rintro e w2 ⟨rfl, hw2⟩
      subst hw2
      go_wp2_with fail
      refine (HG.out _).mono ?_
      rintro e w2 ⟨rfl, hw2⟩
      subst hw2
      go_wp2
      go_roundw
      case rel => exact ⟨k + 1, by omega, by go_num, by first | rfl | trivial, HN.out⟩
      case measure => simp [intOf]; omega
     | false =>
      by_cases hz0 : 0 ≤ z
      ·have HN : Hid (∀ j, j < k + 1 → schAt s.data.toList j = true) := HNX.out (by rw [HAT2.out, decide_eq_true hz0]; rfl)
       have hz1 : ¬ z < 0 := by omega
       go_wp2_with fail
       refine (HL.out _).mono ?_
       rintro e w2 ⟨rfl, hw2⟩
       subst hw2
       go_wp2_with fail
       refine (HG.out _).mono ?_
       rintro e w2 ⟨rfl, hw2⟩
       subst hw2
       go_wp2_with fail
       refine (HX.out _).mono ?_
       rintro e w2 ⟨rfl, hw2⟩
       subst hw2
       go_wp2
       go_roundw
       case rel => exact ⟨k + 1, by omega, by go_num, by first | rfl | trivial, HN.out⟩
       case measure => simp [intOf]; omega
      ·have HE : Hid (V = false) := by show _ = _; rw [HV.out]; exact HNO.out (by rw [HAT2.out, decide_eq_false hz0]; rfl)
       have hz1 : z < 0 := by omega
       go_wp2_with fail
       refine (HL.out _).mono ?_
       rintro e w2 ⟨rfl, hw2⟩
       subst hw2
       go_wp2_with fail
       refine (HG.out _).mono ?_
       rintro e w2 ⟨rfl, hw2⟩
       subst hw2
       go_wp2_with fail
       refine (HX.out _).mono ?_
       rintro e w2 ⟨rfl, hw2⟩
       subst hw2
       go_wp2
       go_ret
       exact ⟨ret_bool (by rw [HE.out]), rfl⟩
  ·obtain rfl : k = s.size := by omega
   have hE : V = decide (s.data.toList ≠ []) := by rw [HV.out]; exact isSch_yes _ fun j hj => HA.out j (by rw [dl] at hj; exact hj)
   by_cases h0 : s.data.toList = []
   ·have HE : Hid (V = false) := by show _ = _; rw [hE]; exact decide_eq_false (fun h => h h0)
    have q0 : (s.toList == []) = true := by rw [Lib.toList_data, h0]; rfl
    have q1 : s.toList = [] := by rw [Lib.toList_data, h0]
    clear hE h0
    go_wp2
    go_ret
    exact ⟨ret_bool (by rw [HE.out]), rfl⟩
   ·have HE : Hid (V = true) := by show _ = _; rw [hE]; exact decide_eq_true h0
    have q0 : (s.toList == []) = false := by rw [Lib.toList_data, beq_eq_false_iff_ne]; exact h0
    have q1 : ¬ s.toList = [] := by rw [Lib.toList_data]; exact h0
    have q2 : s.toList.isEmpty = false := by rw [Lib.toList_data]; simpa using h0
    clear hE h0
    go_wp2
    go_ret
    exact ⟨ret_bool (by rw [HE.out]), rfl⟩
where
 ix3 (c : UInt8) : (decide (c = 43) || (decide (c = 45) || decide (c = 46))) = decide (0 ≤ Lib.indexByte [43, 45, 46] c) := by
  have H : ∀ n : Fin 256, (decide (UInt8.ofNat n.val = 43) || (decide (UInt8.ofNat n.val = 45) || decide (UInt8.ofNat n.val = 46))) = decide (0 ≤ Lib.indexByte [43, 45, 46] (UInt8.ofNat n.val)) := by decide +kernel
  have := H ⟨c.toNat, c.toNat_lt⟩
  simpa using this
end Go.Proofs.YtegpfgccaminkaaGreatDoor.PrsB
namespace Go.Proofs.YtegpfgccaminkaaGreatDoor.PrsC
open Go.RowKit Base Regs Base2 UtfA UtfL UrlA PrsP PrsA PrsQ PrsB Ubx
def Own (w0 w : World) (u : U) (A : Option Addr) (n c : Nat) : Prop := w.ownsRow w0.heap.size 9 1 (.slice A n c) n (u.pth.map Value.string)
theorem Own.pth {w0 w : World} {u : U} {A : Option Addr} {n c : Nat} (h : Own w0 w u A n c) : PthIs w u A n c := by
 obtain ⟨A', c', e, h1, h2, h3⟩ := owns_form h
 cases e
 exact ⟨h3, h1, h2⟩
theorem Own.below {w0 w w' : World} {u : U} {A : Option Addr} {n c : Nat} (h : Own w0 w u A n c) (hb : Below w.heap.size w w') : Own w0 w' u A n c := owns_below h hb
theorem Own.row {w0 w : World} {u : U} {A : Option Addr} {n c g : Nat} (h : Own w0 w u A n c) (hg : g < w0.heap.size) (cs : Array Value) : Own w0 (w.setRow g cs) u A n c := SixC.owns_other (gb := g) h (fun k hk => setRow_other _ _ _ _ hk) hg
theorem Own.base {w0 w1 w : World} {u : U} {A : Option Addr} {n c : Nat} (h : Own w1 w u A n c) (hb : w0.heap.size ≤ w1.heap.size) : Own w0 w u A n c := owns_base h hb
theorem own_nil (w0 w : World) {u : U} (h : u.pth = []) : Own w0 w u none 0 0 := by
 unfold Own
 rw [h]
 exact World.ownsRow_nil _ _ _ _
def AnsO (w : World) (o : Option U) (e : Ending) (w' : World) : Prop := Below w.heap.size w w' ∧ ∃ u A n c ok, e = .returned (.tuple #[.agg (cells u (.slice A n c)), .bool ok]) ∧ Own w w' u A n c ∧ (o = some u ∧ ok = true ∨ o = none ∧ ok = false ∧ u = U0)
end Go.Proofs.YtegpfgccaminkaaGreatDoor.PrsC
namespace Go.Proofs.YtegpfgccaminkaaGreatDoor.HstC
open Go.RowKit Base Base2 UtfL Spl
theorem pow_below {w w' : World} (h : Tab.Pow w) (hb : Below w.heap.size w w') : Tab.Pow w' := Tab.Pow.below h hb
end Go.Proofs.YtegpfgccaminkaaGreatDoor.HstC
