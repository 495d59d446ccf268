/- Texts that belong together: StkG, StkA, Regg, Regw, StkB, PthK, PthL, PrsA, PrsQ. -/
import Derived.Test.YtegpfgccaminkaaGreatDoorUAB
import Derived.Test.YtegpfgccaminkaaGreatDoorUAF
import Derived.Test.YtegpfgccaminkaaGreatDoorUAG
import Derived.Test.YtegpfgccaminkaaGreatDoorUAH
import Derived.BigQuiet
import Derived.Deep.QuietTactic
import Derived.Test.YtegpfgccaminkaaGreatDoorUAA
import Derived.Test.YtegpfgccaminkaaGreatDoorUAE
import Derived.Test.YtegpfgccaminkaaGreatDoorUAC
import Derived.Test.YtegpfgccaminkaaGreatDoorShelf
import Derived.Lib.SliceRun
import Derived.Lib.IndexAny
import Derived.Laws.RangeAny
import Derived.Laws.Runes
import Derived.Deep.LoopGhost
import Derived.WalkMore
import Derived.Lib.SplitLaws
import Derived.Lib.LastIndexByte
set_option linter.unusedSimpArgs false
set_option linter.unusedVariables false
namespace Go.Proofs.YtegpfgccaminkaaGreatDoor.StkG
open Go.RowKit Base Base2 TbK StoG BlobK MaiB
structure SM where
 bytes : Nat
 bcap : Nat
 ucap : Nat
 last : Nat
 tbl : List (Nat × Nat)
 urls : List (Ent Nat)
 U : List Value
 P : List Value
 bl : Nat → List UInt8 × List UInt8
def total (m : SM) : Nat := (m.tbl.map fun p => (m.bl p.2).1.length).sum
def Live (m : SM) (g : Nat) : Prop := (∃ p ∈ m.tbl, p.2 = g) ∨ ∃ e ∈ m.urls, e.x = g
structure Fit (m : SM) : Prop where
 tn : m.tbl.length ≤ m.bcap
 b64 : m.bcap ≤ 64
 un : m.urls.length ≤ m.ucap
 u64 : m.ucap ≤ 64
 sum : total m ≤ m.bytes
 cap : m.bytes ≤ 1048576
 ord : ∀ i j (hi : i < m.tbl.length) (hj : j < m.tbl.length), i < j → m.tbl[i].1 < m.tbl[j].1
 top : ∀ p ∈ m.tbl, 1 ≤ p.1 ∧ p.1 ≤ m.last
abbrev TT : TypeId := 126
abbrev TE : TypeId := 134
abbrev ST : TypeId := 129
abbrev SE : TypeId := 147
def Ks (w w' : World) : Prop := ∀ (k : Nat) (cs : Array Value) (t : TypeId) (m : Nat × Nat), w.heap[k]? = some (Obj.cells cs t m) → t ≠ TT → t ≠ TE → t ≠ ST → t ≠ SE → w'.heap[k]? = some (Obj.cells cs t m)
theorem Ks.trans {a b c : World} (h : Ks a b) (k : Ks b c) : Ks a c := fun i cs t m e h1 h2 h3 h4 => k i cs t m (h i cs t m e h1 h2 h3 h4) h1 h2 h3 h4
theorem Ks.below {w w' : World} (hb : Below w.heap.size w w') : Ks w w' := fun k cs t m h _ _ _ _ => (hb.block k (Array.getElem?_eq_some_iff.1 h).1).trans h
theorem Ks.tab {w w' : World} (h : Kp TT TE w w') : Ks w w' := fun _ _ _ _ e h1 h2 _ _ => h.cells e h1 h2
theorem Ks.sto {w w' : World} (h : Kp ST SE w w') : Ks w w' := fun _ _ _ _ e _ _ h3 h4 => h.cells e h3 h4
theorem Ks.mail {w w' : World} (h : Kept w w') : Ks w w' := fun k cs t m e _ _ _ _ => h k cs t m e
theorem kept_owns {w w' : World} (h : Kept w w') {B n m : Nat} {E : TypeId} {v : Value} {xs : List Value} (ho : w.ownsRow B E n v m xs) : w'.ownsRow B E n v m xs := by
 refine ⟨ho.1, ?_⟩
 rcases ho.2 with h' | ⟨b, cap, cur, rfl, hB, hb, r⟩
 ·exact .inl h'
 ·exact .inr ⟨b, cap, cur, rfl, hB, h _ _ _ _ hb, r⟩
theorem ms_kp {T E t : TypeId} {B : Nat} {w w' : World} {g cap : Nat} {U P : List Value} (h : MS t B w g cap U P) (hk : Kp T E w w') (h1 : t ≠ T) (h2 : t ≠ E) : MS t B w' g cap U P := by
 obtain ⟨cu, cp, s, r, s', r', a, b, c, d⟩ := h
 exact ⟨cu, cp, s, r, s', r', hk.cells a h1 h2, hk _ _ b (fun _ _ => ⟨(fun x => by cases x), (fun x => by cases x)⟩), hk _ _ c (fun _ _ => ⟨(fun x => by cases x), (fun x => by cases x)⟩), d⟩
structure IsK (B gs gt gu gm : Nat) (m : SM) (w : World) : Prop where
 top : w.heap[gs]? = some (.cells #[.int .i64 (m.bytes : Int), .pointer (some ⟨gt, 0, none⟩), .pointer (some ⟨gu, 0, none⟩), .pointer (some ⟨gm, 0, none⟩)] 95 (0, 0))
 tab : IsT TT TE TbK.encP B gt m.bcap m.last m.tbl w
 sto : IsS ST SE TbK.encP B gu m.ucap m.urls w
 mai : MS 132 B w gm m.ucap m.U m.P
 blo : ∀ g, Live m g → BlobK B w g (m.bl g).1 (m.bl g).2
 lo : B ≤ gs
 fit : Fit m
section
variable {B gs gt gu gm : Nat} {m : SM} {w w' : World}
theorem IsK.lt (h : IsK B gs gt gu gm m w) : gs < w.heap.size := (Array.getElem?_eq_some_iff.1 h.top).1
theorem IsK.size (h : IsK B gs gt gu gm m w) : B ≤ w.heap.size := Nat.le_trans h.lo (Nat.le_of_lt h.lt)
theorem IsK.below (h : IsK B gs gt gu gm m w) (hb : Below w.heap.size w w') : IsK B gs gt gu gm m w' :=
 ⟨(hb.block _ h.lt).trans h.top, h.tab.below hb, h.sto.below hb, h.mai.below hb, fun g hg => (h.blo g hg).below hb, h.lo, h.fit⟩
theorem IsK.facts (h : IsK B gs gt gu gm m w) : w.cell? ⟨gs, 0, none⟩ = some (.int .i64 (m.bytes : Int)) ∧ w.cell? ⟨gs, 1, none⟩ = some (.pointer (some ⟨gt, 0, none⟩)) ∧ w.cell? ⟨gs, 2, none⟩ = some (.pointer (some ⟨gu, 0, none⟩)) ∧ w.cell? ⟨gs, 3, none⟩ = some (.pointer (some ⟨gm, 0, none⟩)) :=
 ⟨(cell_of_row w gs 0 _ _ _ h.top).trans rfl, (cell_of_row w gs 1 _ _ _ h.top).trans rfl, (cell_of_row w gs 2 _ _ _ h.top).trans rfl, (cell_of_row w gs 3 _ _ _ h.top).trans rfl⟩
theorem IsK.tab' {m' : SM} (h : IsK B gs gt gu gm m w) (hk : Kp TT TE w w') (ht : IsT TT TE TbK.encP B gt m'.bcap m'.last m'.tbl w') (hb : ∀ g, Live m' g → BlobK B w g (m'.bl g).1 (m'.bl g).2) (hf : Fit m') (e1 : m'.bytes = m.bytes) (e2 : m'.ucap = m.ucap) (e3 : m'.urls = m.urls) (e4 : m'.U = m.U) (e5 : m'.P = m.P) : IsK B gs gt gu gm m' w' :=
 ⟨by rw [e1]; exact hk.cells h.top (by decide) (by decide), ht, by rw [e2, e3]; exact h.sto.kp hk (by decide) (by decide) (by decide) (by decide), by rw [e2, e4, e5]; exact ms_kp h.mai hk (by decide) (by decide), fun g hg => (hb g hg).kp hk (by decide) (by decide) (by decide) (by decide), h.lo, hf⟩
theorem IsK.sto' {m' : SM} (h : IsK B gs gt gu gm m w) (hk : Kp ST SE w w') (hs : IsS ST SE TbK.encP B gu m'.ucap m'.urls w') (hb : ∀ g, Live m' g → BlobK B w g (m'.bl g).1 (m'.bl g).2) (hf : Fit m') (e1 : m'.bytes = m.bytes) (e2 : m'.ucap = m.ucap) (e3 : m'.bcap = m.bcap) (e4 : m'.U = m.U) (e5 : m'.P = m.P) (e6 : m'.last = m.last) (e7 : m'.tbl = m.tbl) : IsK B gs gt gu gm m' w' :=
 ⟨by rw [e1]; exact hk.cells h.top (by decide) (by decide), by rw [e3, e6, e7]; exact h.tab.kp hk (by decide) (by decide) (by decide) (by decide), hs, by rw [e2, e4, e5]; exact ms_kp h.mai hk (by decide) (by decide), fun g hg => (hb g hg).kp hk (by decide) (by decide) (by decide) (by decide), h.lo, hf⟩
theorem ist_kept {l : List (Nat × Nat)} {g r n : Nat} (h : IsT TT TE TbK.encP B g r n l w) (hk : Kept w w') : IsT TT TE TbK.encP B g r n l w' := by
 obtain ⟨v, a, b, c⟩ := h
 exact ⟨v, hk _ _ _ _ a, kept_owns hk b, c⟩
theorem iss_kept {l : List (Ent Nat)} {g r : Nat} (h : IsS ST SE TbK.encP B g r l w) (hk : Kept w w') : IsS ST SE TbK.encP B g r l w' := by
 obtain ⟨v, a, b, c⟩ := h
 exact ⟨v, hk _ _ _ _ a, kept_owns hk b, c⟩
theorem blob_kept {lo g : Nat} {L K : List UInt8} (h : BlobK lo w g L K) (hk : Kept w w') : BlobK lo w' g L K := by
 obtain ⟨v, a, b, c⟩ := h
 exact ⟨v, a, hk _ _ _ _ b, kept_owns hk c⟩
theorem IsK.mai' (h : IsK B gs gt gu gm m w) (hk : Kept w w') (U P : List Value) (hm : MS 132 B w' gm m.ucap U P) : IsK B gs gt gu gm { m with U := U, P := P } w' :=
 ⟨hk _ _ _ _ h.top, ist_kept h.tab hk, iss_kept h.sto hk, hm, fun g hg => blob_kept (h.blo g hg) hk, h.lo, ⟨h.fit.tn, h.fit.b64, h.fit.un, h.fit.u64, h.fit.sum, h.fit.cap, h.fit.ord, h.fit.top⟩⟩
end
theorem idx_at {m : SM} (h : Fit m) {k : Nat} (hk : k < m.tbl.length) : TbK.idx m.tbl ((m.tbl[k].1 : Nat) : Int) = some k := by
 unfold TbK.idx
 rw [List.findIdx?_eq_some_iff_getElem]
 refine ⟨hk, by simp, fun j hj => ?_⟩
 have := h.ord j k (Nat.lt_trans hj hk) hk hj
 simp only [decide_eq_true_eq]
 omega
end Go.Proofs.YtegpfgccaminkaaGreatDoor.StkG
namespace Go.Proofs.YtegpfgccaminkaaGreatDoor.StkA
open Go.RowKit Base Base2 Base3 Regs UtfL BlobA BlobK TbK StoG MaiB StkG
set_option linter.unusedSimpArgs false
set_option linter.unusedVariables false
theorem ist_low {B B' g r n : Nat} {l : List (Nat × Nat)} {w : World} (h : IsT TT TE TbK.encP B g r n l w) (hb : B' ≤ B) : IsT TT TE TbK.encP B' g r n l w := by
 obtain ⟨v, a, b, c⟩ := h
 exact ⟨v, a, owns_base b hb, Nat.le_trans hb c⟩
theorem iss_low {B B' g r : Nat} {l : List (Ent Nat)} {w : World} (h : IsS ST SE TbK.encP B g r l w) (hb : B' ≤ B) : IsS ST SE TbK.encP B' g r l w := by
 obtain ⟨v, a, b, c⟩ := h
 exact ⟨v, a, owns_base b hb, Nat.le_trans hb c⟩
theorem ms_low {t : TypeId} {B B' g cap : Nat} {U P : List Value} {w : World} (h : MS t B w g cap U P) (hb : B' ≤ B) : MS t B' w g cap U P := by
 obtain ⟨cu, cp, s, r, s', r', a, b, c, d, e, f, g⟩ := h
 exact ⟨cu, cp, s, r, s', r', a, b, c, d, Nat.le_trans hb e, Nat.le_trans hb f, Nat.le_trans hb g⟩
def nil0 (n b u : Nat) : SM := ⟨n, b, u, 0, [], [], [], [], fun _ => ([], [])⟩
theorem new_ok (b u n : Nat) (hb1 : 1 ≤ b) (hb2 : b ≤ 64) (hu1 : 1 ≤ u) (hu2 : u ≤ 64) (hn : n ≤ 1048576) (w : World) : Calls Tryz.prog 11 #[.agg #[.int .i64 (b : Int), .int .i64 (u : Int), .int .i64 (n : Int)]] w fun e w' => ∃ gs gt gu gm, e = .returned (.tuple #[.pointer (some ⟨gs, 0, none⟩), .int .i64 0]) ∧ IsK w.heap.size gs gt gu gm (nil0 n b u) w' ∧ Below w.heap.size w w' := by
 have q1 : ¬ (n : Int) < 0 := by omega
 have q2 : ¬ (1048576 : Int) < (n : Int) := by omega
 go_enter Tryz.func11, Tryz.ntmps11
 go_upto_region 1 with (fail)
 generalize hwa : World.alloc w _ = v1
 have h1_ : v1.heap[w.heap.size]? = some (.cells #[.int .i64 (b : Int), .int .i64 (u : Int), .int .i64 (n : Int)] 23 (0, 0)) ∧ Below w.heap.size w v1 := by
  subst hwa
  exact ⟨heap_alloc_new w _, (Below.refl _ _).alloc (Nat.le_refl _) _⟩
 clear hwa
 have X1 := hid h1_.1
 have HB1 := hid h1_.2
 clear h1_
 obtain ⟨c0, c1, c2⟩ := cells3 X1.out
 go_wp2_with fail
 refine (TbB.new_any b hb1 hb2 _).mono ?_
 rintro e w2 ⟨gt, rfl, hT, hb⟩
 have HT2 := hid hT
 have HB2 := hid (bel HB1.out hb)
 have X2 := hid ((hb.block _ (Array.getElem?_eq_some_iff.1 X1.out).1).trans X1.out)
 have HL2 : Hid (w.heap.size ≤ v1.heap.size) := HB1.out.size
 clear hT hb c0 c1 c2 X1
 obtain ⟨c0, c1, c2⟩ := cells3 X2.out
 go_wp2_with fail
 refine (StoB.new_any u hu1 hu2 _).mono ?_
 rintro e w3 ⟨gu, rfl, hS, hb⟩
 have HS3 := hid hS
 have HT3 := hid (HT2.out.below hb)
 have HB3 := hid (bel HB2.out hb)
 have X3 := hid ((hb.block _ (Array.getElem?_eq_some_iff.1 X2.out).1).trans X2.out)
 have HL3 : Hid (w.heap.size ≤ w2.heap.size) := HB2.out.size
 clear hS hb c0 c1 c2 X2 HT2
 obtain ⟨c0, c1, c2⟩ := cells3 X3.out
 go_wp2_with fail
 refine (newS u hu1 hu2 _).mono ?_
 rintro e w4 ⟨gm, rfl, hM, hb⟩
 have HM4 := hid hM
 have HS4 := hid (HS3.out.below hb)
 have HT4 := hid (HT3.out.below hb)
 have HB4 := hid (bel HB3.out hb)
 have X4 := hid ((hb.block _ (Array.getElem?_eq_some_iff.1 X3.out).1).trans X3.out)
 have HL4 : Hid (w.heap.size ≤ w3.heap.size) := HB3.out.size
 clear hM hb c0 c1 c2 X3 HT3 HS3
 obtain ⟨c0, c1, c2⟩ := cells3 X4.out
 go_wp2
 go_ret2
 have hb5 := (Below.refl w4.heap.size w4).alloc (Nat.le_refl _) (.cells #[.int .i64 (n : Int), .pointer (some ⟨gt, 0, none⟩), .pointer (some ⟨gu, 0, none⟩), .pointer (some ⟨gm, 0, none⟩)] 95)
 exact ⟨w4.heap.size, gt, gu, gm, rfl, ⟨heap_alloc_new w4 _, ist_low (HT4.out.below hb5) HL2.out, iss_low (HS4.out.below hb5) HL3.out, ms_low (HM4.out.below hb5) HL4.out, fun g hg => absurd hg (by rintro (⟨p, h, _⟩ | ⟨p, h, _⟩) <;> cases h), HB4.out.size, ⟨Nat.zero_le _, hb2, Nat.zero_le _, hu2, Nat.zero_le _, hn, fun i j hi => absurd hi (Nat.not_lt_zero _), fun p hp => (by cases hp)⟩⟩, bel HB4.out hb5⟩
def part (m : SM) (k : Nat) : Nat := ((m.tbl.take k).map fun p => (m.bl p.2).1.length).sum
theorem part_succ (m : SM) (k : Nat) (h : k < m.tbl.length) : part m (k + 1) = part m k + (m.bl m.tbl[k].2).1.length := by
 unfold part
 rw [List.take_succ_eq_append_getElem h, List.map_append, List.sum_append]
 simp
theorem part_le (m : SM) (k : Nat) : part m k ≤ total m := by
 unfold part total
 rw [← List.take_append_drop k m.tbl, List.map_append, List.sum_append, List.take_append_drop]
 omega
theorem part_all (m : SM) : part m m.tbl.length = total m := by unfold part total; rw [List.take_length]
set_option maxHeartbeats 2000000 in
set_option maxRecDepth 100000 in
theorem bytes_any (B gs gt gu gm : Nat) (m : SM) (w : World) (h : IsK B gs gt gu gm m w) : Calls Tryz.prog 12 #[.pointer (some ⟨gs, 0, none⟩)] w fun e w' => e = .returned (.int .i64 (total m : Int)) ∧ Below w.heap.size w w' := by
 have HK0 := hid h
 obtain ⟨c0, c1, c2, c3⟩ := h.facts
 have hglt := h.lt
 have htn : m.tbl.length ≤ 64 := Nat.le_trans h.fit.tn h.fit.b64
 have htni : (m.tbl.length : Int) ≤ 64 := by omega
 have hcap : total m ≤ 1048576 := Nat.le_trans h.fit.sum h.fit.cap
 clear h
 go_enter Tryz.func12, Tryz.ntmps12
 go_wp2_with fail
 refine (TbC.handles_any B gt m.bcap m.last m.tbl _ HK0.out.tab htn).mono ?_
 rintro e w1 ⟨v, rfl, hown, hb⟩
 have HK1 := hid (HK0.out.below hb)
 obtain ⟨A, cc, rfl, hc, hm, hr⟩ := owns_form hown
 have HR1 := hid hr
 have HB1 := hid hb
 clear hown hr hb c0 c1 c2 c3
 go_wp2
 go_loopw [3, 5, 6, 7, 16] (fun vs _ _ _ vk wr => ∃ k : Nat, k ≤ m.tbl.length ∧ vk = .int .i64 (k : Int) ∧ vs = .int .i64 (part m k : Int) ∧ Hid (IsK B gs gt gu gm m wr) ∧ Hid (Rds wr A m.tbl.length (icells .i64 (TbC.hs m.tbl))) ∧ Below w.heap.size w wr) (fun _ _ _ _ vk _ => m.tbl.length - (intOf vk).toNat)
 case atStart => exact ⟨0, Nat.zero_le _, rfl, rfl, HK1.out, HR1.out, HB1.out⟩
 case round =>
  obtain ⟨k, hk, rfl, rfl, HK, HR, hbel⟩ := hrel
  by_cases hlk : k < m.tbl.length
  ·obtain ⟨c0, c1, c2, c3⟩ := HK.out.facts
   obtain ⟨b, off, rfl, hbl, hcell⟩ := HR.out.spot (by omega)
   have hck := hcell k (by rw [length_icells, TbC.hs_length]; exact hlk)
   have hval : (icells .i64 (TbC.hs m.tbl))[k]'(by rw [length_icells, TbC.hs_length]; exact hlk) = .int .i64 ((m.tbl[k].1 : Nat) : Int) := by simp [icells, TbC.hs]
   rw [hval] at hck
   have hkI : (k : Int) < (m.tbl.length : Int) := by omega
   have HI := hid (idx_at HK.out.fit hlk)
   have HG : Hid (TbB.got m.tbl ((m.tbl[k].1 : Nat) : Int) = .tuple #[.pointer (some ⟨m.tbl[k].2, 0, none⟩), .bool true]) := by
    show _ = _
    unfold TbB.got
    rw [HI.out]
    simp only
    rw [List.getElem?_eq_getElem hlk]
    rfl
   have HBL := hid (HK.out.blo m.tbl[k].2 (.inl ⟨_, List.getElem_mem hlk, rfl⟩))
   have HPS := hid (part_succ m k hlk)
   have HPL := hid (part_le m (k + 1))
   clear hcell hval
   go_wp2_with fail
   refine (TbB.get_any B gt m.bcap m.last m.tbl _ _ HK.out.tab htn).mono ?_
   rw [HG.out]
   rintro e w2 ⟨rfl, hb2⟩
   have HK2 := hid (HK.out.below hb2)
   have HR2 := hid (HR.out.below hb2)
   have HBL2 := hid (HBL.out.below hb2)
   have HB2 := hid (bel hbel hb2)
   clear hb2 HK HR HBL hbel hck c0 c1 c2 c3
   go_wp2_with fail
   refine (BlobB.len_any _ _ _ _ _ HBL2.out.at).mono ?_
   rintro e w3 ⟨rfl, hb3⟩
   have HK3 := hid (HK2.out.below hb3)
   have HR3 := hid (HR2.out.below hb3)
   have HB3 := hid (bel HB2.out hb3)
   clear hb3 HK2 HR2 HBL2 HB2
   have hs1 : (part m k : Int) + ((m.bl m.tbl[k].2).1.length : Int) = (part m (k + 1) : Int) := by rw [HPS.out]; simp
   have hs2 : (part m (k + 1) : Int) ≤ 1048576 := by have := HPL.out; omega
   go_wp2
   go_roundw
   case rel => exact ⟨k + 1, by omega, by go_num, by first | rfl | rw [hs1] | (congr 1), HK3.out, HR3.out, HB3.out⟩
   case measure => simp [intOf]; omega
  ·obtain rfl : k = m.tbl.length := by omega
   rw [part_all]
   go_wp2
   go_ret
   exact ⟨rfl, hbel⟩
theorem bytes_nil (w : World) : Calls Tryz.prog 12 #[.pointer none] w fun e w' => e = .returned (.int .i64 0) ∧ Below w.heap.size w w' := by
 go_enter Tryz.func12, Tryz.ntmps12
 go_wp2
 go_ret
 exact ⟨rfl, Below.refl _ _⟩
end Go.Proofs.YtegpfgccaminkaaGreatDoor.StkA
namespace Go.Proofs.YtegpfgccaminkaaGreatDoor.Regs
open Go.RowKit Base
def did (L : Nat → Bool) (i : Nat) (k : Nat) : Bool := if k = i then true else L k
theorem did_self (L : Nat → Bool) (i : Nat) : did L i i = true := by simp [did]
theorem did_ne (L : Nat → Bool) {i k : Nat} (h : k ≠ i) : did L i k = L k := by simp [did, h]
def Free (R : List Keep) : Prop := ∀ k v w w', (pick R k).says v w → (pick R k).says v w'
theorem free_nil : Free [] := fun _ _ _ _ _ => trivial
theorem free_is {R : List Keep} (u : Value) (h : Free R) : Free (is u :: R) := fun k v w w' hs => match k, hs with
 | 0, hs => hs
 | k + 1, hs => h k v w w' hs
theorem free_any {R : List Keep} (h : Free R) : Free (any :: R) := fun k v w w' hs => match k, hs with
 | 0, _ => trivial
 | k + 1, hs => h k v w w' hs
section
variable {P : Program} {md : Region.Mode} {ops : Array Oper} {Q : Exit → Act → World → Prop}
def StepG (P : Program) (ops : Array Oper) (Q : Exit → Act → World → Prop) (A : (Nat → Value) → Act) (G : (Nat → Bool) → (Nat → Value) → World → Prop) (R : List Keep) (N : List (List Nat)) (i : Nat) (o : Oper) (ns : List Nat) : Prop :=
 ∀ L t w, G L t w → L i = false → (∀ k, L k = true → ∀ j ∈ N.getD k [], L j = true) → (∀ k ∈ ns, L k = true) → Have R t w ns → ∀ K : Act → World → Prop, (∀ v w', (pick R i).says v w' → G (did L i) (upd t i v) w' → K (A (upd t i v)) w') →
  if Region.wanted o (yielded ops (A t).tmps) = true then Oper.wp P o (A t) w K Q else K ((A t).put o.dst undef) w
def StepsG (P : Program) (ops : Array Oper) (Q : Exit → Act → World → Prop) (A : (Nat → Value) → Act) (G : (Nat → Bool) → (Nat → Value) → World → Prop) (R : List Keep) (N : List (List Nat)) : Nat → List Oper → List (List Nat) → Prop
 | _, [], _ => True
 | k, o :: os, ns => StepG P ops Q A G R N k o (ns.headD []) ∧ StepsG P ops Q A G R N (k + 1) os ns.tail
theorem StepsG.at {A : (Nat → Value) → Act} {G : (Nat → Bool) → (Nat → Value) → World → Prop} {R : List Keep} {N : List (List Nat)} : ∀ (os : List Oper) (k : Nat) (ns : List (List Nat)), StepsG P ops Q A G R N k os ns → ∀ j o, os[j]? = some o → StepG P ops Q A G R N (k + j) o (ns.getD j [])
 | [], _, _, _, j, o, h => by simp at h
 | p :: os, k, ns, h, 0, o, e => by
  simp at e
  subst e
  cases ns <;> exact h.1
 | p :: os, k, ns, h, j + 1, o, e => by
  have := StepsG.at os (k + 1) ns.tail h.2 j o (by simpa using e)
  rw [Nat.add_assoc, Nat.add_comm 1 j] at this
  cases ns <;> simpa using this
structure InvG (ops : Array Oper) (G : (Nat → Bool) → (Nat → Value) → World → Prop) (R : List Keep) (ns : List (List Nat)) (listed : Array Bool) (t : Nat → Value) (w : World) : Prop where
 own : G (fun k => listed.getD k false) t w
 size : listed.size = ops.size
 held : ∀ i, listed.getD i false = true → (pick R i).says (t i) w ∧ ∀ k ∈ ns.getD i [], listed.getD k false = true
theorem wpAny_inv {A : (Nat → Value) → Act} {G : (Nat → Bool) → (Nat → Value) → World → Prop} {R : List Keep} {ns : List (List Nat)} (hB : needsB md ops ns = true) (hf : Free R) (steps : StepsG P ops Q A G R ns 0 ops.toList ns)
  (fin : ∀ L t w, G L t w → (∀ k < ops.size, L k = true) → Have R t w (List.range ops.size) → Q .normal (A t) w) :
  ∀ (fuel : Nat) (listed : Array Bool) (t : Nat → Value) (w : World), InvG ops G R ns listed t w → unl ops listed ≤ fuel → wpAny P md ops Q fuel listed (A t) w := by
 have done : ∀ (listed : Array Bool) (t : Nat → Value) (w : World), InvG ops G R ns listed t w → Region.ready md ops listed = [] → Q .normal (A t) w := fun listed t w h hr =>
  fin _ t w h.own (fun k hk => all_listed hB h.size hr (k + 1) k (by omega) hk) (have_of _ fun k hk => (h.held k (all_listed hB h.size hr (k + 1) k (by omega) (by simpa using hk))).1)
 intro fuel
 induction fuel with
 | zero =>
  intro listed t w h hu
  have hr : Region.ready md ops listed = [] := by
   cases e : Region.ready md ops listed with
   | nil => rfl
   | cons i l =>
    have hi : i ∈ Region.ready md ops listed := by rw [e]; simp
    obtain ⟨h0, o, ho, _⟩ := mem_ready.1 hi
    have := countP_set h.size (Array.getElem?_eq_some_iff.1 ho).1 h0
    omega
  exact ⟨hr, done listed t w h hr⟩
 | succ fuel ih =>
  intro listed t w h hu
  refine ⟨done listed t w h, fun i hi => ?_⟩
  obtain ⟨h0, o, ho, hall⟩ := mem_ready.1 hi
  have hlt := (Array.getElem?_eq_some_iff.1 ho).1
  have hneed : ∀ k ∈ ns.getD i [], listed.getD k false = true := fun k hk => by
   obtain ⟨e, he, hb, hk⟩ := (needs_back hB ho).2 k hk
   rcases hk with rfl | hk
   ·exact hall e he hb
   ·exact (h.held e.on (hall e he hb)).2 k hk
  have hst := StepsG.at ops.toList 0 ns steps i o (by simpa using ho)
  rw [Nat.zero_add] at hst
  refine wpOp_step ho fun K hK => hst (fun k => listed.getD k false) t w h.own (by
   show listed.getD i false = false
   rw [getD_of (by rw [h.size]; exact hlt) false true]; exact h0) (fun k hk j hj => (h.held k hk).2 j hj) hneed (have_of _ fun k hk => (h.held k (hneed k hk)).1) K fun v w' hv hg => hK _ _ (ih _ _ _ ⟨?_, by simpa using h.size, fun j hj => ?_⟩ ?_)
  ·have e : (fun k => (listed.setIfInBounds i true).getD k false) = did (fun k => listed.getD k false) i := by
    funext k
    by_cases hk : k = i
    ·subst hk
     rw [did_self]
     simp [Array.getD, h.size, hlt]
    ·rw [did_ne _ hk]
     exact getD_set_ne false (Ne.symm hk)
   rw [e]
   exact hg
  ·by_cases hji : j = i
   ·subst hji
    refine ⟨by simpa [upd] using hv, fun k hk => getD_set_true (hneed k hk)⟩
   ·rw [getD_set_ne false (Ne.symm hji)] at hj
    have := h.held j hj
    refine ⟨by simp only [upd, if_neg hji]; exact hf j _ _ _ this.1, fun k hk => getD_set_true (this.2 k hk)⟩
  ·have := countP_set h.size hlt h0
   omega
theorem wp_region_inv {id : Nat} {a : Act} {w : World} {l : List Oper} (hm : P.follows .mixedOrders = true) (G : (Nat → Bool) → (Nat → Value) → World → Prop) (R : List Keep) (ns : List (List Nat)) (hB : needsB .any l.toArray ns = true) (hf : Free R)
  (beg : ∀ t, G (fun _ => false) t { w with drawn := w.drawn + 1 })
  (steps : StepsG P l.toArray Q (fun t => filled t l 0 a) G R ns 0 l ns)
  (fin : ∀ L t w', G L t w' → (∀ k < l.length, L k = true) → Have R t w' (List.range l.length) → Q .normal (filled t l 0 a) w') : (Code.region id l.toArray true).wp P Q a w := by
 refine wp_region_any hm ?_
 have h := wpAny_inv (P := P) (Q := Q) (md := .any) (ops := l.toArray) (A := fun t => filled t l 0 a) (G := G) (R := R) (ns := ns) hB hf (by simpa using steps) (by simpa using fin) l.length (Array.replicate l.length false) (now l a) { w with drawn := w.drawn + 1 }
  ⟨by
   have e : (fun k => (Array.replicate l.length false).getD k false) = fun _ => false := by
    funext k
    by_cases h : k < l.length <;> simp [Array.getD, h]
   rw [e]
   exact beg _, by simp, fun i hi => by
   by_cases h : i < l.length <;> simp [Array.getD, h] at hi⟩ (by unfold unl; refine Nat.le_trans List.countP_le_length ?_; simp)
 have e : filled (now l a) l 0 a = a := filled_now a l l 0 (fun j => by simp)
 have h' : wpAny P .any l.toArray Q l.length (Array.replicate l.length false) (filled (now l a) l 0 a) { w with drawn := w.drawn + 1 } := h
 rw [e] at h'
 simpa using h'
end
end Go.Proofs.YtegpfgccaminkaaGreatDoor.Regs
namespace Go.Proofs.YtegpfgccaminkaaGreatDoor.Regw
open Go.RowKit Base Regs
structure GW (i : Nat) (w3 : World) (ks : List (Nat × Keep)) (Z : World → Prop) (L : Nat → Bool) (t : Nat → Value) (w : World) : Prop where
 pre : L i = false → Below w3.heap.size w3 w ∧ ∀ p ∈ ks, L p.1 = true → p.2.says (t p.1) w
 post : L i = true → Z w
section
variable {i : Nat} {w3 : World} {ks : List (Nat × Keep)} {Z : World → Prop} {L : Nat → Bool} {t : Nat → Value} {w w' : World}
theorem GW.beg (i : Nat) (w3 : World) (ks : List (Nat × Keep)) (Z : World → Prop) (t : Nat → Value) : GW i w3 ks Z (fun _ => false) t w3.drew :=
 ⟨fun _ => ⟨(Below.refl _ _).drew, fun _ _ h => (by cases h)⟩, fun h => (by cases h)⟩
theorem stab (hz : ∀ w w' : World, Below w.heap.size w w' → Z w → Z w') (j : Nat) (hj : (j == i || ks.any fun p => p.1 == j) = false) {v : Value} (hb : Below w.heap.size w w') (h : GW i w3 ks Z L t w) : GW i w3 ks Z (did L j) (upd t j v) w' := by
 rw [Bool.or_eq_false_iff, beq_eq_false_iff_ne] at hj
 have e : did L j i = L i := did_ne L (Ne.symm hj.1)
 refine ⟨fun hi => ?_, fun hi => hz _ _ hb (h.post (by rw [← e]; exact hi))⟩
 obtain ⟨h1, h2⟩ := h.pre (by rw [← e]; exact hi)
 refine ⟨h1.trans (hb.mono h1.size), fun p hp hl => ?_⟩
 have hne : p.1 ≠ j := fun x => by
  have := List.any_eq_false.1 hj.2 p hp
  simp [x] at this
 rw [did_ne L hne] at hl
 have hu : upd t j v p.1 = t p.1 := by simp [upd, hne]
 rw [hu]
 exact p.2.stays _ _ _ hb (h2 p hp hl)
theorem keep (h : GW i w3 ks Z L t w) (hL : L i = false) (j : Nat) (hj : j ≠ i) {v : Value} (hb : Below w.heap.size w w') (hv : ∀ p ∈ ks, p.1 = j → p.2.says v w') : GW i w3 ks Z (did L j) (upd t j v) w' := by
 have e : did L j i = L i := did_ne L (Ne.symm hj)
 refine ⟨fun hi => ?_, fun hi => by rw [e, hL] at hi; cases hi⟩
 obtain ⟨h1, h2⟩ := h.pre hL
 refine ⟨h1.trans (hb.mono h1.size), fun p hp hl => ?_⟩
 by_cases x : p.1 = j
 ·have hu : upd t j v p.1 = v := by simp [upd, x]
  rw [hu]
  exact hv p hp x
 ·rw [did_ne L x] at hl
  have hu : upd t j v p.1 = t p.1 := by simp [upd, x]
  rw [hu]
  exact p.2.stays _ _ _ hb (h2 p hp hl)
theorem call {v : Value} (hz : Z w') : GW i w3 ks Z (did L i) (upd t i v) w' :=
 ⟨fun hi => (by rw [did_self] at hi; cases hi), fun _ => hz⟩
end
end Go.Proofs.YtegpfgccaminkaaGreatDoor.Regw
namespace Go.Proofs.YtegpfgccaminkaaGreatDoor.StkB
open Go.RowKit Base Base2 Base3 Regs UtfL BlobA BlobK TbK StoG MaiB StkG
set_option linter.unusedSimpArgs false
set_option linter.unusedVariables false
open Go.Proofs.YtegpfgccaminkaaGreatDoor.Regw (GW)
def bkeep (lo : Nat) (L K : List UInt8) : Keep := ⟨fun v w => ∃ g, v = .pointer (some ⟨g, 0, none⟩) ∧ lo ≤ g ∧ BlobK lo w g L K, fun _ _ _ hb ⟨g, h1, h2, h3⟩ => ⟨g, h1, h2, h3.below hb⟩⟩
def more (m : SM) (g : Nat) (L K : List UInt8) : SM := { m with last := m.last + 1, tbl := m.tbl ++ [(m.last + 1, g)], bl := fun k => if k = g then (L, K) else m.bl k }
theorem more_same (m : SM) (g : Nat) (L K : List UInt8) {k : Nat} (h : Live m k) (hg : ¬ Live m g) : (if k = g then (L, K) else m.bl k) = m.bl k := if_neg (fun e : k = g => hg (by rw [← e]; exact h))
theorem total_more (m : SM) (g : Nat) (L K : List UInt8) (hg : ¬ Live m g) : total (more m g L K) = total m + L.length := by
 unfold total more
 simp only [List.map_append, List.sum_append, List.map_cons, List.map_nil, List.sum_cons, List.sum_nil, if_true]
 have : (m.tbl.map fun p => (if p.2 = g then (L, K) else m.bl p.2).1.length) = m.tbl.map fun p => (m.bl p.2).1.length := List.map_congr_left fun p hp => by rw [more_same m g L K (.inl ⟨p, hp, rfl⟩) hg]
 rw [this]
 omega
theorem fit_more {m : SM} (h : Fit m) (g : Nat) (L K : List UInt8) (hg : ¬ Live m g) (hr : m.tbl.length < m.bcap) (hq : total m + L.length ≤ m.bytes) : Fit (more m g L K) where
 tn := by show (m.tbl ++ [(m.last + 1, g)]).length ≤ m.bcap; simp; omega
 b64 := h.b64
 un := h.un
 u64 := h.u64
 sum := by rw [total_more m g L K hg]; exact hq
 cap := h.cap
 ord := by
  have key : ∀ i j (hi : i < (m.tbl ++ [(m.last + 1, g)]).length) (hj : j < (m.tbl ++ [(m.last + 1, g)]).length), i < j → ((m.tbl ++ [(m.last + 1, g)])[i]).1 < ((m.tbl ++ [(m.last + 1, g)])[j]).1 := fun i j hi hj hij => by
   have hj' := hj
   simp only [List.length_append, List.length_cons, List.length_nil] at hj'
   rw [List.getElem_append_left (by omega)]
   by_cases e : j < m.tbl.length
   ·rw [List.getElem_append_left e]; exact h.ord i j (by omega) e hij
   ·rw [List.getElem_append_right (by omega)]
    have := (h.top _ (List.getElem_mem (show i < m.tbl.length by omega))).2
    simp only [List.getElem_singleton]
    omega
  exact key
 top := fun p hp => by
  have hp' : p ∈ m.tbl ++ [(m.last + 1, g)] := hp
  rw [List.mem_append] at hp'
  rcases hp' with hp' | hp'
  ·have := h.top p hp'; exact ⟨this.1, Nat.le_succ_of_le this.2⟩
  ·rw [List.mem_singleton] at hp'
   rw [hp']
   exact ⟨Nat.succ_le_succ (Nat.zero_le _), Nat.le_refl _⟩
theorem live_more {m : SM} {g : Nat} {L K : List UInt8} {k : Nat} (h : Live (more m g L K) k) : k = g ∨ Live m k := by
 rcases h with ⟨p, hp, rfl⟩ | h
 ·have hp' : p ∈ m.tbl ++ [(m.last + 1, g)] := hp
  rw [List.mem_append] at hp'
  rcases hp' with hp' | hp'
  ·exact .inr (.inl ⟨p, hp', rfl⟩)
  ·rw [List.mem_singleton] at hp'
   rw [hp']
   exact .inl rfl
 ·exact .inr (.inr h)
theorem IsK.live_lt {B gs gt gu gm : Nat} {m : SM} {w : World} (h : IsK B gs gt gu gm m w) {g : Nat} (hg : Live m g) : g < w.heap.size := (h.blo g hg).lt
theorem blobs_more {B gs gt gu gm : Nat} {m : SM} {wq : World} (h : IsK B gs gt gu gm m wq) {lo g : Nat} {L K : List UInt8} (hB : B ≤ lo) (hb : BlobK lo wq g L K) (hg : ¬ Live m g) : ∀ k, Live (more m g L K) k → BlobK B wq k ((more m g L K).bl k).1 ((more m g L K).bl k).2 := fun k hk => by
 show BlobK B wq k (if k = g then (L, K) else m.bl k).1 (if k = g then (L, K) else m.bl k).2
 rcases live_more hk with rfl | hk
 ·rw [if_pos rfl]; exact hb.low hB
 ·rw [more_same m g L K hk hg]; exact h.blo k hk
set_option maxRecDepth 100000 in
set_option maxHeartbeats 4000000 in
theorem create_ok (B gs gt gu gm : Nat) (m : SM) (A : Option Addr) (n cap : Nat) (L0 : List UInt8) (s : ByteArray) (w : World) (h : IsK B gs gt gu gm m w) (hR : Rds w A n (bcells L0)) (hn : n ≤ 100000000) (hs : s.size ≤ maxLen) (hq : total m + n ≤ m.bytes) (hr : m.tbl.length < m.bcap) (hl : m.last ≤ 100000) :
  Calls Tryz.prog 13 #[.pointer (some ⟨gs, 0, none⟩), .slice A n cap, .string s] w fun e w' => ∃ g, e = .returned (.tuple #[.int .i64 ((m.last : Int) + 1), .int .i64 0]) ∧ w.heap.size ≤ g ∧ IsK B gs gt gu gm (more m g L0 (kd s.data.toList)) w' ∧ Below B w w' ∧ Ks w w' := by
 have HBW : Hid (B ≤ w.heap.size) := h.size
 have HK0 := hid h
 have HR0 := hid hR
 obtain ⟨c0, c1, c2, c3⟩ := h.facts
 have HLT : Hid (gs < w.heap.size) := h.lt
 have hcap : total m ≤ 1048576 := Nat.le_trans h.fit.sum h.fit.cap
 have HQ : Hid (decide ((m.bytes : Int) < (total m : Int) + (n : Int)) = false) := by show _ = _; first | (rw [decide_eq_true]; omega) | (rw [decide_eq_false]; omega)
 clear h hR
 go_enter Tryz.func13, Tryz.ntmps13
 go_upto_region 3 with (fail)
 refine wp_region_rel (by kernel_rfl) [is (.pointer (some ⟨gs, 0, none⟩)), is (.int .i64 (total m : Int)), is (.slice A n cap), is (.int .i64 (n : Int)), is (.int .i64 ((total m : Int) + (n : Int))), is (.pointer (some ⟨gs, 0, none⟩)), is (.pointer (some ⟨gs, 0, none⟩)), is (.pointer (some ⟨gs, 0, none⟩)), is (.int .i64 (m.bytes : Int)), is (.bool (decide ((m.bytes : Int) < (total m : Int) + (n : Int))))] [[], [0], [], [2], [1, 3], [], [5], [6], [7], [4, 8]] (by kernel_rfl) ?_ ?_
 ·refine ⟨?_, ?_, ?_, ?_, ?_, ?_, ?_, ?_, ?_, ?_, trivial⟩
  ·intro t wq hbq hh K hK
   clear hh
   simp only [filled, upd, Have, is, any, row, pick, Act.put, List.setIfInBounds_toArray, List.set_cons_zero, List.set_cons_succ, Nat.reduceAdd, Nat.reduceEqDiff, reduceIte] at hK ⊢
   go_simp
   exact hK _ _ (Below.refl _ _) rfl
  ·intro t wq hbq hh K hK
   have e0 := hh.1
   simp only [pick] at e0
   replace e0 : t 0 = (.pointer (some ⟨gs, 0, none⟩)) := e0
   clear hh
   simp only [filled, upd, Have, is, any, row, pick, Act.put, List.setIfInBounds_toArray, List.set_cons_zero, List.set_cons_succ, Nat.reduceAdd, Nat.reduceEqDiff, reduceIte] at hK ⊢
   simp only [e0] at hK ⊢
   go_simp
   refine (StkA.bytes_any B gs gt gu gm m _ (HK0.out.below hbq)).mono ?_
   rintro e w9 ⟨rfl, hb9⟩
   exact hK _ _ hb9 rfl
  ·intro t wq hbq hh K hK
   clear hh
   simp only [filled, upd, Have, is, any, row, pick, Act.put, List.setIfInBounds_toArray, List.set_cons_zero, List.set_cons_succ, Nat.reduceAdd, Nat.reduceEqDiff, reduceIte] at hK ⊢
   go_simp
   exact hK _ _ (Below.refl _ _) rfl
  ·intro t wq hbq hh K hK
   have e2 := hh.1
   simp only [pick] at e2
   replace e2 : t 2 = (.slice A n cap) := e2
   clear hh
   simp only [filled, upd, Have, is, any, row, pick, Act.put, List.setIfInBounds_toArray, List.set_cons_zero, List.set_cons_succ, Nat.reduceAdd, Nat.reduceEqDiff, reduceIte] at hK ⊢
   simp only [e2] at hK ⊢
   go_simp
   exact hK _ _ (Below.refl _ _) rfl
  ·intro t wq hbq hh K hK
   have e1 := hh.1
   simp only [pick] at e1
   replace e1 : t 1 = (.int .i64 (total m : Int)) := e1
   have e3 := hh.2.1
   simp only [pick] at e3
   replace e3 : t 3 = (.int .i64 (n : Int)) := e3
   clear hh
   simp only [filled, upd, Have, is, any, row, pick, Act.put, List.setIfInBounds_toArray, List.set_cons_zero, List.set_cons_succ, Nat.reduceAdd, Nat.reduceEqDiff, reduceIte] at hK ⊢
   simp only [e1, e3] at hK ⊢
   go_simp
   first | exact hK _ _ (Below.refl _ _) rfl | exact hK _ _ (Below.refl _ _) (int_wrap (by omega) (by omega))
  ·intro t wq hbq hh K hK
   clear hh
   simp only [filled, upd, Have, is, any, row, pick, Act.put, List.setIfInBounds_toArray, List.set_cons_zero, List.set_cons_succ, Nat.reduceAdd, Nat.reduceEqDiff, reduceIte] at hK ⊢
   go_simp
   exact hK _ _ (Below.refl _ _) rfl
  ·intro t wq hbq hh K hK
   have e5 := hh.1
   simp only [pick] at e5
   replace e5 : t 5 = (.pointer (some ⟨gs, 0, none⟩)) := e5
   clear hh
   simp only [filled, upd, Have, is, any, row, pick, Act.put, List.setIfInBounds_toArray, List.set_cons_zero, List.set_cons_succ, Nat.reduceAdd, Nat.reduceEqDiff, reduceIte] at hK ⊢
   simp only [e5] at hK ⊢
   go_simp
   exact hK _ _ (Below.refl _ _) rfl
  ·intro t wq hbq hh K hK
   have e6 := hh.1
   simp only [pick] at e6
   replace e6 : t 6 = (.pointer (some ⟨gs, 0, none⟩)) := e6
   clear hh
   simp only [filled, upd, Have, is, any, row, pick, Act.put, List.setIfInBounds_toArray, List.set_cons_zero, List.set_cons_succ, Nat.reduceAdd, Nat.reduceEqDiff, reduceIte] at hK ⊢
   simp only [e6] at hK ⊢
   go_simp
   exact hK _ _ (Below.refl _ _) rfl
  ·intro t wq hbq hh K hK
   have e7 := hh.1
   simp only [pick] at e7
   replace e7 : t 7 = (.pointer (some ⟨gs, 0, none⟩)) := e7
   clear hh
   simp only [filled, upd, Have, is, any, row, pick, Act.put, List.setIfInBounds_toArray, List.set_cons_zero, List.set_cons_succ, Nat.reduceAdd, Nat.reduceEqDiff, reduceIte] at hK ⊢
   simp only [e7] at hK ⊢
   have hq := (hbq.cell (p := ⟨gs, 0, none⟩) HLT.out).trans c0
   go_simp
   exact hK _ _ (Below.refl _ _) rfl
  ·intro t wq hbq hh K hK
   have e4 := hh.1
   simp only [pick] at e4
   replace e4 : t 4 = (.int .i64 ((total m : Int) + (n : Int))) := e4
   have e8 := hh.2.1
   simp only [pick] at e8
   replace e8 : t 8 = (.int .i64 (m.bytes : Int)) := e8
   clear hh
   simp only [filled, upd, Have, is, any, row, pick, Act.put, List.setIfInBounds_toArray, List.set_cons_zero, List.set_cons_succ, Nat.reduceAdd, Nat.reduceEqDiff, reduceIte] at hK ⊢
   simp only [e4, e8] at hK ⊢
   go_simp
   go_simp
   exact hK _ _ (Below.refl _ _) rfl
 ·intro t wq hbq hh
  have f9 := have_get hh 9 (by decide)
  simp only [pick] at f9
  replace f9 : t 9 = (.bool (decide ((m.bytes : Int) < (total m : Int) + (n : Int)))) := f9
  clear hh
  simp only [filled, upd, Have, is, any, row, pick, Act.put, List.setIfInBounds_toArray, List.set_cons_zero, List.set_cons_succ, Nat.reduceAdd, Nat.reduceEqDiff, reduceIte]
  simp only [f9]
  rw [HQ.out]
  have HK3 := hid (HK0.out.below hbq)
  have HR3 := hid (HR0.out.below hbq)
  have HB3 := hid hbq
  have HLT3 : Hid (gs < wq.heap.size) := HK3.out.lt
  clear hbq c0 c1 c2 c3 HK0 HR0 HLT
  obtain ⟨c0, c1, c2, c3⟩ := HK3.out.facts
  clear c0 c2 c3
  have HNL : Hid (L0.length = n) := by show _ = _; rw [← length_bcells]; exact HR3.out.1
  generalize hw3 : wq = w3 at HK3 HR3 HB3 HLT3 c1 ⊢
  clear hw3 hcap HQ
  skip
  go_upto_region 5 with (fail)
  have HZ : Hid (∀ a b : World, Below a.heap.size a b → (∃ g, w3.heap.size ≤ g ∧ IsK B gs gt gu gm (more m g L0 (kd s.data.toList)) a ∧ Below B w a ∧ Ks w a) → (∃ g, w3.heap.size ≤ g ∧ IsK B gs gt gu gm (more m g L0 (kd s.data.toList)) b ∧ Below B w b ∧ Ks w b)) := fun a b hb hz => by
   obtain ⟨g, z1, z2, z3, z4⟩ := hz
   exact ⟨g, z1, z2.below hb, z3.trans (hb.mono z2.size), z4.trans (Ks.below hb)⟩
  refine wp_region_inv (by kernel_rfl) (GW 7 w3 [(6, bkeep w3.heap.size L0 (kd s.data.toList))] fun wr => ∃ g, w3.heap.size ≤ g ∧ IsK B gs gt gu gm (more m g L0 (kd s.data.toList)) wr ∧ Below B w wr ∧ Ks w wr) [is (.pointer (some ⟨gs, 0, none⟩)), is (.pointer (some ⟨gs, 0, none⟩)), is (.pointer (some ⟨gs, 1, none⟩)), is (.pointer (some ⟨gt, 0, none⟩)), is (.slice A n cap), is (.string s), any, is (.tuple #[.int .i64 ((m.last : Int) + 1), .int .i64 0]), is (.int .i64 ((m.last : Int) + 1)), is (.int .i64 0), is (.int .i64 ((m.last : Int) + 1)), is (.int .i64 0)] [[], [0], [1], [2], [], [], [4, 5], [3, 6], [7], [7], [8], [9]] (by kernel_rfl) (by repeat (first | exact free_nil | refine free_is _ ?_ | refine free_any ?_)) ?_ ?_ ?_
  ·exact fun t => Regw.GW.beg 7 w3 _ _ t
  ·refine ⟨?_, ?_, ?_, ?_, ?_, ?_, ?_, ?_, ?_, ?_, ?_, ?_, trivial⟩
   ·intro L t wq hG hL hC hN hh K hK
    clear hh
    simp only [filled, upd, Have, is, any, row, pick, Act.put, List.setIfInBounds_toArray, List.set_cons_zero, List.set_cons_succ, Nat.reduceAdd, Nat.reduceEqDiff, reduceIte] at hK ⊢
    go_simp
    exact hK _ _ rfl (Regw.stab HZ.out 0 rfl (Below.refl _ _) hG)
   ·intro L t wq hG hL hC hN hh K hK
    have e0 := hh.1
    simp only [pick] at e0
    replace e0 : t 0 = (.pointer (some ⟨gs, 0, none⟩)) := e0
    clear hh
    simp only [filled, upd, Have, is, any, row, pick, Act.put, List.setIfInBounds_toArray, List.set_cons_zero, List.set_cons_succ, Nat.reduceAdd, Nat.reduceEqDiff, reduceIte] at hK ⊢
    simp only [e0] at hK ⊢
    go_simp
    exact hK _ _ rfl (Regw.stab HZ.out 1 rfl (Below.refl _ _) hG)
   ·intro L t wq hG hL hC hN hh K hK
    have e1 := hh.1
    simp only [pick] at e1
    replace e1 : t 1 = (.pointer (some ⟨gs, 0, none⟩)) := e1
    clear hh
    simp only [filled, upd, Have, is, any, row, pick, Act.put, List.setIfInBounds_toArray, List.set_cons_zero, List.set_cons_succ, Nat.reduceAdd, Nat.reduceEqDiff, reduceIte] at hK ⊢
    simp only [e1] at hK ⊢
    go_simp
    exact hK _ _ rfl (Regw.stab HZ.out 2 rfl (Below.refl _ _) hG)
   ·intro L t wq hG hL hC hN hh K hK
    have e2 := hh.1
    simp only [pick] at e2
    replace e2 : t 2 = (.pointer (some ⟨gs, 1, none⟩)) := e2
    clear hh
    simp only [filled, upd, Have, is, any, row, pick, Act.put, List.setIfInBounds_toArray, List.set_cons_zero, List.set_cons_succ, Nat.reduceAdd, Nat.reduceEqDiff, reduceIte] at hK ⊢
    simp only [e2] at hK ⊢
    have h7 : L 7 = false := by
     cases h : L 7 with
     | false => rfl
     | true => exact absurd (hC 7 h 3 (by decide)) (by rw [hL]; simp)
    have hq := ((hG.pre h7).1.cell (p := ⟨gs, 1, none⟩) HLT3.out).trans c1
    go_simp
    exact hK _ _ rfl (Regw.stab HZ.out 3 rfl (Below.refl _ _) hG)
   ·intro L t wq hG hL hC hN hh K hK
    clear hh
    simp only [filled, upd, Have, is, any, row, pick, Act.put, List.setIfInBounds_toArray, List.set_cons_zero, List.set_cons_succ, Nat.reduceAdd, Nat.reduceEqDiff, reduceIte] at hK ⊢
    go_simp
    exact hK _ _ rfl (Regw.stab HZ.out 4 rfl (Below.refl _ _) hG)
   ·intro L t wq hG hL hC hN hh K hK
    clear hh
    simp only [filled, upd, Have, is, any, row, pick, Act.put, List.setIfInBounds_toArray, List.set_cons_zero, List.set_cons_succ, Nat.reduceAdd, Nat.reduceEqDiff, reduceIte] at hK ⊢
    go_simp
    exact hK _ _ rfl (Regw.stab HZ.out 5 rfl (Below.refl _ _) hG)
   ·intro L t wq hG hL hC hN hh K hK
    have e4 := hh.1
    simp only [pick] at e4
    replace e4 : t 4 = (.slice A n cap) := e4
    have e5 := hh.2.1
    simp only [pick] at e5
    replace e5 : t 5 = (.string s) := e5
    clear hh
    simp only [filled, upd, Have, is, any, row, pick, Act.put, List.setIfInBounds_toArray, List.set_cons_zero, List.set_cons_succ, Nat.reduceAdd, Nat.reduceEqDiff, reduceIte] at hK ⊢
    simp only [e4, e5] at hK ⊢
    go_simp
    have h7 : L 7 = false := by
     cases h : L 7 with
     | false => rfl
     | true => exact absurd (hC 7 h 6 (by decide)) (by rw [hL]; simp)
    have hp6 := (hG.pre h7).1
    refine (new_k A n cap L0 s _ (HR3.out.below hp6) (by omega) hs).mono ?_
    rintro e w9 ⟨g, rfl, hg, hk, hb9⟩
    refine hK _ _ trivial (Regw.keep hG h7 6 (by decide) hb9 fun p hp _ => ?_)
    rw [List.mem_singleton] at hp
    subst hp
    exact ⟨g, rfl, Nat.le_trans hp6.size hg, hk.low hp6.size⟩
   ·intro L t wq hG hL hC hN hh K hK
    have e3 := hh.1
    simp only [pick] at e3
    replace e3 : t 3 = (.pointer (some ⟨gt, 0, none⟩)) := e3
    clear hh
    simp only [filled, upd, Have, is, any, row, pick, Act.put, List.setIfInBounds_toArray, List.set_cons_zero, List.set_cons_succ, Nat.reduceAdd, Nat.reduceEqDiff, reduceIte] at hK ⊢
    simp only [e3] at hK ⊢
    obtain ⟨hp7, hq7⟩ := hG.pre hL
    obtain ⟨g, e6, hg, hbk⟩ := hq7 _ (List.mem_singleton.2 rfl) (hN 6 (by decide))
    simp only at e6
    simp only [e6] at hK ⊢
    go_simp
    have HKq := HK3.out.below hp7
    refine (TbB.put_any B gt m.bcap m.last m.tbl g _ HKq.tab hr HKq.fit.b64 hl).mono ?_
    rintro e w6 ⟨rfl, hT, hb, hk⟩
    have hnl : ¬ Live m g := fun hl => by have := IsK.live_lt HK3.out hl; omega
    have hz : ∃ g, w3.heap.size ≤ g ∧ IsK B gs gt gu gm (more m g L0 (kd s.data.toList)) w6 ∧ Below B w w6 ∧ Ks w w6 := ⟨g, hg, IsK.tab' (m' := more m g L0 (kd s.data.toList)) HKq hk hT (blobs_more HKq HK3.out.size hbk hnl) (fit_more HKq.fit g L0 _ hnl hr (by rw [HNL.out]; exact hq)) rfl rfl rfl rfl rfl, (HB3.out.mono HBW.out).trans ((hp7.mono HK3.out.size).trans hb), (Ks.below (bel HB3.out hp7)).trans (Ks.tab hk)⟩
    exact hK _ _ rfl (Regw.call hz)
   ·intro L t wq hG hL hC hN hh K hK
    have e7 := hh.1
    simp only [pick] at e7
    replace e7 : t 7 = (.tuple #[.int .i64 ((m.last : Int) + 1), .int .i64 0]) := e7
    clear hh
    simp only [filled, upd, Have, is, any, row, pick, Act.put, List.setIfInBounds_toArray, List.set_cons_zero, List.set_cons_succ, Nat.reduceAdd, Nat.reduceEqDiff, reduceIte] at hK ⊢
    simp only [e7] at hK ⊢
    go_simp
    exact hK _ _ rfl (Regw.stab HZ.out 8 rfl (Below.refl _ _) hG)
   ·intro L t wq hG hL hC hN hh K hK
    have e7 := hh.1
    simp only [pick] at e7
    replace e7 : t 7 = (.tuple #[.int .i64 ((m.last : Int) + 1), .int .i64 0]) := e7
    clear hh
    simp only [filled, upd, Have, is, any, row, pick, Act.put, List.setIfInBounds_toArray, List.set_cons_zero, List.set_cons_succ, Nat.reduceAdd, Nat.reduceEqDiff, reduceIte] at hK ⊢
    simp only [e7] at hK ⊢
    go_simp
    exact hK _ _ rfl (Regw.stab HZ.out 9 rfl (Below.refl _ _) hG)
   ·intro L t wq hG hL hC hN hh K hK
    have e8 := hh.1
    simp only [pick] at e8
    replace e8 : t 8 = (.int .i64 ((m.last : Int) + 1)) := e8
    clear hh
    simp only [filled, upd, Have, is, any, row, pick, Act.put, List.setIfInBounds_toArray, List.set_cons_zero, List.set_cons_succ, Nat.reduceAdd, Nat.reduceEqDiff, reduceIte] at hK ⊢
    simp only [e8] at hK ⊢
    go_simp
    exact hK _ _ rfl (Regw.stab HZ.out 10 rfl (Below.refl _ _) hG)
   ·intro L t wq hG hL hC hN hh K hK
    have e9 := hh.1
    simp only [pick] at e9
    replace e9 : t 9 = (.int .i64 0) := e9
    clear hh
    simp only [filled, upd, Have, is, any, row, pick, Act.put, List.setIfInBounds_toArray, List.set_cons_zero, List.set_cons_succ, Nat.reduceAdd, Nat.reduceEqDiff, reduceIte] at hK ⊢
    simp only [e9] at hK ⊢
    go_simp
    exact hK _ _ rfl (Regw.stab HZ.out 11 rfl (Below.refl _ _) hG)
  ·intro Lz t wq hG hall hh
   have f10 := have_get hh 10 (by decide)
   simp only [pick] at f10
   replace f10 : t 10 = (.int .i64 ((m.last : Int) + 1)) := f10
   have f11 := have_get hh 11 (by decide)
   simp only [pick] at f11
   replace f11 : t 11 = (.int .i64 0) := f11
   clear hh
   simp only [filled, upd, Have, is, any, row, pick, Act.put, List.setIfInBounds_toArray, List.set_cons_zero, List.set_cons_succ, Nat.reduceAdd, Nat.reduceEqDiff, reduceIte]
   simp only [f10, f11]
   obtain ⟨g, z1, z2, z3, z4⟩ := hG.post (hall 7 (by decide))
   have Z1 := hid z1
   have Z2 := hid z2
   have Z3 := hid z3
   have Z4 := hid z4
   have HS3 : Hid (w.heap.size ≤ w3.heap.size) := HB3.out.size
   clear hG hall z1 z2 z3 z4 c1
   go_wp2
   go_ret2
   exact ⟨g, rfl, Nat.le_trans HS3.out Z1.out, Z2.out, Z3.out, Z4.out⟩
theorem live_erase {m : SM} {k g : Nat} (h : Live { m with tbl := m.tbl.eraseIdx k } g) : Live m g := by
 rcases h with ⟨p, hp, rfl⟩ | h
 ·exact .inl ⟨p, List.mem_of_mem_eraseIdx hp, rfl⟩
 ·exact .inr h
theorem total_erase (m : SM) (k : Nat) (h : k < m.tbl.length) : total { m with tbl := m.tbl.eraseIdx k } + (m.bl m.tbl[k].2).1.length = total m := by
 unfold total
 simp only
 rw [List.eraseIdx_eq_take_drop_succ, List.map_append, List.sum_append]
 conv => rhs; rw [← List.take_append_drop k m.tbl, List.drop_eq_getElem_cons h, List.map_append, List.map_cons, List.sum_append, List.sum_cons]
 omega
theorem fit_erase {m : SM} (h : Fit m) (k : Nat) (hk : k < m.tbl.length) : Fit { m with tbl := m.tbl.eraseIdx k } where
 tn := by show (m.tbl.eraseIdx k).length ≤ m.bcap; rw [List.length_eraseIdx, if_pos hk]; have := h.tn; omega
 b64 := h.b64
 un := h.un
 u64 := h.u64
 sum := by have := total_erase m k hk; have := h.sum; show total { m with tbl := m.tbl.eraseIdx k } ≤ m.bytes; omega
 cap := h.cap
 ord := by
  have key : ∀ i j (hi : i < (m.tbl.eraseIdx k).length) (hj : j < (m.tbl.eraseIdx k).length), i < j → ((m.tbl.eraseIdx k)[i]).1 < ((m.tbl.eraseIdx k)[j]).1 := fun i j hi hj hij => by
   have hi' := hi
   have hj' := hj
   rw [List.length_eraseIdx, if_pos hk] at hi' hj'
   rw [List.getElem_eraseIdx, List.getElem_eraseIdx]
   split <;> split
   ·exact h.ord i j _ _ hij
   ·exact h.ord i (j + 1) _ _ (by omega)
   ·omega
   ·exact h.ord (i + 1) (j + 1) _ _ (by omega)
  exact key
 top := fun p hp => h.top p (List.mem_of_mem_eraseIdx hp)
theorem forget_yes (B gs gt gu gm : Nat) (m : SM) (hd : Int) (k : Nat) (w : World) (h : IsK B gs gt gu gm m w) (hi : TbK.idx m.tbl hd = some k) :
  Calls Tryz.prog 14 #[.pointer (some ⟨gs, 0, none⟩), .int .i64 hd] w fun e w' => e = .returned (.bool true) ∧ IsK B gs gt gu gm { m with tbl := m.tbl.eraseIdx k } w' ∧ Below B w w' ∧ Ks w w' := by
 have HK0 := hid h
 obtain ⟨hk, _⟩ := TbK.idx_some hi
 have HG : Hid (TbB.got m.tbl hd = .tuple #[.pointer (some ⟨m.tbl[k].2, 0, none⟩), .bool true]) := by
  show _ = _
  unfold TbB.got
  rw [hi]
  simp only
  rw [List.getElem?_eq_getElem hk]
  rfl
 have HGN : Hid (TbB.gone m.tbl hd = m.tbl.eraseIdx k) := by show _ = _; unfold TbB.gone; rw [hi]
 obtain ⟨c0, c1, c2, c3⟩ := h.facts
 have hlt := h.lt
 clear h hi
 go_enter Tryz.func14, Tryz.ntmps14
 go_wp2_with fail
 refine (TbB.del_any B gt m.bcap m.last m.tbl hd _ HK0.out.tab (Nat.le_trans HK0.out.fit.tn HK0.out.fit.b64)).mono ?_
 rw [HG.out, HGN.out]
 rintro e w1 ⟨rfl, hT, hb, hkp⟩
 have HF : Hid (IsK B gs gt gu gm { m with tbl := m.tbl.eraseIdx k } w1) := IsK.tab' (m' := { m with tbl := m.tbl.eraseIdx k }) HK0.out hkp hT (fun g hg => HK0.out.blo g (live_erase hg)) (fit_erase HK0.out.fit k hk) rfl rfl rfl rfl rfl
 have HB1 := hid hb
 have HKS := hid (Ks.tab hkp)
 clear hT hb hkp c0 c1 c2 c3
 go_wp2
 go_ret
 exact ⟨rfl, HF.out, HB1.out, HKS.out⟩
theorem forget_no (B gs gt gu gm : Nat) (m : SM) (hd : Int) (w : World) (h : IsK B gs gt gu gm m w) (hi : TbK.idx m.tbl hd = none) :
  Calls Tryz.prog 14 #[.pointer (some ⟨gs, 0, none⟩), .int .i64 hd] w fun e w' => e = .returned (.bool false) ∧ IsK B gs gt gu gm m w' ∧ Below B w w' ∧ Ks w w' := by
 have HK0 := hid h
 have HG : Hid (TbB.got m.tbl hd = .tuple #[.pointer none, .bool false]) := by show _ = _; unfold TbB.got; rw [hi]
 have HGN : Hid (TbB.gone m.tbl hd = m.tbl) := by show _ = _; unfold TbB.gone; rw [hi]
 obtain ⟨c0, c1, c2, c3⟩ := h.facts
 have hlt := h.lt
 clear h hi
 go_enter Tryz.func14, Tryz.ntmps14
 go_wp2_with fail
 refine (TbB.del_any B gt m.bcap m.last m.tbl hd _ HK0.out.tab (Nat.le_trans HK0.out.fit.tn HK0.out.fit.b64)).mono ?_
 rw [HG.out, HGN.out]
 rintro e w1 ⟨rfl, hT, hb, hkp⟩
 have HF : Hid (IsK B gs gt gu gm m w1) := IsK.tab' (m' := m) HK0.out hkp hT HK0.out.blo HK0.out.fit rfl rfl rfl rfl rfl
 have HB1 := hid hb
 have HKS := hid (Ks.tab hkp)
 clear hT hb hkp c0 c1 c2 c3
 go_wp2
 go_ret
 exact ⟨rfl, HF.out, HB1.out, HKS.out⟩
theorem forget_nil (hd : Int) (w : World) : Calls Tryz.prog 14 #[.pointer none, .int .i64 hd] w fun e w' => e = .returned (.bool false) ∧ Below w.heap.size w w' := by
 go_enter Tryz.func14, Tryz.ntmps14
 go_wp2
 go_ret
 exact ⟨rfl, Below.refl _ _⟩
theorem create_nil (A : Option Addr) (n cap : Nat) (s : ByteArray) (w : World) : Calls Tryz.prog 13 #[.pointer none, .slice A n cap, .string s] w fun e w' => e = .returned (.tuple #[.int .i64 0, .int .i64 1]) ∧ Below w.heap.size w w' := by
 go_enter Tryz.func13, Tryz.ntmps13
 go_wp2
 go_ret2
 exact ⟨rfl, Below.refl _ _⟩
end Go.Proofs.YtegpfgccaminkaaGreatDoor.StkB
namespace Go.Proofs.YtegpfgccaminkaaGreatDoor.PrsA
open Go.RowKit Base Regs Base2 UtfL UrlA PrsP
theorem dl (s : ByteArray) : s.data.toList.length = s.size := Array.length_toList
end Go.Proofs.YtegpfgccaminkaaGreatDoor.PrsA
namespace Go.Proofs.YtegpfgccaminkaaGreatDoor.PrsQ
open Go.RowKit Base Base2 UtfA UtfL UrlA PrsP PrsA
def schAt (s : List UInt8) (k : Nat) : Bool := match s[k]? with
 | none => true
 | some c => letter c.toNat || (decide (k ≠ 0) && schC c)
theorem isSch_all (s : List UInt8) : isSch s = (decide (s ≠ []) && (List.range s.length).all (schAt s)) := by
 cases s with
 | nil => rfl
 | cons c r =>
  unfold isSch
  rw [List.length_cons, List.range_succ_eq_map, List.all_cons, List.all_map]
  have h0 : schAt (c :: r) 0 = letter c.toNat := by unfold schAt; simp
  rw [h0]
  simp only [ne_eq, reduceCtorEq, not_false_eq_true, decide_true, Bool.true_and]
  congr 1
  have hr : ∀ k, (schAt (c :: r) ∘ Nat.succ) k = match r[k]? with
    | none => true
    | some d => schC d := by
   intro k
   show schAt (c :: r) (k + 1) = _
   unfold schAt
   rw [List.getElem?_cons_succ]
   cases r[k]? with
   | none => rfl
   | some d =>
    simp only [ne_eq, Nat.add_eq_zero_iff, Nat.one_ne_zero, and_false, not_false_eq_true, decide_true, Bool.true_and]
    unfold schC
    cases letter d.toNat <;> simp
  rw [Bool.eq_iff_iff, List.all_eq_true, List.all_eq_true]
  constructor
  ·intro h k hk
   rw [hr k, List.getElem?_eq_getElem (by simpa using hk)]
   exact h _ (List.getElem_mem _)
  ·intro h d hd
   obtain ⟨k, hk, rfl⟩ := List.getElem_of_mem hd
   have := h k (by simpa using hk)
   rw [hr k, List.getElem?_eq_getElem hk] at this
   exact this
theorem isSch_no (s : List UInt8) (k : Nat) (h : k < s.length) (hb : schAt s k = false) : isSch s = false := by
 rw [isSch_all]
 have : (List.range s.length).all (schAt s) = false := by
  cases e : (List.range s.length).all (schAt s) with
  | false => rfl
  | true =>
   have := List.all_eq_true.1 e k (by simpa using h)
   rw [hb] at this
   cases this
 rw [this, Bool.and_false]
theorem isSch_yes (s : List UInt8) (h : ∀ k, k < s.length → schAt s k = true) : isSch s = decide (s ≠ []) := by
 rw [isSch_all, List.all_eq_true.2 fun k hk => h k (by simpa using hk), Bool.and_true]
theorem schAt_eq (s : List UInt8) (k : Nat) (h : k < s.length) : schAt s k = (letter s[k].toNat || (decide (k ≠ 0) && schC s[k])) := by
 unfold schAt
 rw [List.getElem?_eq_getElem h]
end Go.Proofs.YtegpfgccaminkaaGreatDoor.PrsQ
