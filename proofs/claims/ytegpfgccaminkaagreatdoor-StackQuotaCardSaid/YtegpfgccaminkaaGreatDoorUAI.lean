/- Texts that belong together: StkG, StkA, Regg, Regw. -/
import Derived.Test.YtegpfgccaminkaaGreatDoorUAC
import Derived.Test.YtegpfgccaminkaaGreatDoorUAF
import Derived.Test.YtegpfgccaminkaaGreatDoorUAG
import Derived.Test.YtegpfgccaminkaaGreatDoorUAH
import Derived.BigQuiet
import Derived.Deep.QuietTactic
import Derived.Test.YtegpfgccaminkaaGreatDoorUAA
set_option linter.unusedSimpArgs false
set_option linter.unusedVariables false
namespace Go.Proofs.YtegpfgccaminkaaGreatDoor.StkG
open Go.RowKit Base Base2 TbK StoG BlobK MaiB
structure SM where
 bytes : Nat
 bcap : Nat
 ucap : Nat
 last : Nat
 tbl : List (Nat × Nat)
 urls : List (Ent Nat)
 U : List Value
 P : List Value
 bl : Nat → List UInt8 × List UInt8
def total (m : SM) : Nat := (m.tbl.map fun p => (m.bl p.2).1.length).sum
def Live (m : SM) (g : Nat) : Prop := (∃ p ∈ m.tbl, p.2 = g) ∨ ∃ e ∈ m.urls, e.x = g
structure Fit (m : SM) : Prop where
 tn : m.tbl.length ≤ m.bcap
 b64 : m.bcap ≤ 64
 un : m.urls.length ≤ m.ucap
 u64 : m.ucap ≤ 64
 sum : total m ≤ m.bytes
 cap : m.bytes ≤ 1048576
 ord : ∀ i j (hi : i < m.tbl.length) (hj : j < m.tbl.length), i < j → m.tbl[i].1 < m.tbl[j].1
 top : ∀ p ∈ m.tbl, 1 ≤ p.1 ∧ p.1 ≤ m.last
abbrev TT : TypeId := 126
abbrev TE : TypeId := 134
abbrev ST : TypeId := 129
abbrev SE : TypeId := 147
def Ks (w w' : World) : Prop := ∀ (k : Nat) (cs : Array Value) (t : TypeId) (m : Nat × Nat), w.heap[k]? = some (Obj.cells cs t m) → t ≠ TT → t ≠ TE → t ≠ ST → t ≠ SE → w'.heap[k]? = some (Obj.cells cs t m)
theorem Ks.trans {a b c : World} (h : Ks a b) (k : Ks b c) : Ks a c := fun i cs t m e h1 h2 h3 h4 => k i cs t m (h i cs t m e h1 h2 h3 h4) h1 h2 h3 h4
theorem Ks.below {w w' : World} (hb : Below w.heap.size w w') : Ks w w' := fun k cs t m h _ _ _ _ => (hb.block k (Array.getElem?_eq_some_iff.1 h).1).trans h
theorem Ks.tab {w w' : World} (h : Kp TT TE w w') : Ks w w' := fun _ _ _ _ e h1 h2 _ _ => h.cells e h1 h2
theorem Ks.sto {w w' : World} (h : Kp ST SE w w') : Ks w w' := fun _ _ _ _ e _ _ h3 h4 => h.cells e h3 h4
theorem Ks.mail {w w' : World} (h : Kept w w') : Ks w w' := fun k cs t m e _ _ _ _ => h k cs t m e
theorem kept_owns {w w' : World} (h : Kept w w') {B n m : Nat} {E : TypeId} {v : Value} {xs : List Value} (ho : w.ownsRow B E n v m xs) : w'.ownsRow B E n v m xs := by
 refine ⟨ho.1, ?_⟩
 rcases ho.2 with h' | ⟨b, cap, cur, rfl, hB, hb, r⟩
 ·exact .inl h'
 ·exact .inr ⟨b, cap, cur, rfl, hB, h _ _ _ _ hb, r⟩
theorem ms_kp {T E t : TypeId} {B : Nat} {w w' : World} {g cap : Nat} {U P : List Value} (h : MS t B w g cap U P) (hk : Kp T E w w') (h1 : t ≠ T) (h2 : t ≠ E) : MS t B w' g cap U P := by
 obtain ⟨cu, cp, s, r, s', r', a, b, c, d⟩ := h
 exact ⟨cu, cp, s, r, s', r', hk.cells a h1 h2, hk _ _ b (fun _ _ => ⟨(fun x => by cases x), (fun x => by cases x)⟩), hk _ _ c (fun _ _ => ⟨(fun x => by cases x), (fun x => by cases x)⟩), d⟩
structure IsK (B gs gt gu gm : Nat) (m : SM) (w : World) : Prop where
 top : w.heap[gs]? = some (.cells #[.int .i64 (m.bytes : Int), .pointer (some ⟨gt, 0, none⟩), .pointer (some ⟨gu, 0, none⟩), .pointer (some ⟨gm, 0, none⟩)] 95 (0, 0))
 tab : IsT TT TE TbK.encP B gt m.bcap m.last m.tbl w
 sto : IsS ST SE TbK.encP B gu m.ucap m.urls w
 mai : MS 132 B w gm m.ucap m.U m.P
 blo : ∀ g, Live m g → BlobK B w g (m.bl g).1 (m.bl g).2
 lo : B ≤ gs
 fit : Fit m
section
variable {B gs gt gu gm : Nat} {m : SM} {w w' : World}
theorem IsK.lt (h : IsK B gs gt gu gm m w) : gs < w.heap.size := (Array.getElem?_eq_some_iff.1 h.top).1
theorem IsK.size (h : IsK B gs gt gu gm m w) : B ≤ w.heap.size := Nat.le_trans h.lo (Nat.le_of_lt h.lt)
theorem IsK.below (h : IsK B gs gt gu gm m w) (hb : Below w.heap.size w w') : IsK B gs gt gu gm m w' :=
 ⟨(hb.block _ h.lt).trans h.top, h.tab.below hb, h.sto.below hb, h.mai.below hb, fun g hg => (h.blo g hg).below hb, h.lo, h.fit⟩
theorem IsK.facts (h : IsK B gs gt gu gm m w) : w.cell? ⟨gs, 0, none⟩ = some (.int .i64 (m.bytes : Int)) ∧ w.cell? ⟨gs, 1, none⟩ = some (.pointer (some ⟨gt, 0, none⟩)) ∧ w.cell? ⟨gs, 2, none⟩ = some (.pointer (some ⟨gu, 0, none⟩)) ∧ w.cell? ⟨gs, 3, none⟩ = some (.pointer (some ⟨gm, 0, none⟩)) :=
 ⟨(cell_of_row w gs 0 _ _ _ h.top).trans rfl, (cell_of_row w gs 1 _ _ _ h.top).trans rfl, (cell_of_row w gs 2 _ _ _ h.top).trans rfl, (cell_of_row w gs 3 _ _ _ h.top).trans rfl⟩
theorem IsK.tab' {m' : SM} (h : IsK B gs gt gu gm m w) (hk : Kp TT TE w w') (ht : IsT TT TE TbK.encP B gt m'.bcap m'.last m'.tbl w') (hb : ∀ g, Live m' g → BlobK B w g (m'.bl g).1 (m'.bl g).2) (hf : Fit m') (e1 : m'.bytes = m.bytes) (e2 : m'.ucap = m.ucap) (e3 : m'.urls = m.urls) (e4 : m'.U = m.U) (e5 : m'.P = m.P) : IsK B gs gt gu gm m' w' :=
 ⟨by rw [e1]; exact hk.cells h.top (by decide) (by decide), ht, by rw [e2, e3]; exact h.sto.kp hk (by decide) (by decide) (by decide) (by decide), by rw [e2, e4, e5]; exact ms_kp h.mai hk (by decide) (by decide), fun g hg => (hb g hg).kp hk (by decide) (by decide) (by decide) (by decide), h.lo, hf⟩
theorem IsK.sto' {m' : SM} (h : IsK B gs gt gu gm m w) (hk : Kp ST SE w w') (hs : IsS ST SE TbK.encP B gu m'.ucap m'.urls w') (hb : ∀ g, Live m' g → BlobK B w g (m'.bl g).1 (m'.bl g).2) (hf : Fit m') (e1 : m'.bytes = m.bytes) (e2 : m'.ucap = m.ucap) (e3 : m'.bcap = m.bcap) (e4 : m'.U = m.U) (e5 : m'.P = m.P) (e6 : m'.last = m.last) (e7 : m'.tbl = m.tbl) : IsK B gs gt gu gm m' w' :=
 ⟨by rw [e1]; exact hk.cells h.top (by decide) (by decide), by rw [e3, e6, e7]; exact h.tab.kp hk (by decide) (by decide) (by decide) (by decide), hs, by rw [e2, e4, e5]; exact ms_kp h.mai hk (by decide) (by decide), fun g hg => (hb g hg).kp hk (by decide) (by decide) (by decide) (by decide), h.lo, hf⟩
theorem ist_kept {l : List (Nat × Nat)} {g r n : Nat} (h : IsT TT TE TbK.encP B g r n l w) (hk : Kept w w') : IsT TT TE TbK.encP B g r n l w' := by
 obtain ⟨v, a, b, c⟩ := h
 exact ⟨v, hk _ _ _ _ a, kept_owns hk b, c⟩
theorem iss_kept {l : List (Ent Nat)} {g r : Nat} (h : IsS ST SE TbK.encP B g r l w) (hk : Kept w w') : IsS ST SE TbK.encP B g r l w' := by
 obtain ⟨v, a, b, c⟩ := h
 exact ⟨v, hk _ _ _ _ a, kept_owns hk b, c⟩
theorem blob_kept {lo g : Nat} {L K : List UInt8} (h : BlobK lo w g L K) (hk : Kept w w') : BlobK lo w' g L K := by
 obtain ⟨v, a, b, c⟩ := h
 exact ⟨v, a, hk _ _ _ _ b, kept_owns hk c⟩
theorem IsK.mai' (h : IsK B gs gt gu gm m w) (hk : Kept w w') (U P : List Value) (hm : MS 132 B w' gm m.ucap U P) : IsK B gs gt gu gm { m with U := U, P := P } w' :=
 ⟨hk _ _ _ _ h.top, ist_kept h.tab hk, iss_kept h.sto hk, hm, fun g hg => blob_kept (h.blo g hg) hk, h.lo, ⟨h.fit.tn, h.fit.b64, h.fit.un, h.fit.u64, h.fit.sum, h.fit.cap, h.fit.ord, h.fit.top⟩⟩
end
theorem idx_at {m : SM} (h : Fit m) {k : Nat} (hk : k < m.tbl.length) : TbK.idx m.tbl ((m.tbl[k].1 : Nat) : Int) = some k := by
 unfold TbK.idx
 rw [List.findIdx?_eq_some_iff_getElem]
 refine ⟨hk, by simp, fun j hj => ?_⟩
 have := h.ord j k (Nat.lt_trans hj hk) hk hj
 simp only [decide_eq_true_eq]
 omega
end Go.Proofs.YtegpfgccaminkaaGreatDoor.StkG
namespace Go.Proofs.YtegpfgccaminkaaGreatDoor.StkA
open Go.RowKit Base Base2 Base3 Regs UtfL BlobA BlobK TbK StoG MaiB StkG
set_option linter.unusedSimpArgs false
set_option linter.unusedVariables false
theorem ist_low {B B' g r n : Nat} {l : List (Nat × Nat)} {w : World} (h : IsT TT TE TbK.encP B g r n l w) (hb : B' ≤ B) : IsT TT TE TbK.encP B' g r n l w := by
 obtain ⟨v, a, b, c⟩ := h
 exact ⟨v, a, owns_base b hb, Nat.le_trans hb c⟩
theorem iss_low {B B' g r : Nat} {l : List (Ent Nat)} {w : World} (h : IsS ST SE TbK.encP B g r l w) (hb : B' ≤ B) : IsS ST SE TbK.encP B' g r l w := by
 obtain ⟨v, a, b, c⟩ := h
 exact ⟨v, a, owns_base b hb, Nat.le_trans hb c⟩
theorem ms_low {t : TypeId} {B B' g cap : Nat} {U P : List Value} {w : World} (h : MS t B w g cap U P) (hb : B' ≤ B) : MS t B' w g cap U P := by
 obtain ⟨cu, cp, s, r, s', r', a, b, c, d, e, f, g⟩ := h
 exact ⟨cu, cp, s, r, s', r', a, b, c, d, Nat.le_trans hb e, Nat.le_trans hb f, Nat.le_trans hb g⟩
def nil0 (n b u : Nat) : SM := ⟨n, b, u, 0, [], [], [], [], fun _ => ([], [])⟩
theorem new_ok (b u n : Nat) (hb1 : 1 ≤ b) (hb2 : b ≤ 64) (hu1 : 1 ≤ u) (hu2 : u ≤ 64) (hn : n ≤ 1048576) (w : World) : Calls Tryz.prog 11 #[.agg #[.int .i64 (b : Int), .int .i64 (u : Int), .int .i64 (n : Int)]] w fun e w' => ∃ gs gt gu gm, e = .returned (.tuple #[.pointer (some ⟨gs, 0, none⟩), .int .i64 0]) ∧ IsK w.heap.size gs gt gu gm (nil0 n b u) w' ∧ Below w.heap.size w w' := by
 have q1 : ¬ (n : Int) < 0 := by omega
 have q2 : ¬ (1048576 : Int) < (n : Int) := by omega
 go_enter Tryz.func11, Tryz.ntmps11
 go_upto_region 1 with (fail)
 generalize hwa : World.alloc w _ = v1
 have h1_ : v1.heap[w.heap.size]? = some (.cells #[.int .i64 (b : Int), .int .i64 (u : Int), .int .i64 (n : Int)] 23 (0, 0)) ∧ Below w.heap.size w v1 := by
  subst hwa
  exact ⟨heap_alloc_new w _, (Below.refl _ _).alloc (Nat.le_refl _) _⟩
 clear hwa
 have X1 := hid h1_.1
 have HB1 := hid h1_.2
 clear h1_
 obtain ⟨c0, c1, c2⟩ := cells3 X1.out
 go_wp2_with fail
 refine (TbB.new_any b hb1 hb2 _).mono ?_
 rintro e w2 ⟨gt, rfl, hT, hb⟩
 have HT2 := hid hT
 have HB2 := hid (bel HB1.out hb)
 have X2 := hid ((hb.block _ (Array.getElem?_eq_some_iff.1 X1.out).1).trans X1.out)
 have HL2 : Hid (w.heap.size ≤ v1.heap.size) := HB1.out.size
 clear hT hb c0 c1 c2 X1
 obtain ⟨c0, c1, c2⟩ := cells3 X2.out
 go_wp2_with fail
 refine (StoB.new_any u hu1 hu2 _).mono ?_
 rintro e w3 ⟨gu, rfl, hS, hb⟩
 have HS3 := hid hS
 have HT3 := hid (HT2.out.below hb)
 have HB3 := hid (bel HB2.out hb)
 have X3 := hid ((hb.block _ (Array.getElem?_eq_some_iff.1 X2.out).1).trans X2.out)
 have HL3 : Hid (w.heap.size ≤ w2.heap.size) := HB2.out.size
 clear hS hb c0 c1 c2 X2 HT2
 obtain ⟨c0, c1, c2⟩ := cells3 X3.out
 go_wp2_with fail
 refine (newS u hu1 hu2 _).mono ?_
 rintro e w4 ⟨gm, rfl, hM, hb⟩
 have HM4 := hid hM
 have HS4 := hid (HS3.out.below hb)
 have HT4 := hid (HT3.out.below hb)
 have HB4 := hid (bel HB3.out hb)
 have X4 := hid ((hb.block _ (Array.getElem?_eq_some_iff.1 X3.out).1).trans X3.out)
 have HL4 : Hid (w.heap.size ≤ w3.heap.size) := HB3.out.size
 clear hM hb c0 c1 c2 X3 HT3 HS3
 obtain ⟨c0, c1, c2⟩ := cells3 X4.out
 go_wp2
 go_ret2
 have hb5 := (Below.refl w4.heap.size w4).alloc (Nat.le_refl _) (.cells #[.int .i64 (n : Int), .pointer (some ⟨gt, 0, none⟩), .pointer (some ⟨gu, 0, none⟩), .pointer (some ⟨gm, 0, none⟩)] 95)
 exact ⟨w4.heap.size, gt, gu, gm, rfl, ⟨heap_alloc_new w4 _, ist_low (HT4.out.below hb5) HL2.out, iss_low (HS4.out.below hb5) HL3.out, ms_low (HM4.out.below hb5) HL4.out, fun g hg => absurd hg (by rintro (⟨p, h, _⟩ | ⟨p, h, _⟩) <;> cases h), HB4.out.size, ⟨Nat.zero_le _, hb2, Nat.zero_le _, hu2, Nat.zero_le _, hn, fun i j hi => absurd hi (Nat.not_lt_zero _), fun p hp => (by cases hp)⟩⟩, bel HB4.out hb5⟩
theorem new_bad (b u n : Int) (h : b < 1 ∨ 64 < b ∨ u < 1 ∨ 64 < u ∨ n < 0 ∨ 1048576 < n) (w : World) : Calls Tryz.prog 11 #[.agg #[.int .i64 b, .int .i64 u, .int .i64 n]] w fun e w' => e = .returned (.tuple #[.pointer none, .int .i64 1]) ∧ Below w.heap.size w w' := by
 go_enter Tryz.func11, Tryz.ntmps11
 go_upto_region 1 with (fail)
 generalize hwa : World.alloc w _ = v1
 have h1_ : v1.heap[w.heap.size]? = some (.cells #[.int .i64 b, .int .i64 u, .int .i64 n] 23 (0, 0)) ∧ Below w.heap.size w v1 := by
  subst hwa
  exact ⟨heap_alloc_new w _, (Below.refl _ _).alloc (Nat.le_refl _) _⟩
 clear hwa
 have X1 := hid h1_.1
 have HB1 := hid h1_.2
 clear h1_
 obtain ⟨c0, c1, c2⟩ := cells3 X1.out
 by_cases hb : b < 1 ∨ 64 < b
 ·have HBD := hid hb
  clear h hb
  go_wp2_with fail
  refine (TbC.new_bad b HBD.out _).mono ?_
  rintro e w2 ⟨rfl, hb⟩
  have HB2 := hid (bel HB1.out hb)
  clear hb
  go_wp2
  go_ret2
  exact ⟨rfl, HB2.out⟩
 ·obtain ⟨bn, rfl⟩ : ∃ bn : Nat, b = (bn : Int) := ⟨b.toNat, by omega⟩
  have hb1 : 1 ≤ bn := by omega
  have hb2 : bn ≤ 64 := by omega
  have h2 : u < 1 ∨ 64 < u ∨ n < 0 ∨ 1048576 < n := by omega
  clear h hb
  go_wp2_with fail
  refine (TbB.new_any bn hb1 hb2 _).mono ?_
  rintro e w2 ⟨gt, rfl, _, hb⟩
  have HB2 := hid (bel HB1.out hb)
  have X2 := hid ((hb.block _ (Array.getElem?_eq_some_iff.1 X1.out).1).trans X1.out)
  clear hb c0 c1 c2 X1
  obtain ⟨c0, c1, c2⟩ := cells3 X2.out
  by_cases hu : u < 1 ∨ 64 < u
  ·have HUD := hid hu
   clear h2 hu
   go_wp2_with fail
   refine (StoB.new_bad u HUD.out _).mono ?_
   rintro e w3 ⟨rfl, hb⟩
   have HB3 := hid (bel HB2.out hb)
   clear hb
   go_wp2
   go_ret2
   exact ⟨rfl, HB3.out⟩
  ·obtain ⟨un, rfl⟩ : ∃ un : Nat, u = (un : Int) := ⟨u.toNat, by omega⟩
   have hu1 : 1 ≤ un := by omega
   have hu2 : un ≤ 64 := by omega
   have h3 : n < 0 ∨ (¬ n < 0 ∧ 1048576 < n) := by omega
   clear h2 hu
   go_wp2_with fail
   refine (StoB.new_any un hu1 hu2 _).mono ?_
   rintro e w3 ⟨gu, rfl, _, hb⟩
   have HB3 := hid (bel HB2.out hb)
   have X3 := hid ((hb.block _ (Array.getElem?_eq_some_iff.1 X2.out).1).trans X2.out)
   clear hb c0 c1 c2 X2
   obtain ⟨c0, c1, c2⟩ := cells3 X3.out
   rcases h3 with h4 | ⟨h4, h5⟩
   all_goals
    go_wp2
    go_ret2
    exact ⟨rfl, HB3.out⟩
def part (m : SM) (k : Nat) : Nat := ((m.tbl.take k).map fun p => (m.bl p.2).1.length).sum
theorem part_succ (m : SM) (k : Nat) (h : k < m.tbl.length) : part m (k + 1) = part m k + (m.bl m.tbl[k].2).1.length := by
 unfold part
 rw [List.take_succ_eq_append_getElem h, List.map_append, List.sum_append]
 simp
theorem part_le (m : SM) (k : Nat) : part m k ≤ total m := by
 unfold part total
 rw [← List.take_append_drop k m.tbl, List.map_append, List.sum_append, List.take_append_drop]
 omega
theorem part_all (m : SM) : part m m.tbl.length = total m := by unfold part total; rw [List.take_length]
set_option maxHeartbeats 2000000 in
set_option maxRecDepth 100000 in
theorem bytes_any (B gs gt gu gm : Nat) (m : SM) (w : World) (h : IsK B gs gt gu gm m w) : Calls Tryz.prog 12 #[.pointer (some ⟨gs, 0, none⟩)] w fun e w' => e = .returned (.int .i64 (total m : Int)) ∧ Below w.heap.size w w' := by
 have HK0 := hid h
 obtain ⟨c0, c1, c2, c3⟩ := h.facts
 have hglt := h.lt
 have htn : m.tbl.length ≤ 64 := Nat.le_trans h.fit.tn h.fit.b64
 have htni : (m.tbl.length : Int) ≤ 64 := by omega
 have hcap : total m ≤ 1048576 := Nat.le_trans h.fit.sum h.fit.cap
 clear h
 go_enter Tryz.func12, Tryz.ntmps12
 go_wp2_with fail
 refine (TbC.handles_any B gt m.bcap m.last m.tbl _ HK0.out.tab htn).mono ?_
 rintro e w1 ⟨v, rfl, hown, hb⟩
 have HK1 := hid (HK0.out.below hb)
 obtain ⟨A, cc, rfl, hc, hm, hr⟩ := owns_form hown
 have HR1 := hid hr
 have HB1 := hid hb
 clear hown hr hb c0 c1 c2 c3
 go_wp2
 go_loopw [3, 5, 6, 7, 16] (fun vs _ _ _ vk wr => ∃ k : Nat, k ≤ m.tbl.length ∧ vk = .int .i64 (k : Int) ∧ vs = .int .i64 (part m k : Int) ∧ Hid (IsK B gs gt gu gm m wr) ∧ Hid (Rds wr A m.tbl.length (icells .i64 (TbC.hs m.tbl))) ∧ Below w.heap.size w wr) (fun _ _ _ _ vk _ => m.tbl.length - (intOf vk).toNat)
 case atStart => exact ⟨0, Nat.zero_le _, rfl, rfl, HK1.out, HR1.out, HB1.out⟩
 case round =>
  obtain ⟨k, hk, rfl, rfl, HK, HR, hbel⟩ := hrel
  by_cases hlk : k < m.tbl.length
  ·obtain ⟨c0, c1, c2, c3⟩ := HK.out.facts
   obtain ⟨b, off, rfl, hbl, hcell⟩ := HR.out.spot (by omega)
   have hck := hcell k (by rw [length_icells, TbC.hs_length]; exact hlk)
   have hval : (icells .i64 (TbC.hs m.tbl))[k]'(by rw [length_icells, TbC.hs_length]; exact hlk) = .int .i64 ((m.tbl[k].1 : Nat) : Int) := by simp [icells, TbC.hs]
   rw [hval] at hck
   have hkI : (k : Int) < (m.tbl.length : Int) := by omega
   have HI := hid (idx_at HK.out.fit hlk)
   have HG : Hid (TbB.got m.tbl ((m.tbl[k].1 : Nat) : Int) = .tuple #[.pointer (some ⟨m.tbl[k].2, 0, none⟩), .bool true]) := by
    show _ = _
    unfold TbB.got
    rw [HI.out]
    simp only
    rw [List.getElem?_eq_getElem hlk]
    rfl
   have HBL := hid (HK.out.blo m.tbl[k].2 (.inl ⟨_, List.getElem_mem hlk, rfl⟩))
   have HPS := hid (part_succ m k hlk)
   have HPL := hid (part_le m (k + 1))
   clear hcell hval
   go_wp2_with fail
   refine (TbB.get_any B gt m.bcap m.last m.tbl _ _ HK.out.tab htn).mono ?_
   rw [HG.out]
   rintro e w2 ⟨rfl, hb2⟩
   have HK2 := hid (HK.out.below hb2)
   have HR2 := hid (HR.out.below hb2)
   have HBL2 := hid (HBL.out.below hb2)
   have HB2 := hid (bel hbel hb2)
   clear hb2 HK HR HBL hbel hck c0 c1 c2 c3
   go_wp2_with fail
   refine (BlobB.len_any _ _ _ _ _ HBL2.out.at).mono ?_
   rintro e w3 ⟨rfl, hb3⟩
   have HK3 := hid (HK2.out.below hb3)
   have HR3 := hid (HR2.out.below hb3)
   have HB3 := hid (bel HB2.out hb3)
   clear hb3 HK2 HR2 HBL2 HB2
   have hs1 : (part m k : Int) + ((m.bl m.tbl[k].2).1.length : Int) = (part m (k + 1) : Int) := by rw [HPS.out]; simp
   have hs2 : (part m (k + 1) : Int) ≤ 1048576 := by have := HPL.out; omega
   go_wp2
   go_roundw
   case rel => exact ⟨k + 1, by omega, by go_num, by first | rfl | rw [hs1] | (congr 1), HK3.out, HR3.out, HB3.out⟩
   case measure => simp [intOf]; omega
  ·obtain rfl : k = m.tbl.length := by omega
   rw [part_all]
   go_wp2
   go_ret
   exact ⟨rfl, hbel⟩
theorem bytes_nil (w : World) : Calls Tryz.prog 12 #[.pointer none] w fun e w' => e = .returned (.int .i64 0) ∧ Below w.heap.size w w' := by
 go_enter Tryz.func12, Tryz.ntmps12
 go_wp2
 go_ret
 exact ⟨rfl, Below.refl _ _⟩
end Go.Proofs.YtegpfgccaminkaaGreatDoor.StkA
namespace Go.Proofs.YtegpfgccaminkaaGreatDoor.Regs
open Go.RowKit Base
def did (L : Nat → Bool) (i : Nat) (k : Nat) : Bool := if k = i then true else L k
theorem did_self (L : Nat → Bool) (i : Nat) : did L i i = true := by simp [did]
theorem did_ne (L : Nat → Bool) {i k : Nat} (h : k ≠ i) : did L i k = L k := by simp [did, h]
def Free (R : List Keep) : Prop := ∀ k v w w', (pick R k).says v w → (pick R k).says v w'
theorem free_nil : Free [] := fun _ _ _ _ _ => trivial
theorem free_is {R : List Keep} (u : Value) (h : Free R) : Free (is u :: R) := fun k v w w' hs => match k, hs with
 | 0, hs => hs
 | k + 1, hs => h k v w w' hs
theorem free_any {R : List Keep} (h : Free R) : Free (any :: R) := fun k v w w' hs => match k, hs with
 | 0, _ => trivial
 | k + 1, hs => h k v w w' hs
section
variable {P : Program} {md : Region.Mode} {ops : Array Oper} {Q : Exit → Act → World → Prop}
def StepG (P : Program) (ops : Array Oper) (Q : Exit → Act → World → Prop) (A : (Nat → Value) → Act) (G : (Nat → Bool) → (Nat → Value) → World → Prop) (R : List Keep) (N : List (List Nat)) (i : Nat) (o : Oper) (ns : List Nat) : Prop :=
 ∀ L t w, G L t w → L i = false → (∀ k, L k = true → ∀ j ∈ N.getD k [], L j = true) → (∀ k ∈ ns, L k = true) → Have R t w ns → ∀ K : Act → World → Prop, (∀ v w', (pick R i).says v w' → G (did L i) (upd t i v) w' → K (A (upd t i v)) w') →
  if Region.wanted o (yielded ops (A t).tmps) = true then Oper.wp P o (A t) w K Q else K ((A t).put o.dst undef) w
def StepsG (P : Program) (ops : Array Oper) (Q : Exit → Act → World → Prop) (A : (Nat → Value) → Act) (G : (Nat → Bool) → (Nat → Value) → World → Prop) (R : List Keep) (N : List (List Nat)) : Nat → List Oper → List (List Nat) → Prop
 | _, [], _ => True
 | k, o :: os, ns => StepG P ops Q A G R N k o (ns.headD []) ∧ StepsG P ops Q A G R N (k + 1) os ns.tail
theorem StepsG.at {A : (Nat → Value) → Act} {G : (Nat → Bool) → (Nat → Value) → World → Prop} {R : List Keep} {N : List (List Nat)} : ∀ (os : List Oper) (k : Nat) (ns : List (List Nat)), StepsG P ops Q A G R N k os ns → ∀ j o, os[j]? = some o → StepG P ops Q A G R N (k + j) o (ns.getD j [])
 | [], _, _, _, j, o, h => by simp at h
 | p :: os, k, ns, h, 0, o, e => by
  simp at e
  subst e
  cases ns <;> exact h.1
 | p :: os, k, ns, h, j + 1, o, e => by
  have := StepsG.at os (k + 1) ns.tail h.2 j o (by simpa using e)
  rw [Nat.add_assoc, Nat.add_comm 1 j] at this
  cases ns <;> simpa using this
structure InvG (ops : Array Oper) (G : (Nat → Bool) → (Nat → Value) → World → Prop) (R : List Keep) (ns : List (List Nat)) (listed : Array Bool) (t : Nat → Value) (w : World) : Prop where
 own : G (fun k => listed.getD k false) t w
 size : listed.size = ops.size
 held : ∀ i, listed.getD i false = true → (pick R i).says (t i) w ∧ ∀ k ∈ ns.getD i [], listed.getD k false = true
theorem wpAny_inv {A : (Nat → Value) → Act} {G : (Nat → Bool) → (Nat → Value) → World → Prop} {R : List Keep} {ns : List (List Nat)} (hB : needsB md ops ns = true) (hf : Free R) (steps : StepsG P ops Q A G R ns 0 ops.toList ns)
  (fin : ∀ L t w, G L t w → (∀ k < ops.size, L k = true) → Have R t w (List.range ops.size) → Q .normal (A t) w) :
  ∀ (fuel : Nat) (listed : Array Bool) (t : Nat → Value) (w : World), InvG ops G R ns listed t w → unl ops listed ≤ fuel → wpAny P md ops Q fuel listed (A t) w := by
 have done : ∀ (listed : Array Bool) (t : Nat → Value) (w : World), InvG ops G R ns listed t w → Region.ready md ops listed = [] → Q .normal (A t) w := fun listed t w h hr =>
  fin _ t w h.own (fun k hk => all_listed hB h.size hr (k + 1) k (by omega) hk) (have_of _ fun k hk => (h.held k (all_listed hB h.size hr (k + 1) k (by omega) (by simpa using hk))).1)
 intro fuel
 induction fuel with
 | zero =>
  intro listed t w h hu
  have hr : Region.ready md ops listed = [] := by
   cases e : Region.ready md ops listed with
   | nil => rfl
   | cons i l =>
    have hi : i ∈ Region.ready md ops listed := by rw [e]; simp
    obtain ⟨h0, o, ho, _⟩ := mem_ready.1 hi
    have := countP_set h.size (Array.getElem?_eq_some_iff.1 ho).1 h0
    omega
  exact ⟨hr, done listed t w h hr⟩
 | succ fuel ih =>
  intro listed t w h hu
  refine ⟨done listed t w h, fun i hi => ?_⟩
  obtain ⟨h0, o, ho, hall⟩ := mem_ready.1 hi
  have hlt := (Array.getElem?_eq_some_iff.1 ho).1
  have hneed : ∀ k ∈ ns.getD i [], listed.getD k false = true := fun k hk => by
   obtain ⟨e, he, hb, hk⟩ := (needs_back hB ho).2 k hk
   rcases hk with rfl | hk
   ·exact hall e he hb
   ·exact (h.held e.on (hall e he hb)).2 k hk
  have hst := StepsG.at ops.toList 0 ns steps i o (by simpa using ho)
  rw [Nat.zero_add] at hst
  refine wpOp_step ho fun K hK => hst (fun k => listed.getD k false) t w h.own (by
   show listed.getD i false = false
   rw [getD_of (by rw [h.size]; exact hlt) false true]; exact h0) (fun k hk j hj => (h.held k hk).2 j hj) hneed (have_of _ fun k hk => (h.held k (hneed k hk)).1) K fun v w' hv hg => hK _ _ (ih _ _ _ ⟨?_, by simpa using h.size, fun j hj => ?_⟩ ?_)
  ·have e : (fun k => (listed.setIfInBounds i true).getD k false) = did (fun k => listed.getD k false) i := by
    funext k
    by_cases hk : k = i
    ·subst hk
     rw [did_self]
     simp [Array.getD, h.size, hlt]
    ·rw [did_ne _ hk]
     exact getD_set_ne false (Ne.symm hk)
   rw [e]
   exact hg
  ·by_cases hji : j = i
   ·subst hji
    refine ⟨by simpa [upd] using hv, fun k hk => getD_set_true (hneed k hk)⟩
   ·rw [getD_set_ne false (Ne.symm hji)] at hj
    have := h.held j hj
    refine ⟨by simp only [upd, if_neg hji]; exact hf j _ _ _ this.1, fun k hk => getD_set_true (this.2 k hk)⟩
  ·have := countP_set h.size hlt h0
   omega
theorem wp_region_inv {id : Nat} {a : Act} {w : World} {l : List Oper} (hm : P.follows .mixedOrders = true) (G : (Nat → Bool) → (Nat → Value) → World → Prop) (R : List Keep) (ns : List (List Nat)) (hB : needsB .any l.toArray ns = true) (hf : Free R)
  (beg : ∀ t, G (fun _ => false) t { w with drawn := w.drawn + 1 })
  (steps : StepsG P l.toArray Q (fun t => filled t l 0 a) G R ns 0 l ns)
  (fin : ∀ L t w', G L t w' → (∀ k < l.length, L k = true) → Have R t w' (List.range l.length) → Q .normal (filled t l 0 a) w') : (Code.region id l.toArray true).wp P Q a w := by
 refine wp_region_any hm ?_
 have h := wpAny_inv (P := P) (Q := Q) (md := .any) (ops := l.toArray) (A := fun t => filled t l 0 a) (G := G) (R := R) (ns := ns) hB hf (by simpa using steps) (by simpa using fin) l.length (Array.replicate l.length false) (now l a) { w with drawn := w.drawn + 1 }
  ⟨by
   have e : (fun k => (Array.replicate l.length false).getD k false) = fun _ => false := by
    funext k
    by_cases h : k < l.length <;> simp [Array.getD, h]
   rw [e]
   exact beg _, by simp, fun i hi => by
   by_cases h : i < l.length <;> simp [Array.getD, h] at hi⟩ (by unfold unl; refine Nat.le_trans List.countP_le_length ?_; simp)
 have e : filled (now l a) l 0 a = a := filled_now a l l 0 (fun j => by simp)
 have h' : wpAny P .any l.toArray Q l.length (Array.replicate l.length false) (filled (now l a) l 0 a) { w with drawn := w.drawn + 1 } := h
 rw [e] at h'
 simpa using h'
end
end Go.Proofs.YtegpfgccaminkaaGreatDoor.Regs
namespace Go.Proofs.YtegpfgccaminkaaGreatDoor.Regw
open Go.RowKit Base Regs
structure GW (i : Nat) (w3 : World) (ks : List (Nat × Keep)) (Z : World → Prop) (L : Nat → Bool) (t : Nat → Value) (w : World) : Prop where
 pre : L i = false → Below w3.heap.size w3 w ∧ ∀ p ∈ ks, L p.1 = true → p.2.says (t p.1) w
 post : L i = true → Z w
section
variable {i : Nat} {w3 : World} {ks : List (Nat × Keep)} {Z : World → Prop} {L : Nat → Bool} {t : Nat → Value} {w w' : World}
theorem GW.beg (i : Nat) (w3 : World) (ks : List (Nat × Keep)) (Z : World → Prop) (t : Nat → Value) : GW i w3 ks Z (fun _ => false) t w3.drew :=
 ⟨fun _ => ⟨(Below.refl _ _).drew, fun _ _ h => (by cases h)⟩, fun h => (by cases h)⟩
theorem stab (hz : ∀ w w' : World, Below w.heap.size w w' → Z w → Z w') (j : Nat) (hj : (j == i || ks.any fun p => p.1 == j) = false) {v : Value} (hb : Below w.heap.size w w') (h : GW i w3 ks Z L t w) : GW i w3 ks Z (did L j) (upd t j v) w' := by
 rw [Bool.or_eq_false_iff, beq_eq_false_iff_ne] at hj
 have e : did L j i = L i := did_ne L (Ne.symm hj.1)
 refine ⟨fun hi => ?_, fun hi => hz _ _ hb (h.post (by rw [← e]; exact hi))⟩
 obtain ⟨h1, h2⟩ := h.pre (by rw [← e]; exact hi)
 refine ⟨h1.trans (hb.mono h1.size), fun p hp hl => ?_⟩
 have hne : p.1 ≠ j := fun x => by
  have := List.any_eq_false.1 hj.2 p hp
  simp [x] at this
 rw [did_ne L hne] at hl
 have hu : upd t j v p.1 = t p.1 := by simp [upd, hne]
 rw [hu]
 exact p.2.stays _ _ _ hb (h2 p hp hl)
theorem keep (h : GW i w3 ks Z L t w) (hL : L i = false) (j : Nat) (hj : j ≠ i) {v : Value} (hb : Below w.heap.size w w') (hv : ∀ p ∈ ks, p.1 = j → p.2.says v w') : GW i w3 ks Z (did L j) (upd t j v) w' := by
 have e : did L j i = L i := did_ne L (Ne.symm hj)
 refine ⟨fun hi => ?_, fun hi => by rw [e, hL] at hi; cases hi⟩
 obtain ⟨h1, h2⟩ := h.pre hL
 refine ⟨h1.trans (hb.mono h1.size), fun p hp hl => ?_⟩
 by_cases x : p.1 = j
 ·have hu : upd t j v p.1 = v := by simp [upd, x]
  rw [hu]
  exact hv p hp x
 ·rw [did_ne L x] at hl
  have hu : upd t j v p.1 = t p.1 := by simp [upd, x]
  rw [hu]
  exact p.2.stays _ _ _ hb (h2 p hp hl)
theorem call {v : Value} (hz : Z w') : GW i w3 ks Z (did L i) (upd t i v) w' :=
 ⟨fun hi => (by rw [did_self] at hi; cases hi), fun _ => hz⟩
end
end Go.Proofs.YtegpfgccaminkaaGreatDoor.Regw
