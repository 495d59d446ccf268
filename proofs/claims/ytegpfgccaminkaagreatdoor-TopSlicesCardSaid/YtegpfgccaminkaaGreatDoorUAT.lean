/- Texts that belong together: AnsW, AnsR, AnsB, AnsD, ScrP, AnsF, AnsG, AnsH, AnsI, ScrB, ScrW, ScrE, TopW. -/
import Derived.Test.YtegpfgccaminkaaGreatDoorUAS
import Derived.Test.YtegpfgccaminkaaGreatDoorUAA
import Derived.Laws.OwnMore
import Derived.Laws.BitsAllLaws
import Derived.BigQuiet
import Derived.Deep.QuietTactic
import Derived.Laws.StructEq
import Derived.Great.BuildSlice
import Derived.Deep.Cut
set_option linter.unusedSimpArgs false
set_option linter.unusedVariables false
namespace Go.Proofs.YtegpfgccaminkaaGreatDoor.AnsW
open Go.RowKit Base Base2 Base3 Regs AnsP
def IsW (B g : Nat) (L : List UInt8) (w : World) : Prop := ∃ v, w.heap[g]? = some (.cells #[v] 176 (0, 0)) ∧ w.ownsRow B 5 1 v L.length (bcells L) ∧ B ≤ g
theorem add_at' (g o j : Nat) : (⟨g, o, none⟩ : Addr).add j = ⟨g, o + j, none⟩ := by unfold Addr.add; split <;> simp_all
theorem own_ne {w : World} {B g : Nat} {v : Value} {n : Nat} {xs : List Value} {C : Array Value} {mk : Nat × Nat} (h : w.heap[g]? = some (.cells C 176 mk)) (ho : w.ownsRow B 5 1 v n xs) : v.ownBlock ≠ some g := by
 rcases ho.2 with ⟨rfl, _⟩ | ⟨b, cap, cur, rfl, _, hb, _⟩
 ·intro h; cases h
 ·intro e
  injection e with e
  have e : b = g := e
  subst e
  rw [h] at hb
  injection hb with hb
  injection hb with _ hb
  cases hb
theorem IsW.lt {B g : Nat} {L : List UInt8} {w : World} (h : IsW B g L w) : g < w.heap.size := by obtain ⟨v, h, _⟩ := h; exact (Array.getElem?_eq_some_iff.1 h).1
theorem IsW.below {B g : Nat} {L : List UInt8} {w w' : World} (h : IsW B g L w) (hb : Below w.heap.size w w') : IsW B g L w' := by
 have hl := h.lt
 obtain ⟨v, h1, h2, h3⟩ := h
 exact ⟨v, (hb.block g hl).trans h1, owns_below h2 hb, h3⟩
theorem own_set {w : World} {B g : Nat} {v x : Value} {n : Nat} {xs : List Value} (ho : w.ownsRow B 5 1 v n xs) (hne : v.ownBlock ≠ some g) : (w.setCell ⟨g, 0, none⟩ x).ownsRow B 5 1 v n xs := by
 refine ⟨ho.1, ?_⟩
 rcases ho.2 with h | ⟨b, cap, cur, rfl, hB, hb, r⟩
 ·exact .inl h
 ·exact .inr ⟨b, cap, cur, rfl, hB, (heap_setCell_other w _ _ _ (fun e => hne (congrArg some e))).trans hb, r⟩
theorem IsW.put {B g : Nat} {w1 w2 : World} {v v' : Value} {L M : List UInt8} (h : w1.heap[g]? = some (.cells #[v] 176 (0, 0))) (hown : w1.ownsRow B 5 1 v L.length (bcells L)) (hB : B ≤ g)
  (hg : w1.grownBy w2 v.ownBlock) (hown' : w2.ownsRow B 5 1 v' (L.length + M.length) (bcells L ++ bcells M)) :
  IsW B g (L ++ M) (w2.setCell ⟨g, 0, none⟩ v') ∧ Below B w1 (w2.setCell ⟨g, 0, none⟩ v') := by
 have hl := (Array.getElem?_eq_some_iff.1 h).1
 have h2 : w2.heap[g]? = some (.cells #[v] 176 (0, 0)) := (hg.block g hl (fun e => own_ne h hown e.symm)).trans h
 refine ⟨⟨v', heap_setCell_same w2 g 0 _ _ v' h2, ?_, hB⟩, ((Below.refl B w1).grown hg (by omega) (fun k hk => (hown.lt k hk).1)).setCell (p := ⟨g, 0, none⟩) hB _⟩
 have := own_set (g := g) (x := v') hown' (own_ne h2 hown')
 simpa [bcells] using this
def KeepW (w w' : World) : Prop := ∀ (k : Nat) (C : Array Value) (T : TypeId) (m : Nat × Nat), T ≠ 5 → T ≠ 176 → w.heap[k]? = some (.cells C T m) → w'.heap[k]? = some (.cells C T m)
theorem KeepW.refl (w : World) : KeepW w w := fun _ _ _ _ _ _ h => h
theorem KeepW.trans {w w1 w2 : World} (h : KeepW w w1) (h2 : KeepW w1 w2) : KeepW w w2 := fun k C T m a b e => h2 k C T m a b (h k C T m a b e)
theorem KeepW.below {w w' : World} (h : Below w.heap.size w w') : KeepW w w' := fun k _ _ _ _ _ e => (h.block k (Array.getElem?_eq_some_iff.1 e).1).trans e
theorem KeepW.put {B g : Nat} {w1 w2 : World} {v v' : Value} {n : Nat} {xs : List Value} {C0 : Array Value} (h : w1.heap[g]? = some (.cells C0 176 (0, 0))) (hown : w1.ownsRow B 5 1 v n xs) (hg : w1.grownBy w2 v.ownBlock) : KeepW w1 (w2.setCell ⟨g, 0, none⟩ v') := by
 intro k C T m h1 h2 e
 have hk : k ≠ g := by
  rintro rfl
  rw [h] at e
  injection e with e
  injection e with _ e
  exact h2 e.symm
 have hb : some k ≠ v.ownBlock := by
  rcases hown.2 with ⟨rfl, _⟩ | ⟨b, cap, cur, rfl, _, hb, _⟩
  ·intro h; cases h
  ·intro e2
   injection e2 with e2
   have e2 : k = b := e2
   subst e2
   rw [hb] at e
   injection e with e
   injection e with _ e
   exact h1 e.symm
 exact (heap_setCell_other w2 ⟨g, 0, none⟩ k v' hk).trans ((hg.block k (Array.getElem?_eq_some_iff.1 e).1 hb).trans e)
set_option maxRecDepth 100000 in
set_option maxHeartbeats 4000000 in
theorem number_keep (B g n m : Nat) (L : List UInt8) (w : World) (h : IsW B g L w) (hn : n < 18446744073709551616) (hm : m ≤ 8) (hl : L.length ≤ 1073741824) :
  Calls Tryz.prog 206 #[.pointer (some ⟨g, 0, none⟩), .int .u64 (n : Int), .int .i64 (m : Int)] w fun e w' => e = .returned (.tuple #[]) ∧ IsW B g (L ++ be n m) w' ∧ Below B w w' ∧ KeepW w w' := by
 obtain ⟨i0, hi, hz0, hz1, hz2⟩ := info_parts info_u8
 have HL := hid hl
 have HH := hid h
 clear h hl
 go_enter Tryz.func206, Tryz.ntmps206
 go_wp2
 go_loopw [6] (fun vk wr => ∃ (z : Int) (k : Nat) (X : List UInt8), vk = .int .i64 z ∧ k ≤ m ∧ Hid (z = 8 * (k : Int) - 8) ∧ Hid (X ++ be n k = L ++ be n m) ∧ Hid (IsW B g X wr) ∧ Hid (Below B w wr) ∧ Hid (KeepW w wr)) (fun vk _ => (intOf vk + 8).toNat)
 case atStart => exact ⟨_, m, L, rfl, Nat.le_refl _, by show _ = _; omega, rfl, HH.out, Below.refl _ _, KeepW.refl _⟩
 case round =>
  obtain ⟨z, k, X, rfl, hkm, HZ, HX, HW, HB, HKE⟩ := hrel
  cases k with
  | zero =>
   have hz : z = -8 := by have := HZ.out; omega
   subst hz
   have HX2 : Hid (X = L ++ be n m) := by have := HX.out; rwa [be, List.append_nil] at this
   go_wp2
   go_end0
   exact ⟨rfl, HX2.out ▸ HW.out, HB.out, HKE.out⟩
  | succ k =>
   have hz : z = ((8 * k : Nat) : Int) := by have := HZ.out; omega
   have hzn : 0 ≤ z := by omega
   have hz9 : z ≤ 9223372036854775807 := by omega
   obtain ⟨c, hc⟩ : ∃ c, c = UInt8.ofNat (n / 256 ^ k) := ⟨_, rfl⟩
   have HC := hid hc
   clear hc
   have HXL : Hid (X.length + 1 ≤ 1073741840) := by
    have := congrArg List.length HX.out
    rw [List.length_append, List.length_append, length_be, length_be] at this
    have := HL.out
    show _ ≤ _
    omega
   have HX2 : Hid ((X ++ [c]) ++ be n k = L ++ be n m) := by show _ = _; rw [← HX.out, HC.out, be, List.append_assoc]; rfl
   have HCW : Hid (IntKind.u8.wrap ((n : Int) / 2 ^ min z.toNat 64) = (c.toNat : Int)) := by
    show _ = _
    have e1 : min z.toNat 64 = 8 * k := by omega
    have e2 : (n : Int) / 2 ^ (8 * k) = ((n / 256 ^ k : Nat) : Int) := by
     have e0 : (2 : Int) ^ (8 * k) = ((256 ^ k : Nat) : Int) := by rw [show (256 : Nat) = 2 ^ 8 from rfl, ← Nat.pow_mul]; simp
     rw [e0, Int.natCast_ediv]
    rw [e1, e2, IntKind.wrap_u8', HC.out]
    simp
   have HKZ := hid hz
   clear hz
   obtain ⟨v, hv, hown, hBg⟩ := HW.out
   have HV := hid hv
   have HO := hid hown
   have HLT : Hid (g < wr.heap.size) := (Array.getElem?_eq_some_iff.1 hv).1
   have c0 : wr.drew.cell? ⟨g, 0, none⟩ = some v := (cell_of_row wr g 0 _ _ _ hv).trans rfl
   clear hv hown
   go_wp2_with fail
   refine wp_region_any (by kernel_rfl) ?_
   change wpAny _ _ _ _ _ _ _ (World.drew _)
   refine wpAny_take (i := 0) (v := (.pointer (some ⟨g, 0, none⟩))) rfl (by kernel_rfl) (by kernel_rfl) (by kernel_rfl) (fun _ _ _ h => h) (Or.inl ⟨by rfl, ?yy0⟩) ?_
   case yy0 => (intro w; go_simp; try with_reducible rfl)
   simp only [List.getElem_toArray, List.getElem_cons_zero, List.getElem_cons_succ, Act.put, List.setIfInBounds_toArray, List.set_cons_zero, List.set_cons_succ]
   refine wpAny_go 10 [is (.pointer (some ⟨g, 0, none⟩)), is (.pointer (some ⟨g, 0, none⟩)), is (.pointer (some ⟨g, 0, none⟩)), is (.pointer (some ⟨g, 0, none⟩)), is (v), is (.int .u64 (n : Int)), is (.int .i64 z), is (.int .u64 ((n : Int) / 2 ^ min z.toNat 64)), is (.int .u8 (c.toNat : Int)), row 1 [.int .u8 (c.toNat : Int)]] [[], [], [1], [1, 2], [1, 2, 3], [], [], [5, 6], [5, 6, 7], [5, 6, 7, 8], [1, 2, 3, 4, 5, 6, 7, 8, 9]] [0] (by kernel_rfl) (by kernel_rfl) (by kernel_rfl) ?_ ?_ ?_
   ·intro k hk; simp only [List.mem_cons, List.not_mem_nil, or_false] at hk; subst hk; rfl
   ·refine ⟨?_, ?_, ?_, ?_, ?_, ?_, ?_, ?_, ?_, ?_, trivial⟩
    ·intro t wq hbq hh K hK
     clear hh
     simp only [filled, filledN, upd, Have, is, any, row, pick, Act.put, List.setIfInBounds_toArray, List.set_cons_zero, List.set_cons_succ, Nat.reduceAdd, Nat.reduceEqDiff, reduceIte] at hK ⊢
     go_simp
     exact hK _ _ (Below.refl _ _) rfl
    ·intro t wq hbq hh K hK
     clear hh
     simp only [filled, filledN, upd, Have, is, any, row, pick, Act.put, List.setIfInBounds_toArray, List.set_cons_zero, List.set_cons_succ, Nat.reduceAdd, Nat.reduceEqDiff, reduceIte] at hK ⊢
     go_simp
     exact hK _ _ (Below.refl _ _) rfl
    ·intro t wq hbq hh K hK
     have e1 := hh.1
     simp only [pick] at e1
     replace e1 : t 1 = (.pointer (some ⟨g, 0, none⟩)) := e1
     clear hh
     simp only [filled, filledN, upd, Have, is, any, row, pick, Act.put, List.setIfInBounds_toArray, List.set_cons_zero, List.set_cons_succ, Nat.reduceAdd, Nat.reduceEqDiff, reduceIte] at hK ⊢
     simp only [e1] at hK ⊢
     go_simp
     exact hK _ _ (Below.refl _ _) rfl
    ·intro t wq hbq hh K hK
     have e2 := hh.2.1
     simp only [pick] at e2
     replace e2 : t 2 = (.pointer (some ⟨g, 0, none⟩)) := e2
     clear hh
     simp only [filled, filledN, upd, Have, is, any, row, pick, Act.put, List.setIfInBounds_toArray, List.set_cons_zero, List.set_cons_succ, Nat.reduceAdd, Nat.reduceEqDiff, reduceIte] at hK ⊢
     simp only [e2] at hK ⊢
     go_simp
     exact hK _ _ (Below.refl _ _) rfl
    ·intro t wq hbq hh K hK
     have e3 := hh.2.2.1
     simp only [pick] at e3
     replace e3 : t 3 = (.pointer (some ⟨g, 0, none⟩)) := e3
     clear hh
     simp only [filled, filledN, upd, Have, is, any, row, pick, Act.put, List.setIfInBounds_toArray, List.set_cons_zero, List.set_cons_succ, Nat.reduceAdd, Nat.reduceEqDiff, reduceIte] at hK ⊢
     simp only [e3] at hK ⊢
     have hq := (hbq.cell (p := ⟨g, 0, none⟩) HLT.out).trans c0
     go_simp
     exact hK _ _ (Below.refl _ _) rfl
    ·intro t wq hbq hh K hK
     clear hh
     simp only [filled, filledN, upd, Have, is, any, row, pick, Act.put, List.setIfInBounds_toArray, List.set_cons_zero, List.set_cons_succ, Nat.reduceAdd, Nat.reduceEqDiff, reduceIte] at hK ⊢
     go_simp
     exact hK _ _ (Below.refl _ _) rfl
    ·intro t wq hbq hh K hK
     clear hh
     simp only [filled, filledN, upd, Have, is, any, row, pick, Act.put, List.setIfInBounds_toArray, List.set_cons_zero, List.set_cons_succ, Nat.reduceAdd, Nat.reduceEqDiff, reduceIte] at hK ⊢
     go_simp
     exact hK _ _ (Below.refl _ _) rfl
    ·intro t wq hbq hh K hK
     have e5 := hh.1
     simp only [pick] at e5
     replace e5 : t 5 = (.int .u64 (n : Int)) := e5
     have e6 := hh.2.1
     simp only [pick] at e6
     replace e6 : t 6 = (.int .i64 z) := e6
     clear hh
     simp only [filled, filledN, upd, Have, is, any, row, pick, Act.put, List.setIfInBounds_toArray, List.set_cons_zero, List.set_cons_succ, Nat.reduceAdd, Nat.reduceEqDiff, reduceIte] at hK ⊢
     simp only [e5, e6] at hK ⊢
     go_simp
     exact hK _ _ (Below.refl _ _) rfl
    ·intro t wq hbq hh K hK
     have e7 := hh.2.2.1
     simp only [pick] at e7
     replace e7 : t 7 = (.int .u64 ((n : Int) / 2 ^ min z.toNat 64)) := e7
     clear hh
     simp only [filled, filledN, upd, Have, is, any, row, pick, Act.put, List.setIfInBounds_toArray, List.set_cons_zero, List.set_cons_succ, Nat.reduceAdd, Nat.reduceEqDiff, reduceIte] at hK ⊢
     simp only [e7] at hK ⊢
     go_simp
     exact hK _ _ (Below.refl _ _) (int_eq HCW.out)
    ·intro t wq hbq hh K hK
     have e8 := hh.2.2.2.1
     simp only [pick] at e8
     replace e8 : t 8 = (.int .u8 (c.toNat : Int)) := e8
     clear hh
     simp only [filled, filledN, upd, Have, is, any, row, pick, Act.put, List.setIfInBounds_toArray, List.set_cons_zero, List.set_cons_succ, Nat.reduceAdd, Nat.reduceEqDiff, reduceIte] at hK ⊢
     simp only [e8] at hK ⊢
     go_simp
     exact hK _ _ ((Below.refl _ _).alloc (Nat.le_refl _) _) ⟨_, _, rfl, by omega, by decide, Rds.of_spot rfl (by simp) (fun j hj => by have h0 : j = 0 := (by simpa using hj); subst h0; rw [Nat.zero_add, World.cell?_alloc_mark]; simp)⟩
   ·intro t wq hbq hh
    have f0 := have_get hh 0 (by decide)
    simp only [pick] at f0
    replace f0 : t 0 = (.pointer (some ⟨g, 0, none⟩)) := f0
    have f4 := have_get hh 4 (by decide)
    simp only [pick] at f4
    replace f4 : t 4 = (v) := f4
    have f9 := have_get hh 9 (by decide)
    simp only [pick] at f9
    clear hh
    simp only [filled, filledN, upd, Have, is, any, row, pick, Act.put, List.setIfInBounds_toArray, List.set_cons_zero, List.set_cons_succ, Nat.reduceAdd, Nat.reduceEqDiff, reduceIte]
    obtain ⟨A9, c9, f9, hc9, hm9, hr9⟩ := f9
    simp only [f0, f4, f9]
    have hvq : wq.heap[g]? = some (.cells #[v] 176 (0, 0)) := (hbq.block g HLT.out).trans HV.out
    have hoq : wq.ownsRow B 5 1 v X.length (bcells X) := owns_below (w := wr.drew) HO.out hbq
    have hlq : g < wq.heap.size := Nat.lt_of_lt_of_le HLT.out hbq.size
    have HVQ := hid hvq
    have HLQ := hid hlq
    obtain ⟨b9, o9, rfl, _, hc9'⟩ := hr9.spot (by omega)
    have HC9 := hid hc9'
    clear hvq hlq hc9' hr9
    show wpList _ _ _ [_, _, _, _] _ _
    refine wpList_append_own _ rfl _ _ 39 rfl B 5 i0 (.int .u8 0) 1 1 Tryz.underlying39 hi hz0 hz1 hz2 rfl (by decide) v X.length (bcells X) rfl hoq ⟨b9, o9, none⟩ 1 c9 [.int .u8 (c.toNat : Int)] rfl rfl ?d1 (by intro u hu; simp at hu; subst hu; rfl) ?d2 ?d3 ?d4 ?_
    case d1 => intro j u hj; obtain ⟨hj', e⟩ := List.getElem?_eq_some_iff.1 hj; rw [add_at', HC9.out j hj', e]
    case d2 => have := HXL.out; unfold maxLen; omega
    case d3 => have := HXL.out; omega
    case d4 => have := HLQ.out; omega
    intro v' w2 hown' hgrow _
    have hput := IsW.put (M := [c]) HVQ.out hoq hBg hgrow hown'
    have HKP : Hid (KeepW w (w2.setCell ⟨g, 0, none⟩ v')) := HKE.out.trans ((KeepW.below (w := wr) (w' := wq) ⟨hbq.os, hbq.tape, hbq.output, hbq.size, hbq.block⟩).trans (KeepW.put HVQ.out hoq hgrow))
    have HP1 := hid hput.1
    have HP2 := hid hput.2
    have hv2 : w2.heap[g]? = some (.cells #[v] 176 (0, 0)) := (hgrow.block g HLQ.out (fun e => own_ne HVQ.out hoq e.symm)).trans HVQ.out
    have d0 : w2.cell? ⟨g, 0, none⟩ = some v := (cell_of_row w2 g 0 _ _ _ hv2).trans rfl
    have f0 : w2.frozen? ⟨g, 0, none⟩ = false := frozen_of_row w2 g 0 _ _ hv2
    obtain ⟨vA, vc, rfl, _, _, _⟩ := owns_form hown'
    have hBq := HB.out.drew.trans (hbq.mono (by have := HLT.out; show B ≤ wr.heap.size; omega))
    clear hoq hown' hput hgrow hv2
    have HBQ := hid hBq
    clear hBq
    go_wp2
    go_roundw
    case rel => exact ⟨_, k, X ++ [c], rfl, by omega, by have := HKZ.out; show _ = _; omega, HX2.out, HP1.out, HBQ.out.trans HP2.out, HKP.out⟩
    case measure => simp [intOf]; omega
set_option maxHeartbeats 1000000 in
theorem u8w_keep (B g n : Nat) (L : List UInt8) (w : World) (h : IsW B g L w) (hn : n < 256) (hl : L.length ≤ 1073741824) :
  Calls Tryz.prog 141 #[.pointer (some ⟨g, 0, none⟩), .int .u8 (n : Int)] w fun e w' => e = .returned (.tuple #[]) ∧ IsW B g (L ++ be n 1) w' ∧ Below B w w' ∧ KeepW w w' := by
 have HH := hid h
 have HL := hid hl
 clear h hl
 go_enter Tryz.func141, Tryz.ntmps141
 go_wp2_with fail
 refine (number_keep B g n 1 L _ HH.out (by omega) (by omega) HL.out).mono ?_
 rintro e w1 ⟨rfl, h1, hb1, hk1⟩
 have H1 := hid h1
 have HB1 := hid hb1
 have HK1 := hid hk1
 clear h1 hb1 hk1
 go_wp2
 go_end0
 exact ⟨rfl, H1.out, HB1.out, HK1.out⟩
set_option maxHeartbeats 1000000 in
theorem u32w_keep (B g n : Nat) (L : List UInt8) (w : World) (h : IsW B g L w) (hn : n < 4294967296) (hl : L.length ≤ 1073741824) :
  Calls Tryz.prog 207 #[.pointer (some ⟨g, 0, none⟩), .int .u32 (n : Int)] w fun e w' => e = .returned (.tuple #[]) ∧ IsW B g (L ++ be n 4) w' ∧ Below B w w' ∧ KeepW w w' := by
 have HH := hid h
 have HL := hid hl
 clear h hl
 go_enter Tryz.func207, Tryz.ntmps207
 go_wp2_with fail
 refine (number_keep B g n 4 L _ HH.out (by omega) (by omega) HL.out).mono ?_
 rintro e w1 ⟨rfl, h1, hb1, hk1⟩
 have H1 := hid h1
 have HB1 := hid hb1
 have HK1 := hid hk1
 clear h1 hb1 hk1
 go_wp2
 go_end0
 exact ⟨rfl, H1.out, HB1.out, HK1.out⟩
def sg (n : Nat) : Int := if n < 9223372036854775808 then n else (n : Int) - 18446744073709551616
theorem wrap_sg (n : Nat) (h : n < 18446744073709551616) : IntKind.u64.wrap (sg n) = (n : Int) := by
 rw [IntKind.wrap_u64]
 unfold sg
 split <;> omega
set_option maxHeartbeats 1000000 in
theorem i64w_keep (B g n : Nat) (L : List UInt8) (w : World) (h : IsW B g L w) (hn : n < 18446744073709551616) (hl : L.length ≤ 1073741824) :
  Calls Tryz.prog 142 #[.pointer (some ⟨g, 0, none⟩), .int .i64 (sg n)] w fun e w' => e = .returned (.tuple #[]) ∧ IsW B g (L ++ be n 8) w' ∧ Below B w w' ∧ KeepW w w' := by
 have HH := hid h
 have HL := hid hl
 have hw := wrap_sg n hn
 generalize sg n = z at hw ⊢
 clear h hl
 go_enter Tryz.func142, Tryz.ntmps142
 go_wp2_with fail
 refine (number_keep B g n 8 L _ HH.out hn (by omega) HL.out).mono ?_
 rintro e w1 ⟨rfl, h1, hb1, hk1⟩
 have H1 := hid h1
 have HB1 := hid hb1
 have HK1 := hid hk1
 clear h1 hb1 hk1
 go_wp2
 go_end0
 exact ⟨rfl, H1.out, HB1.out, HK1.out⟩
set_option maxHeartbeats 1000000 in
theorem strw_keep (B g : Nat) (L : List UInt8) (s : ByteArray) (w : World) (h : IsW B g L w) (hl : L.length ≤ 1000000000) (hs : s.size ≤ 1000000) :
  Calls Tryz.prog 143 #[.pointer (some ⟨g, 0, none⟩), .string s] w fun e w' => e = .returned (.tuple #[]) ∧ IsW B g (L ++ str s.data.toList) w' ∧ Below B w w' ∧ KeepW w w' := by
 obtain ⟨i0, hi, hz0, hz1, hz2⟩ := info_parts info_u8
 have hsl : s.data.toList.length = s.size := Array.length_toList
 have HSL := hid hsl
 have HH := hid h
 have HL := hid hl
 have hs32 : (s.size : Int) ≤ 4294967295 := by omega
 clear h hl hsl
 go_enter Tryz.func143, Tryz.ntmps143
 go_wp2_with fail
 refine (u32w_keep B g s.size L _ HH.out (by omega) (by have := HL.out; omega)).mono ?_
 rintro e w1 ⟨rfl, h1, hb1, hk1⟩
 have hlt := h1.lt
 have HLT := hid hlt
 obtain ⟨v, hv, hown, hBg⟩ := h1
 have HV := hid hv
 have HB1 := hid hb1
 have HK1 := hid hk1
 have c0 : w1.cell? ⟨g, 0, none⟩ = some v := (cell_of_row w1 g 0 _ _ _ hv).trans rfl
 have HLL : Hid ((L ++ be s.size 4).length = L.length + 4) := by show _ = _; rw [List.length_append, length_be]
 clear hv hb1 hlt hk1
 go_wp2_with (at_builtin; refine Lib.wpList_append_own_string _ rfl _ _ 39 9 rfl B 5 i0 Tryz.underlying39 Tryz.underlying9 hi hz0 hz1 hz2 v _ _ rfl hown s rfl ?c3 ?c4 ?c5 ?_)
 case c3 => have := HLL.out; have := HL.out; unfold maxLen; omega
 case c4 => have := HLL.out; have := HL.out; omega
 case c5 => have := HLT.out; omega
 intro v' w2 hown' hgrow _
 have HG := hid hgrow
 have hE : Lib.strCells s = bcells s.data.toList := by simp [Lib.strCells, bcells]
 rw [hE] at hown'
 have hput := IsW.put (M := s.data.toList) HV.out hown hBg hgrow (by rw [HSL.out, List.length_append]; exact hown')
 have HKP : Hid (KeepW w (w2.setCell ⟨g, 0, none⟩ v')) := HK1.out.trans (KeepW.put HV.out hown hgrow)
 have HP1 := hid hput.1
 have HP2 := hid hput.2
 have hv2 : w2.heap[g]? = some (.cells #[v] 176 (0, 0)) := (hgrow.block g HLT.out (fun e => own_ne HV.out hown e.symm)).trans HV.out
 have d0 : w2.cell? ⟨g, 0, none⟩ = some v := (cell_of_row w2 g 0 _ _ _ hv2).trans rfl
 have f0 : w2.frozen? ⟨g, 0, none⟩ = false := frozen_of_row w2 g 0 _ _ hv2
 have HPE : Hid ((L ++ be s.size 4) ++ s.data.toList = L ++ str s.data.toList) := by show _ = _; unfold str; rw [HSL.out, List.append_assoc]
 obtain ⟨vA, vc, rfl, _, _, _⟩ := owns_form hown'
 clear hown' hown hput hgrow hv2 c0 hE
 go_wp2
 go_end0
 exact ⟨rfl, HPE.out ▸ HP1.out, HB1.out.trans HP2.out, HKP.out⟩
theorem bytesw_any (B g : Nat) (L : List UInt8) (w : World) (h : IsW B g L w) (hl : L.length ≤ 1073741824) :
  Calls Tryz.prog 89 #[.pointer (some ⟨g, 0, none⟩)] w fun e w' => ∃ v, e = .returned v ∧ w'.ownsRow w.heap.size 5 1 v L.length (bcells L) ∧ Below w.heap.size w w' := by
 obtain ⟨v, hv, hown, hBg⟩ := h
 have c0 : w.cell? ⟨g, 0, none⟩ = some v := (cell_of_row w g 0 _ _ _ hv).trans rfl
 obtain ⟨A, c, rfl, hnc, hcm, hrd⟩ := owns_form hown
 have HRD := hid hrd
 clear hrd hown hv
 go_enter Tryz.func89, Tryz.ntmps89
 go_wp2_with fail
 refine (BlobA0.clone_any A _ c L _ HRD.out hl).mono ?_
 rintro e w1 ⟨v, rfl, hown1, hb1⟩
 go_wp2
 go_ret
 exact ⟨_, rfl, hown1, hb1⟩
end Go.Proofs.YtegpfgccaminkaaGreatDoor.AnsW
namespace Go.Proofs.YtegpfgccaminkaaGreatDoor.ScrP
open Go.RowKit Base AnsP
structure O where
 k : Nat
 f : Nat
 h : Nat
 a : Nat
 b : Nat
 s : List UInt8
 t : List UInt8
 c : List UInt8
 d : List UInt8
 p : Nat
 n : Nat
 r : List UInt8
structure Fits (o : O) : Prop where
 k : o.k < 256
 f : o.f < 256
 h : o.h < 18446744073709551616
 a : o.a < 18446744073709551616
 b : o.b < 18446744073709551616
 s : o.s.length < 4294967296
 t : o.t.length < 4294967296
 c : o.c.length < 4294967296
 d : o.d.length < 4294967296
 p : o.p < 18446744073709551616
 n : o.n < 18446744073709551616
 r : o.r.length = 16
def enco (o : O) : List UInt8 := be o.k 1 ++ (be o.f 1 ++ (be o.h 8 ++ (be o.a 8 ++ (be o.b 8 ++ (str o.s ++ (str o.t ++ (str o.c ++ (str o.d ++ (be o.p 8 ++ (be o.n 8 ++ o.r))))))))))
theorem length_enco (o : O) (h : Fits o) : (enco o).length = 74 + (o.s.length + o.t.length + o.c.length + o.d.length) := by
 unfold enco str
 simp only [List.length_append, length_be, h.r]
 omega
def encs (l : List O) : List UInt8 := l.flatMap enco
theorem encs_append (a b : List O) : encs (a ++ b) = encs a ++ encs b := by unfold encs; rw [List.flatMap_append]
end Go.Proofs.YtegpfgccaminkaaGreatDoor.ScrP
namespace Go.Proofs.YtegpfgccaminkaaGreatDoor.ScrB
open Go.RowKit Base Base2 AnsP ScrP
def cells (o : O) : List Value := .int .u8 (o.k : Int) :: .int .u8 (o.f : Int) :: .int .i64 (AnsW.sg o.h) :: .int .i64 (AnsW.sg o.a) :: .int .i64 (AnsW.sg o.b) :: .string (strOf o.s) :: .string (strOf o.t) :: .string (strOf o.c) :: .string (strOf o.d) :: .int .i64 (AnsW.sg o.p) :: .int .i64 (AnsW.sg o.n) :: bcells o.r
def val (o : O) : Value := .agg (cells o).toArray
theorem length_cells {o : O} (h : o.r.length = 16) : (cells o).length = 27 := by simp [cells, length_bcells, h]
theorem cells_one (o : O) : ∀ u ∈ cells o, u.oneCell' = true := by
 intro u hu
 simp only [cells, List.mem_cons] at hu
 rcases hu with rfl | rfl | rfl | rfl | rfl | rfl | rfl | rfl | rfl | rfl | rfl | hu
 all_goals first | rfl | exact bcells_one _ u hu
def OB (T : TypeId) (w : World) (g : Nat) (o : O) : Prop := w.heap[g]? = some (.cells (cells o).toArray T (0, 0))
variable {T : TypeId} {w w' : World} {g : Nat} {o o' : O}
theorem OB.cell (h : OB T w g o) (i : Nat) {v : Value} (e : (cells o)[i]? = some v) : w.cell? ⟨g, i, none⟩ = some v := (cell_of_row w g i _ _ _ h).trans (by rw [List.getElem?_toArray]; exact e)
theorem OB.new (T : TypeId) (w : World) (o : O) : OB T (w.alloc (.cells (cells o).toArray T)) w.heap.size o := heap_alloc_new w _
theorem size_cells (h : o.r.length = 16) : (cells o).toArray.size = 27 := by rw [List.size_toArray]; exact length_cells h
theorem OB.load {fs : Array Field} (h : OB T w g o) (hr : o.r.length = 16) (hu : Tryz.prog.underlying T = some (.struct fs)) (hi : (Tryz.prog.info? T).map (·.size) = some 27) : (loadVar T ⟨g, 0, none⟩).run Tryz.prog w = .ok (val o) w :=
 run_loadVar_row w g T T _ (0, 0) _ h hu rfl (by rw [size_cells hr]; exact hi)
theorem below_row {w0 : World} {B : Nat} (h : Below B w0 w) (hg : B ≤ g) (c : Array Value) : Below B w0 (w.setRow g c) :=
 ⟨h.os, h.tape, h.output, by simpa using h.size, fun b hb => (setRow_other w g b c (by omega)).trans (h.block b hb)⟩
theorem agg_struct {S : TypeId} {fs : Array Field} (hu : Tryz.prog.underlying S = some (.struct fs)) (w : World) : (isAgg S).run Tryz.prog w = .ok true w := by
 unfold isAgg
 rw [Sem.run_bind, run_underlying hu w]
 rfl
theorem agg_array {S e : TypeId} {n : Nat} (hu : Tryz.prog.underlying S = some (.array n e)) (w : World) : (isAgg S).run Tryz.prog w = .ok true w := by
 unfold isAgg
 rw [Sem.run_bind, run_underlying hu w]
 rfl
theorem loadVar_list {S : TypeId} {ad : Addr} {cs : List Value} (h : ∀ (j : Nat) (v : Value), cs[j]? = some v → w.cell? (ad.add j) = some v) (hagg : (isAgg S).run Tryz.prog w = .ok true w) (hi : (Tryz.prog.info? S).map (·.size) = some cs.length) : (loadVar S ad).run Tryz.prog w = .ok (.agg cs.toArray) w := by
 have hl := run_loadCells_list (P := Tryz.prog) w ad cs h
 cases hq : Tryz.prog.info? S with
 | none => simp [hq] at hi
 | some i =>
  have hs : i.size = cs.length := by simpa [hq] using hi
  simp [loadVar, Sem.run_bind, hagg, sizeOf, typeInfo, hq, hs, hl]
theorem OB.bytes {S e : TypeId} {n : Nat} (h : OB T w g o) (hr : o.r.length = 16) (hu : Tryz.prog.underlying S = some (.array n e)) (hi : (Tryz.prog.info? S).map (·.size) = some 16) : (loadVar S ⟨g, 11, none⟩).run Tryz.prog w = .ok (.agg (bcells o.r).toArray) w :=
 loadVar_list (fun j v hv => by
  rw [AnsW.add_at', cell_of_row w g (11 + j) _ _ _ h, List.getElem?_toArray, Nat.add_comm 11 j]
  exact hv) (agg_array hu w) (by rw [length_bcells, hr]; exact hi)
theorem at_bytes {L : List UInt8} {S e : TypeId} {n : Nat} (k : Nat) (hk : k < L.length) (hn : n = L.length) (hu : Tryz.prog.underlying S = some (.array n e)) (he : Tryz.prog.underlying e = some (.int .u8)) (hi : (Tryz.prog.info? e).map (·.size) = some 1) (w : World) : (Instr.index S (.agg (bcells L).toArray) (.int .i64 (k : Int))).run Tryz.prog w = .ok (.int .u8 (L[k].toNat : Int)) w := by
 have h1 : (sizeOf e).run Tryz.prog w = .ok 1 w := by
  cases hq : Tryz.prog.info? e with
  | none => simp [hq] at hi
  | some i =>
   have hs : i.size = 1 := by simpa [hq] using hi
   simp [sizeOf, typeInfo, hq, hs]
 have h2 : (isAgg e).run Tryz.prog w = .ok false w := by
  unfold isAgg
  rw [Sem.run_bind, run_underlying he w]
  rfl
 have h3 : (bcells L)[k]? = some (.int .u8 (L[k].toNat : Int)) := by simp [bcells, hk]
 have h4 : 0 ≤ (k : Int) ∧ (k : Int) < (n : Int) := by omega
 have h5 : (k : Int).toNat = k := by simp
 have h6 : k < n := by omega
 simp [Instr.index, run_underlying hu, asIntOf, h6, h1, part, h2, h3, Sem.run_bind]
def Ops (w : World) (A : Option Addr) (n : Nat) (l : List O) : Prop := l.length = n ∧ Rds w A (n * 27) (l.flatMap cells) ∧ ∀ o ∈ l, o.r.length = 16
theorem Ops.below {A : Option Addr} {n : Nat} {l : List O} (h : Ops w A n l) (hb : Below w.heap.size w w') : Ops w' A n l := ⟨h.1, h.2.1.below hb, h.2.2⟩
theorem flat_at (l : List O) (h : ∀ o ∈ l, o.r.length = 16) (j : Nat) (hj : j < l.length) (i : Nat) (hi : i < 27) : (l.flatMap cells)[j * 27 + i]? = (cells l[j])[i]? := by
 induction l generalizing j with
 | nil => simp at hj
 | cons o l ih =>
  have hc := length_cells (h o (by simp))
  rw [List.flatMap_cons]
  cases j with
  | zero =>
   rw [List.getElem?_append_left (by omega)]
   simp
  | succ j =>
   rw [List.getElem?_append_right (by omega), hc, show (j + 1) * 27 + i - 27 = j * 27 + i by omega, ih (fun x hx => h x (by simp [hx])) j (by simpa using hj)]
   simp
set_option maxRecDepth 100000 in
theorem Ops.load {S : TypeId} {fs : Array Field} {b off n : Nat} {l : List O} (h : Ops w (some ⟨b, off, none⟩) n l) (j : Nat) (hj : j < l.length) (hu : Tryz.prog.underlying S = some (.struct fs)) (hi : (Tryz.prog.info? S).map (·.size) = some 27) : (loadVar S ⟨b, off + j * 27, none⟩).run Tryz.prog w = .ok (val l[j]) w :=
 have hc := length_cells (h.2.2 l[j] (List.getElem_mem hj))
 loadVar_list (cs := cells l[j]) (fun i v hv => by
  have hi : i < 27 := by rw [← hc]; exact (List.getElem?_eq_some_iff.1 hv).1
  have hf := flat_at l h.2.2 j hj i hi
  rw [hv] at hf
  obtain ⟨h5, h6⟩ := List.getElem?_eq_some_iff.1 hf
  obtain ⟨b', off', e, _, hcell⟩ := h.2.1.2 (j * 27 + i) h5
  injection e with e
  injection e with e1 e2
  subst e1 e2
  rw [AnsW.add_at', Nat.add_assoc, hcell, h6]) (agg_struct hu w) (by rw [hc]; exact hi)
theorem Ops.spot {A : Option Addr} {n : Nat} {l : List O} (h : Ops w A n l) (hn : 0 < n) : ∃ b off, A = some ⟨b, off, none⟩ ∧ b < w.heap.size := by
 obtain ⟨b, off, e, hb, _⟩ := h.2.1.spot (by omega)
 exact ⟨b, off, e, hb⟩
theorem store_op {ops : Array Oper} {rest : List Oper} {p : Oper} {a : Act} {Q : Exit → Act → World → Prop} {C : Array Value} (hU : w.heap[g]? = some (.cells C T (0, 0))) (hC : C.size = 27) (o : O) (hr : o.r.length = 16) (x y : Operand) (ho : p.op = .store T x y) (hgd : p.guard = none)
  (hx : a.eval x = .pointer (some ⟨g, 0, none⟩)) (hy : a.eval y = val o) (hi : (Tryz.prog.info? T).map (·.size) = some 27)
  (h : wpList Tryz.prog ops Q rest (a.put p.dst undef) (w.setRow g (cells o).toArray)) : wpList Tryz.prog ops Q (p :: rest) a w :=
 wpList_store_row hgd T x y ho g (cells o).toArray hx hy T C hU (by rw [size_cells hr]; exact hi) (by rw [size_cells hr, hC]) (by rw [List.all_toArray]; exact List.all_eq_true.2 (cells_one o)) h
theorem fresh (T : TypeId) (w : World) (C : Array Value) (o : O) : OB T ((w.alloc (.cells C T)).setRow w.heap.size (cells o).toArray) w.heap.size o ∧ Below w.heap.size w ((w.alloc (.cells C T)).setRow w.heap.size (cells o).toArray) :=
 ⟨setRow_heap _ _ _ _ _ (0, 0) (heap_alloc_new w _), below_row ((Below.refl _ _).alloc (Nat.le_refl _) _) (Nat.le_refl _) _⟩
theorem load_as {ops : Array Oper} {rest : List Oper} {p : Oper} {a : Act} {Q : Exit → Act → World → Prop} {ty : TypeId} {ad : Addr} {v : Value} (hl : (loadVar ty ad).run Tryz.prog w = .ok v w) (x : Operand) (ho : p.op = .load ty x) (hgd : p.guard = none) (hx : a.eval x = .pointer (some ad))
  (h : wpList Tryz.prog ops Q rest (a.put p.dst v) w) : wpList Tryz.prog ops Q (p :: rest) a w :=
 wpList_plain hgd fun _ hK => by
  unfold Oper.wp execOp
  simp only [ho, hx, Instr.loadAt, Instr.sureAddr, Sem.run_bind, Sem.run_pure, Result.andThen_ok, hl]
  exact hK _ _ h
end Go.Proofs.YtegpfgccaminkaaGreatDoor.ScrB
namespace Go.Proofs.YtegpfgccaminkaaGreatDoor.ScrW
open Go.RowKit Base Base2 AnsP AnsW ScrP ScrB
theorem OB.keep {w w' : World} {g : Nat} {o : O} (h : OB 120 w g o) (hk : KeepW w w') : OB 120 w' g o := hk g _ _ _ (by decide) (by decide) h
structure Small (o : O) : Prop where
 fits : Fits o
 s : o.s.length ≤ 1000000
 t : o.t.length ≤ 1000000
 c : o.c.length ≤ 1000000
 d : o.d.length ≤ 1000000
set_option maxRecDepth 100000 in
set_option maxHeartbeats 8000000 in
theorem write_any (B gw : Nat) (L : List UInt8) (o : O) (w : World) (h : IsW B gw L w) (hs : Small o) (hl : L.length ≤ 500000000) :
  Calls Tryz.prog 88 #[.pointer (some ⟨gw, 0, none⟩), val o] w fun e w' => e = .returned (.tuple #[]) ∧ IsW B gw (L ++ enco o) w' ∧ Below B w w' ∧ KeepW w w' := by
 have hB : B ≤ w.heap.size := by have := h.lt; obtain ⟨_, _, _, h3⟩ := h; omega
 have HH := hid h
 have HBB := hid hB
 have HS := hid hs
 have HL0 : Hid (L.length ≤ 500000000) := hl
 clear h hs hl hB
 go_enter Tryz.func88, Tryz.ntmps88
 go_upto_region 1 with (fail)
 generalize hw : World.alloc w _ = W0
 have h1 : OB 120 W0 w.heap.size o ∧ Below w.heap.size w W0 := by
  subst hw
  exact ⟨OB.new _ w o, (Below.refl _ _).alloc (Nat.le_refl _) _⟩
 have HO0 := hid h1.1
 have HW0 := hid (HH.out.below h1.2)
 have HB0 := hid (h1.2.mono HBB.out)
 have HK0 := hid (KeepW.below h1.2)
 clear h1 hw HH HBB
 have c0 := HO0.out.cell 0 (v := .int .u8 (o.k : Int)) rfl
 go_wp2_with fail
 clear c0
 refine (u8w_keep B gw o.k L _ HW0.out HS.out.fits.k (by have := HL0.out; omega)).mono ?_
 rintro e w1 ⟨rfl, hw, hb, hk⟩
 obtain ⟨M1, hM⟩ : ∃ M, M = L ++ be o.k 1 := ⟨_, rfl⟩
 rw [← hM] at hw
 have HL1 : Hid (M1.length ≤ 500000001) := by have h1 := HL0.out; show _ ≤ _; rw [hM, List.length_append, length_be]; omega
 have HM1 : Hid (L ++ enco o = M1 ++ (be o.f 1 ++ (be o.h 8 ++ (be o.a 8 ++ (be o.b 8 ++ (str o.s ++ (str o.t ++ (str o.c ++ (str o.d ++ (be o.p 8 ++ (be o.n 8 ++ (o.r)))))))))))) := by show _ = _; rw [hM]; unfold enco; rw [List.append_assoc]
 have HW1 := hid hw
 have HO1 := hid (OB.keep HO0.out hk)
 have HB1 := hid (HB0.out.trans hb)
 have HK1 := hid (HK0.out.trans hk)
 clear hM hw hb hk HW0 HO0 HB0 HK0 HL0
 have c1 := HO1.out.cell 1 (v := .int .u8 (o.f : Int)) rfl
 go_wp2_with fail
 clear c1
 refine (u8w_keep B gw o.f M1 _ HW1.out HS.out.fits.f (by have := HL1.out; omega)).mono ?_
 rintro e w2 ⟨rfl, hw, hb, hk⟩
 obtain ⟨M2, hM⟩ : ∃ M, M = M1 ++ be o.f 1 := ⟨_, rfl⟩
 rw [← hM] at hw
 have HL2 : Hid (M2.length ≤ 500000002) := by have h1 := HL1.out; show _ ≤ _; rw [hM, List.length_append, length_be]; omega
 have HM2 : Hid (L ++ enco o = M2 ++ (be o.h 8 ++ (be o.a 8 ++ (be o.b 8 ++ (str o.s ++ (str o.t ++ (str o.c ++ (str o.d ++ (be o.p 8 ++ (be o.n 8 ++ (o.r))))))))))) := by show _ = _; rw [HM1.out, hM]; rw [List.append_assoc]
 have HW2 := hid hw
 have HO2 := hid (OB.keep HO1.out hk)
 have HB2 := hid (HB1.out.trans hb)
 have HK2 := hid (HK1.out.trans hk)
 clear hM hw hb hk HW1 HO1 HB1 HK1 HL1 HM1
 have c2 := HO2.out.cell 2 (v := .int .i64 (AnsW.sg o.h)) rfl
 go_wp2_with fail
 clear c2
 refine (i64w_keep B gw o.h M2 _ HW2.out HS.out.fits.h (by have := HL2.out; omega)).mono ?_
 rintro e w3 ⟨rfl, hw, hb, hk⟩
 obtain ⟨M3, hM⟩ : ∃ M, M = M2 ++ be o.h 8 := ⟨_, rfl⟩
 rw [← hM] at hw
 have HL3 : Hid (M3.length ≤ 500000010) := by have h1 := HL2.out; show _ ≤ _; rw [hM, List.length_append, length_be]; omega
 have HM3 : Hid (L ++ enco o = M3 ++ (be o.a 8 ++ (be o.b 8 ++ (str o.s ++ (str o.t ++ (str o.c ++ (str o.d ++ (be o.p 8 ++ (be o.n 8 ++ (o.r)))))))))) := by show _ = _; rw [HM2.out, hM]; rw [List.append_assoc]
 have HW3 := hid hw
 have HO3 := hid (OB.keep HO2.out hk)
 have HB3 := hid (HB2.out.trans hb)
 have HK3 := hid (HK2.out.trans hk)
 clear hM hw hb hk HW2 HO2 HB2 HK2 HL2 HM2
 have c3 := HO3.out.cell 3 (v := .int .i64 (AnsW.sg o.a)) rfl
 go_wp2_with fail
 clear c3
 refine (i64w_keep B gw o.a M3 _ HW3.out HS.out.fits.a (by have := HL3.out; omega)).mono ?_
 rintro e w4 ⟨rfl, hw, hb, hk⟩
 obtain ⟨M4, hM⟩ : ∃ M, M = M3 ++ be o.a 8 := ⟨_, rfl⟩
 rw [← hM] at hw
 have HL4 : Hid (M4.length ≤ 500000018) := by have h1 := HL3.out; show _ ≤ _; rw [hM, List.length_append, length_be]; omega
 have HM4 : Hid (L ++ enco o = M4 ++ (be o.b 8 ++ (str o.s ++ (str o.t ++ (str o.c ++ (str o.d ++ (be o.p 8 ++ (be o.n 8 ++ (o.r))))))))) := by show _ = _; rw [HM3.out, hM]; rw [List.append_assoc]
 have HW4 := hid hw
 have HO4 := hid (OB.keep HO3.out hk)
 have HB4 := hid (HB3.out.trans hb)
 have HK4 := hid (HK3.out.trans hk)
 clear hM hw hb hk HW3 HO3 HB3 HK3 HL3 HM3
 have c4 := HO4.out.cell 4 (v := .int .i64 (AnsW.sg o.b)) rfl
 go_wp2_with fail
 clear c4
 refine (i64w_keep B gw o.b M4 _ HW4.out HS.out.fits.b (by have := HL4.out; omega)).mono ?_
 rintro e w5 ⟨rfl, hw, hb, hk⟩
 obtain ⟨M5, hM⟩ : ∃ M, M = M4 ++ be o.b 8 := ⟨_, rfl⟩
 rw [← hM] at hw
 have HL5 : Hid (M5.length ≤ 500000026) := by have h1 := HL4.out; show _ ≤ _; rw [hM, List.length_append, length_be]; omega
 have HM5 : Hid (L ++ enco o = M5 ++ (str o.s ++ (str o.t ++ (str o.c ++ (str o.d ++ (be o.p 8 ++ (be o.n 8 ++ (o.r)))))))) := by show _ = _; rw [HM4.out, hM]; rw [List.append_assoc]
 have HW5 := hid hw
 have HO5 := hid (OB.keep HO4.out hk)
 have HB5 := hid (HB4.out.trans hb)
 have HK5 := hid (HK4.out.trans hk)
 clear hM hw hb hk HW4 HO4 HB4 HK4 HL4 HM4
 have c5 := HO5.out.cell 5 (v := .string (strOf o.s)) rfl
 go_wp2_with fail
 clear c5
 refine (strw_keep B gw M5 (strOf o.s) _ HW5.out (by have := HL5.out; omega) (by rw [size_strOf]; exact HS.out.s)).mono ?_
 rintro e w6 ⟨rfl, hw, hb, hk⟩
 rw [show (strOf o.s).data.toList = o.s from rfl] at hw
 obtain ⟨M6, hM⟩ : ∃ M, M = M5 ++ str o.s := ⟨_, rfl⟩
 rw [← hM] at hw
 have HL6 : Hid (M6.length ≤ 501000030) := by have h1 := HL5.out; show _ ≤ _; rw [hM, List.length_append, str, List.length_append, length_be]; have := HS.out.s; omega
 have HM6 : Hid (L ++ enco o = M6 ++ (str o.t ++ (str o.c ++ (str o.d ++ (be o.p 8 ++ (be o.n 8 ++ (o.r))))))) := by show _ = _; rw [HM5.out, hM]; rw [List.append_assoc]
 have HW6 := hid hw
 have HO6 := hid (OB.keep HO5.out hk)
 have HB6 := hid (HB5.out.trans hb)
 have HK6 := hid (HK5.out.trans hk)
 clear hM hw hb hk HW5 HO5 HB5 HK5 HL5 HM5
 have c6 := HO6.out.cell 6 (v := .string (strOf o.t)) rfl
 go_wp2_with fail
 clear c6
 refine (strw_keep B gw M6 (strOf o.t) _ HW6.out (by have := HL6.out; omega) (by rw [size_strOf]; exact HS.out.t)).mono ?_
 rintro e w7 ⟨rfl, hw, hb, hk⟩
 rw [show (strOf o.t).data.toList = o.t from rfl] at hw
 obtain ⟨M7, hM⟩ : ∃ M, M = M6 ++ str o.t := ⟨_, rfl⟩
 rw [← hM] at hw
 have HL7 : Hid (M7.length ≤ 502000034) := by have h1 := HL6.out; show _ ≤ _; rw [hM, List.length_append, str, List.length_append, length_be]; have := HS.out.t; omega
 have HM7 : Hid (L ++ enco o = M7 ++ (str o.c ++ (str o.d ++ (be o.p 8 ++ (be o.n 8 ++ (o.r)))))) := by show _ = _; rw [HM6.out, hM]; rw [List.append_assoc]
 have HW7 := hid hw
 have HO7 := hid (OB.keep HO6.out hk)
 have HB7 := hid (HB6.out.trans hb)
 have HK7 := hid (HK6.out.trans hk)
 clear hM hw hb hk HW6 HO6 HB6 HK6 HL6 HM6
 have c7 := HO7.out.cell 7 (v := .string (strOf o.c)) rfl
 go_wp2_with fail
 clear c7
 refine (strw_keep B gw M7 (strOf o.c) _ HW7.out (by have := HL7.out; omega) (by rw [size_strOf]; exact HS.out.c)).mono ?_
 rintro e w8 ⟨rfl, hw, hb, hk⟩
 rw [show (strOf o.c).data.toList = o.c from rfl] at hw
 obtain ⟨M8, hM⟩ : ∃ M, M = M7 ++ str o.c := ⟨_, rfl⟩
 rw [← hM] at hw
 have HL8 : Hid (M8.length ≤ 503000038) := by have h1 := HL7.out; show _ ≤ _; rw [hM, List.length_append, str, List.length_append, length_be]; have := HS.out.c; omega
 have HM8 : Hid (L ++ enco o = M8 ++ (str o.d ++ (be o.p 8 ++ (be o.n 8 ++ (o.r))))) := by show _ = _; rw [HM7.out, hM]; rw [List.append_assoc]
 have HW8 := hid hw
 have HO8 := hid (OB.keep HO7.out hk)
 have HB8 := hid (HB7.out.trans hb)
 have HK8 := hid (HK7.out.trans hk)
 clear hM hw hb hk HW7 HO7 HB7 HK7 HL7 HM7
 have c8 := HO8.out.cell 8 (v := .string (strOf o.d)) rfl
 go_wp2_with fail
 clear c8
 refine (strw_keep B gw M8 (strOf o.d) _ HW8.out (by have := HL8.out; omega) (by rw [size_strOf]; exact HS.out.d)).mono ?_
 rintro e w9 ⟨rfl, hw, hb, hk⟩
 rw [show (strOf o.d).data.toList = o.d from rfl] at hw
 obtain ⟨M9, hM⟩ : ∃ M, M = M8 ++ str o.d := ⟨_, rfl⟩
 rw [← hM] at hw
 have HL9 : Hid (M9.length ≤ 504000042) := by have h1 := HL8.out; show _ ≤ _; rw [hM, List.length_append, str, List.length_append, length_be]; have := HS.out.d; omega
 have HM9 : Hid (L ++ enco o = M9 ++ (be o.p 8 ++ (be o.n 8 ++ (o.r)))) := by show _ = _; rw [HM8.out, hM]; rw [List.append_assoc]
 have HW9 := hid hw
 have HO9 := hid (OB.keep HO8.out hk)
 have HB9 := hid (HB8.out.trans hb)
 have HK9 := hid (HK8.out.trans hk)
 clear hM hw hb hk HW8 HO8 HB8 HK8 HL8 HM8
 have c9 := HO9.out.cell 9 (v := .int .i64 (AnsW.sg o.p)) rfl
 go_wp2_with fail
 clear c9
 refine (i64w_keep B gw o.p M9 _ HW9.out HS.out.fits.p (by have := HL9.out; omega)).mono ?_
 rintro e w10 ⟨rfl, hw, hb, hk⟩
 obtain ⟨M10, hM⟩ : ∃ M, M = M9 ++ be o.p 8 := ⟨_, rfl⟩
 rw [← hM] at hw
 have HL10 : Hid (M10.length ≤ 504000050) := by have h1 := HL9.out; show _ ≤ _; rw [hM, List.length_append, length_be]; omega
 have HM10 : Hid (L ++ enco o = M10 ++ (be o.n 8 ++ (o.r))) := by show _ = _; rw [HM9.out, hM]; rw [List.append_assoc]
 have HW10 := hid hw
 have HO10 := hid (OB.keep HO9.out hk)
 have HB10 := hid (HB9.out.trans hb)
 have HK10 := hid (HK9.out.trans hk)
 clear hM hw hb hk HW9 HO9 HB9 HK9 HL9 HM9
 have c10 := HO10.out.cell 10 (v := .int .i64 (AnsW.sg o.n)) rfl
 go_wp2_with fail
 clear c10
 refine (i64w_keep B gw o.n M10 _ HW10.out HS.out.fits.n (by have := HL10.out; omega)).mono ?_
 rintro e w11 ⟨rfl, hw, hb, hk⟩
 obtain ⟨M11, hM⟩ : ∃ M, M = M10 ++ be o.n 8 := ⟨_, rfl⟩
 rw [← hM] at hw
 have HL11 : Hid (M11.length ≤ 504000058) := by have h1 := HL10.out; show _ ≤ _; rw [hM, List.length_append, length_be]; omega
 have HM11 : Hid (L ++ enco o = M11 ++ (o.r)) := by show _ = _; rw [HM10.out, hM]; rw [List.append_assoc]
 have HW11 := hid hw
 have HO11 := hid (OB.keep HO10.out hk)
 have HB11 := hid (HB10.out.trans hb)
 have HK11 := hid (HK10.out.trans hk)
 clear hM hw hb hk HW10 HO10 HB10 HK10 HL10 HM10
 have hld := HO11.out.bytes HS.out.fits.r Tryz.underlying33 (by kernel_rfl)
 have hr := HS.out.fits.r
 obtain ⟨R, hR⟩ : ∃ R, R = o.r := ⟨_, rfl⟩
 rw [← hR] at hld hr
 have HM := HM11
 rw [← hR] at HM
 have HRL := hid hr
 have HLD := hid hld
 clear hr hR HM11 hld
 go_wp2_with (refine load_as HLD.out (.tmp 54) rfl rfl rfl ?_)
 go_loopw [56] (fun vk wr => ∃ (k : Nat) (X : List UInt8), k ≤ 16 ∧ vk = .int .i64 (k : Int) ∧ Hid (X = M11 ++ R.take k) ∧ Hid (IsW B gw X wr) ∧ Hid (Below B w wr) ∧ Hid (KeepW w wr)) (fun vk _ => 16 - (intOf vk).toNat)
 case atStart => exact ⟨0, M11, by omega, rfl, by show _ = _; simp, HW11.out, HB11.out, HK11.out⟩
 case round =>
  obtain ⟨k, X, hk, rfl, HX, HW, HB, HK⟩ := hrel
  by_cases hlt : k < 16
  ·have hkl : k < R.length := by rw [HRL.out]; exact hlt
   have hix := fun W => at_bytes (S := 33) (e := 5) (n := 16) k hkl HRL.out.symm Tryz.underlying33 Tryz.underlying5 (by kernel_rfl) W
   have HXL : Hid (X.length ≤ 600000000) := by
    have h1 := HL11.out
    show _ ≤ _
    rw [HX.out, List.length_append, List.length_take]
    omega
   obtain ⟨d, hd⟩ : ∃ d, d = R[k] := ⟨_, rfl⟩
   rw [← hd] at hix
   have HX2 : Hid (X ++ be d.toNat 1 = M11 ++ R.take (k + 1)) := by
    show _ = _
    rw [HX.out, List.take_succ_eq_append_getElem hkl, hd, List.append_assoc]
    congr 2
    simp [be]
   have hdn := d.toNat_lt
   clear hd hkl
   go_wp2_with fail
   clear hix
   refine (u8w_keep B gw d.toNat X _ HW.out hdn (by have := HXL.out; omega)).mono ?_
   rintro e w2 ⟨rfl, hw, hb, hk2⟩
   have HW2 := hid hw
   have HB2 := hid (HB.out.trans hb)
   have HK2 := hid (HK.out.trans hk2)
   clear hw hb hk2 hdn
   go_wp2
   go_roundw
   case rel => exact ⟨k + 1, _, by omega, by go_num, HX2.out, HW2.out, HB2.out, HK2.out⟩
   case measure => simp [intOf]; omega
  ·obtain rfl : k = 16 := by omega
   have HX2 : Hid (X = L ++ enco o) := by show _ = _; rw [HX.out, HM.out, ← HRL.out, List.take_length]
   go_wp2
   go_end0
   exact ⟨rfl, HX2.out ▸ HW.out, HB.out, HK.out⟩
end Go.Proofs.YtegpfgccaminkaaGreatDoor.ScrW
namespace Go.Proofs.YtegpfgccaminkaaGreatDoor.ScrE
open Go.RowKit Base Base2 AnsP AnsW ScrP ScrB ScrW
theorem encs_small (l : List O) (h : ∀ o ∈ l, Small o) : (encs l).length ≤ 4000100 * l.length := by
 induction l with
 | nil => simp [encs]
 | cons o l ih =>
  have e : encs (o :: l) = enco o ++ encs l := rfl
  have h1 := h o (by simp)
  have := length_enco o h1.fits
  have := ih fun x hx => h x (by simp [hx])
  have := h1.s; have := h1.t; have := h1.c; have := h1.d
  rw [e, List.length_append, List.length_cons]
  omega
theorem new_writer (w : World) : IsW w.heap.size w.heap.size [] (w.alloc (.cells #[.slice none 0 0] 176)) := ⟨_, heap_alloc_new w _, World.ownsRow_nil _ _ _ _, Nat.le_refl _⟩
set_option maxRecDepth 100000 in
set_option maxHeartbeats 8000000 in
theorem encode_any (A : Option Addr) (n c : Nat) (l : List O) (w : World) (h : Ops w A n l) (hs : ∀ o ∈ l, Small o) (hn : n ≤ 100) :
  Calls Tryz.prog 54 #[.slice A n c] w fun e w' => ∃ v, e = .returned v ∧ w'.ownsRow w.heap.size 5 1 v (encs l).length (bcells (encs l)) ∧ Below w.heap.size w w' := by
 have hln := h.1
 have HLN := hid hln
 have HH := hid h
 have HS := hid hs
 have HLE : Hid ((encs l).length ≤ 400010000) := by have := encs_small l hs; rw [hln] at this; show _ ≤ _; omega
 clear h hs hln
 go_enter Tryz.func54, Tryz.ntmps54
 go_upto_region 3 with (fail)
 generalize hw : World.alloc w _ = W0
 have h1 : IsW w.heap.size w.heap.size [] W0 ∧ Below w.heap.size w W0 := by
  subst hw
  exact ⟨new_writer w, (Below.refl _ _).alloc (Nat.le_refl _) _⟩
 have HW0 := hid h1.1
 have HB0 := hid h1.2
 clear h1 hw
 go_loopw [5, 8] (fun _ vk wr => ∃ (k : Nat) (X : List UInt8), k ≤ n ∧ vk = .int .i64 (k : Int) ∧ Hid (X = encs (l.take k)) ∧ Hid (IsW w.heap.size w.heap.size X wr) ∧ Hid (Below w.heap.size w wr)) (fun _ vk _ => n - (intOf vk).toNat)
 case atStart => exact ⟨0, [], Nat.zero_le _, rfl, by show _ = _; rfl, HW0.out, HB0.out⟩
 case round =>
  obtain ⟨k, X, hk, rfl, HX, HW, HB⟩ := hrel
  by_cases hlt : k < n
  ·have hkl : k < l.length := by rw [HLN.out]; exact hlt
   have HO := hid (HH.out.below HB.out)
   obtain ⟨b, off, rfl, hbl⟩ := HO.out.spot (by omega)
   have hld := HO.out.load k hkl (S := 120) Tryz.underlying120 (by kernel_rfl)
   obtain ⟨o, ho⟩ : ∃ o, o = l[k] := ⟨_, rfl⟩
   rw [← ho] at hld
   have HSO : Hid (Small o) := HS.out o (by rw [ho]; exact List.getElem_mem hkl)
   have HX2 : Hid (X ++ enco o = encs (l.take (k + 1))) := by show _ = _; rw [HX.out, ho, List.take_succ_eq_append_getElem hkl, encs_append]; simp [encs]
   have HXL : Hid (X.length ≤ 400010000) := by
    have h1 : encs l = encs (l.take k) ++ encs (l.drop k) := by rw [← encs_append, List.take_append_drop]
    have := congrArg List.length h1
    have := HLE.out
    rw [List.length_append, ← HX.out] at *
    show _ ≤ _
    omega
   have HLD := hid hld
   clear ho hkl hld
   go_upto_region 5 with (first | refine load_as HLD.out (.tmp 10) rfl rfl rfl ?_ | refine store_op (heap_alloc_new _ _) rfl o HSO.out.fits.r (.tmp 5) (.tmp 11) rfl rfl rfl rfl (by kernel_rfl) ?_)
   generalize hW : World.setRow _ _ _ = W1
   have h1 : OB 120 W1 wr.heap.size o ∧ Below wr.heap.size wr W1 := by
    subst hW
    exact fresh _ _ _ _
   have HO1 := hid h1.1
   have HW1 := hid (HW.out.below h1.2)
   have HB1 := hid (HB.out.trans (h1.2.mono HB.out.size))
   have HLD1 := hid (h1.1.load HSO.out.fits.r Tryz.underlying120 (by kernel_rfl))
   clear h1 hW HLD HW HB HO hbl
   go_wp2_with (first | refine load_as HLD1.out (.tmp 5) rfl rfl rfl ?_ | fail)
   refine (write_any w.heap.size w.heap.size X o _ HW1.out HSO.out (by have := HXL.out; omega)).mono ?_
   rintro e w2 ⟨rfl, hw, hb, hk2⟩
   have HW2 := hid hw
   have HB2 := hid (HB1.out.trans hb)
   clear hw hb hk2 HW1 HB1 HO1
   go_wp2
   go_roundw
   case rel => exact ⟨k + 1, _, by omega, by go_num, HX2.out, HW2.out, HB2.out⟩
   case measure => simp [intOf]; omega
  ·obtain rfl : k = n := by omega
   have HX2 : Hid (X = encs l) := by show _ = _; rw [HX.out, ← HLN.out, List.take_length]
   go_wp2_with fail
   refine (bytesw_any w.heap.size w.heap.size X _ HW.out (by have := HLE.out; rw [HX2.out]; omega)).mono ?_
   rintro e w2 ⟨v, rfl, hown, hb⟩
   rw [HX2.out] at hown
   have HOW := hid (owns_base hown HB.out.size)
   have HB2 := hid (HB.out.trans (hb.mono HB.out.size))
   clear hown hb
   go_wp2
   go_ret
   exact ⟨_, rfl, HOW.out, HB2.out⟩
end Go.Proofs.YtegpfgccaminkaaGreatDoor.ScrE
namespace Go.Proofs.YtegpfgccaminkaaGreatDoor.TopW
open Go.RowKit Base Base2 AnsP ScrP ScrB ScrW ScrE OpqD StkG StkA StkH
set_option linter.unusedSimpArgs false
set_option linter.unusedVariables false
def o3 : O := ⟨3, 0, 0, 0, 0, [], [], [], [], 0, 0, List.replicate 16 0⟩
theorem small3 : Small o3 := ⟨⟨by decide, by decide, by decide, by decide, by decide, by decide, by decide, by decide, by decide, by decide, by decide, by decide⟩, by decide, by decide, by decide, by decide⟩
theorem len3 : (encs [o3]).length = 74 := by
 have := length_enco o3 small3.fits
 show (enco o3 ++ []).length = 74
 rw [List.append_nil, this]
 rfl
theorem one3 (W : World) : Ops (W.alloc (.cells (cells o3).toArray 120)) (some ⟨W.heap.size, 0, none⟩) 1 [o3] :=
 ⟨rfl, Rds.of_spot rfl (by simp) (fun j hj => by rw [Nat.zero_add, World.cell?_alloc_mark, List.getElem?_toArray]; exact List.getElem?_eq_getElem hj), by simp; rfl⟩
set_option maxRecDepth 100000 in
set_option maxHeartbeats 8000000 in
theorem awakeT (w : World) (E : EnvO w) : Calls Tryz.prog 26 #[] w fun e w' => e = .returned (.bool true) ∧ Below w.heap.size w w' := by
 have HE := hid E
 clear E
 have HOP := hid (one3 w)
 have HSM : Hid (∀ o ∈ [o3], Small o) := by intro x hx; simp at hx; subst hx; exact small3
 have HB0 : Hid (Below w.heap.size w (w.alloc (.cells (cells o3).toArray 120))) := (Below.refl _ _).alloc (Nat.le_refl _) _
 go_enter Tryz.func26, Tryz.ntmps26
 go_wp2_with fail
 refine (ScrE.encode_any _ 1 1 [o3] _ HOP.out HSM.out (by omega)).mono ?_
 rintro e w1 ⟨v, rfl, hown, hb⟩
 rw [len3] at hown
 obtain ⟨A, c, rfl, hnc, hcm, hr⟩ := owns_form hown
 have HB1 := hid (bel HB0.out hb)
 clear hown hr hb HOP HSM HB0
 go_wp2_with fail
 refine (new_ok 1 1 0 (by decide) (by decide) (by decide) (by decide) (by decide) _).mono ?_
 rintro e w2 ⟨gs, gt, gu, gm, rfl, _, hb⟩
 have HB2 := hid (bel HB1.out hb)
 clear hb HB1
 go_wp2_with fail
 refine (sf_blank (some ⟨gs, 0, none⟩) (.pointer none) ⟨#[]⟩ ⟨#[]⟩ 0 0 _ (HE.out.below HB2.out)).mono ?_
 rintro e w3 ⟨rfl, hb⟩
 have HB3 := hid (bel HB2.out hb)
 clear hb HB2
 have hfd : (Instr.field 56 (.agg #[.int .i64 3, .int .i64 200, .int .i64 0, .int .i64 0, .string ⟨#[116, 101, 120, 116, 47, 104, 116, 109, 108, 59, 99, 104, 97, 114, 115, 101, 116, 61, 117, 116, 102, 45, 56]⟩, .slice none 0 0]) 1).run Tryz.prog w3 = .ok (.int .i64 200) w3 := by first | rfl | kernel_rfl
 go_wp2
 go_ret
 exact ⟨rfl, HB3.out⟩
end Go.Proofs.YtegpfgccaminkaaGreatDoor.TopW
