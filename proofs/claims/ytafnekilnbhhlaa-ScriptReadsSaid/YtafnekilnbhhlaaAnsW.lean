/- Answers: a writer: numbers and texts, one behind the other. -/
import Derived.Test.YtafnekilnbhhlaaAnsP
import Derived.Test.YtafnekilnbhhlaaBase3
import Derived.Test.YtafnekilnbhhlaaRegp
import Derived.Test.YtafnekilnbhhlaaBlobA0
import Derived.Laws.OwnMore
namespace Go.Proofs.Ytafnekilnbhhlaa.AnsW
open Go.RowKit Go.Proofs.Ytafnekilnbhhlaa.Base Go.Proofs.Ytafnekilnbhhlaa.Base2 Go.Proofs.Ytafnekilnbhhlaa.Base3 Go.Proofs.Ytafnekilnbhhlaa.Regs Go.Proofs.Ytafnekilnbhhlaa.AnsP

/-- The block g is a writer that has written L; its row is the call's own. -/
def IsW (B g : Nat) (L : List UInt8) (w : World) : Prop := ∃ v, w.heap[g]? = some (.cells #[v] 57 (0, 0)) ∧ w.ownsRow B 5 1 v L.length (bcells L) ∧ B ≤ g
theorem add_at' (g o j : Nat) : (⟨g, o, none⟩ : Addr).add j = ⟨g, o + j, none⟩ := by unfold Addr.add; split <;> simp_all
theorem own_ne {w : World} {B g : Nat} {v : Value} {n : Nat} {xs : List Value} {C : Array Value} {mk : Nat × Nat} (h : w.heap[g]? = some (.cells C 57 mk)) (ho : w.ownsRow B 5 1 v n xs) : v.ownBlock ≠ some g := by
  rcases ho.2 with ⟨rfl, _⟩ | ⟨b, cap, cur, rfl, _, hb, _⟩
  · intro h; cases h
  · intro e
    injection e with e
    have e : b = g := e
    subst e
    rw [h] at hb
    injection hb with hb
    injection hb with _ hb
    cases hb
theorem IsW.lt {B g : Nat} {L : List UInt8} {w : World} (h : IsW B g L w) : g < w.heap.size := by obtain ⟨v, h, _⟩ := h; exact (Array.getElem?_eq_some_iff.1 h).1
theorem IsW.below {B g : Nat} {L : List UInt8} {w w' : World} (h : IsW B g L w) (hb : Below w.heap.size w w') : IsW B g L w' := by
  have hl := h.lt
  obtain ⟨v, h1, h2, h3⟩ := h
  exact ⟨v, (hb.block g hl).trans h1, owns_below h2 hb, h3⟩
theorem own_set {w : World} {B g : Nat} {v x : Value} {n : Nat} {xs : List Value} (ho : w.ownsRow B 5 1 v n xs) (hne : v.ownBlock ≠ some g) : (w.setCell ⟨g, 0, none⟩ x).ownsRow B 5 1 v n xs := by
  refine ⟨ho.1, ?_⟩
  rcases ho.2 with h | ⟨b, cap, cur, rfl, hB, hb, r⟩
  · exact .inl h
  · exact .inr ⟨b, cap, cur, rfl, hB, (heap_setCell_other w _ _ _ (fun e => hne (congrArg some e))).trans hb, r⟩
theorem IsW.put {B g : Nat} {w1 w2 : World} {v v' : Value} {L M : List UInt8} (h : w1.heap[g]? = some (.cells #[v] 57 (0, 0))) (hown : w1.ownsRow B 5 1 v L.length (bcells L)) (hB : B ≤ g)
    (hg : w1.grownBy w2 v.ownBlock) (hown' : w2.ownsRow B 5 1 v' (L.length + M.length) (bcells L ++ bcells M)) :
    IsW B g (L ++ M) (w2.setCell ⟨g, 0, none⟩ v') ∧ Below B w1 (w2.setCell ⟨g, 0, none⟩ v') := by
  have hl := (Array.getElem?_eq_some_iff.1 h).1
  have h2 : w2.heap[g]? = some (.cells #[v] 57 (0, 0)) := (hg.block g hl (fun e => own_ne h hown e.symm)).trans h
  refine ⟨⟨v', heap_setCell_same w2 g 0 _ _ v' h2, ?_, hB⟩, ((Below.refl B w1).grown hg (by omega) (fun k hk => (hown.lt k hk).1)).setCell (p := ⟨g, 0, none⟩) hB _⟩
  have := own_set (g := g) (x := v') hown' (own_ne h2 hown')
  simpa [bcells] using this
/-- What a writer leaves: every block but rows of bytes and writers stays. -/
def KeepW (w w' : World) : Prop := ∀ (k : Nat) (C : Array Value) (T : TypeId) (m : Nat × Nat), T ≠ 5 → T ≠ 57 → w.heap[k]? = some (.cells C T m) → w'.heap[k]? = some (.cells C T m)
theorem KeepW.refl (w : World) : KeepW w w := fun _ _ _ _ _ _ h => h
theorem KeepW.trans {w w1 w2 : World} (h : KeepW w w1) (h2 : KeepW w1 w2) : KeepW w w2 := fun k C T m a b e => h2 k C T m a b (h k C T m a b e)
theorem KeepW.below {w w' : World} (h : Below w.heap.size w w') : KeepW w w' := fun k _ _ _ _ _ e => (h.block k (Array.getElem?_eq_some_iff.1 e).1).trans e
theorem KeepW.put {B g : Nat} {w1 w2 : World} {v v' : Value} {n : Nat} {xs : List Value} {C0 : Array Value} (h : w1.heap[g]? = some (.cells C0 57 (0, 0))) (hown : w1.ownsRow B 5 1 v n xs) (hg : w1.grownBy w2 v.ownBlock) : KeepW w1 (w2.setCell ⟨g, 0, none⟩ v') := by
  intro k C T m h1 h2 e
  have hk : k ≠ g := by
    rintro rfl
    rw [h] at e
    injection e with e
    injection e with _ e
    exact h2 e.symm
  have hb : some k ≠ v.ownBlock := by
    rcases hown.2 with ⟨rfl, _⟩ | ⟨b, cap, cur, rfl, _, hb, _⟩
    · intro h; cases h
    · intro e2
      injection e2 with e2
      have e2 : k = b := e2
      subst e2
      rw [hb] at e
      injection e with e
      injection e with _ e
      exact h1 e.symm
  exact (heap_setCell_other w2 ⟨g, 0, none⟩ k v' hk).trans ((hg.block k (Array.getElem?_eq_some_iff.1 e).1 hb).trans e)
set_option maxRecDepth 100000 in
set_option maxHeartbeats 4000000 in
theorem number_keep (B g n m : Nat) (L : List UInt8) (w : World) (h : IsW B g L w) (hn : n < 18446744073709551616) (hm : m ≤ 8) (hl : L.length ≤ 1073741824) :
    Calls Try.prog 40 #[.pointer (some ⟨g, 0, none⟩), .int .u64 (n : Int), .int .i64 (m : Int)] w fun e w' => e = .returned (.tuple #[]) ∧ IsW B g (L ++ be n m) w' ∧ Below B w w' ∧ KeepW w w' := by
  obtain ⟨i0, hi, hz0, hz1, hz2⟩ := info_parts info_u8
  have HL := hid hl
  have HH := hid h
  clear h hl
  go_enter Try.func40, Try.ntmps40
  go_wp2
  go_loopw [6] (fun vk wr => ∃ (z : Int) (k : Nat) (X : List UInt8), vk = .int .i64 z ∧ k ≤ m ∧ Hid (z = 8 * (k : Int) - 8) ∧ Hid (X ++ be n k = L ++ be n m) ∧ Hid (IsW B g X wr) ∧ Hid (Below B w wr) ∧ Hid (KeepW w wr)) (fun vk _ => (intOf vk + 8).toNat)
  case atStart => exact ⟨_, m, L, rfl, Nat.le_refl _, by show _ = _; omega, rfl, HH.out, Below.refl _ _, KeepW.refl _⟩
  case round =>
    obtain ⟨z, k, X, rfl, hkm, HZ, HX, HW, HB, HKE⟩ := hrel
    cases k with
    | zero =>
      have hz : z = -8 := by have := HZ.out; omega
      subst hz
      have HX2 : Hid (X = L ++ be n m) := by have := HX.out; rwa [be, List.append_nil] at this
      go_wp2
      go_end0
      exact ⟨rfl, HX2.out ▸ HW.out, HB.out, HKE.out⟩
    | succ k =>
      have hz : z = ((8 * k : Nat) : Int) := by have := HZ.out; omega
      have hzn : 0 ≤ z := by omega
      have hz9 : z ≤ 9223372036854775807 := by omega
      obtain ⟨c, hc⟩ : ∃ c, c = UInt8.ofNat (n / 256 ^ k) := ⟨_, rfl⟩
      have HC := hid hc
      clear hc
      have HXL : Hid (X.length + 1 ≤ 1073741840) := by
        have := congrArg List.length HX.out
        rw [List.length_append, List.length_append, length_be, length_be] at this
        have := HL.out
        show _ ≤ _
        omega
      have HX2 : Hid ((X ++ [c]) ++ be n k = L ++ be n m) := by show _ = _; rw [← HX.out, HC.out, be, List.append_assoc]; rfl
      have HCW : Hid (IntKind.u8.wrap ((n : Int) / 2 ^ min z.toNat 64) = (c.toNat : Int)) := by
        show _ = _
        have e1 : min z.toNat 64 = 8 * k := by omega
        have e2 : (n : Int) / 2 ^ (8 * k) = ((n / 256 ^ k : Nat) : Int) := by
          have e0 : (2 : Int) ^ (8 * k) = ((256 ^ k : Nat) : Int) := by rw [show (256 : Nat) = 2 ^ 8 from rfl, ← Nat.pow_mul]; simp
          rw [e0, Int.natCast_ediv]
        rw [e1, e2, IntKind.wrap_u8', HC.out]
        simp
      have HKZ := hid hz
      clear hz
      obtain ⟨v, hv, hown, hBg⟩ := HW.out
      have HV := hid hv
      have HO := hid hown
      have HLT : Hid (g < wr.heap.size) := (Array.getElem?_eq_some_iff.1 hv).1
      have c0 : wr.drew.cell? ⟨g, 0, none⟩ = some v := (cell_of_row wr g 0 _ _ _ hv).trans rfl
      clear hv hown
      go_wp2_with fail
      refine wp_region_any (by kernel_rfl) ?_
      change wpAny _ _ _ _ _ _ _ (World.drew _)
      refine wpAny_take (i := 0) (v := (.pointer (some ⟨g, 0, none⟩))) rfl (by kernel_rfl) (by kernel_rfl) (by kernel_rfl) (fun _ _ _ h => h) (Or.inl ⟨by rfl, ?yy0⟩) ?_
      case yy0 => (intro w; go_simp; try with_reducible rfl)
      simp only [List.getElem_toArray, List.getElem_cons_zero, List.getElem_cons_succ, Act.put, List.setIfInBounds_toArray, List.set_cons_zero, List.set_cons_succ]
      refine wpAny_go 10 [is (.pointer (some ⟨g, 0, none⟩)), is (.pointer (some ⟨g, 0, none⟩)), is (.pointer (some ⟨g, 0, none⟩)), is (.pointer (some ⟨g, 0, none⟩)), is (v), is (.int .u64 (n : Int)), is (.int .i64 z), is (.int .u64 ((n : Int) / 2 ^ min z.toNat 64)), is (.int .u8 (c.toNat : Int)), row 1 [.int .u8 (c.toNat : Int)]] [[], [], [1], [1, 2], [1, 2, 3], [], [], [5, 6], [5, 6, 7], [5, 6, 7, 8], [1, 2, 3, 4, 5, 6, 7, 8, 9]] [0] (by kernel_rfl) (by kernel_rfl) (by kernel_rfl) ?_ ?_ ?_
      · intro k hk; simp only [List.mem_cons, List.not_mem_nil, or_false] at hk; subst hk; rfl
      · refine ⟨?_, ?_, ?_, ?_, ?_, ?_, ?_, ?_, ?_, ?_, trivial⟩
        · intro t wq hbq hh K hK
          clear hh
          simp only [filled, filledN, upd, Have, is, any, row, pick, Act.put, List.setIfInBounds_toArray, List.set_cons_zero, List.set_cons_succ, Nat.reduceAdd, Nat.reduceEqDiff, reduceIte] at hK ⊢
          go_simp
          exact hK _ _ (Below.refl _ _) rfl
        · intro t wq hbq hh K hK
          clear hh
          simp only [filled, filledN, upd, Have, is, any, row, pick, Act.put, List.setIfInBounds_toArray, List.set_cons_zero, List.set_cons_succ, Nat.reduceAdd, Nat.reduceEqDiff, reduceIte] at hK ⊢
          go_simp
          exact hK _ _ (Below.refl _ _) rfl
        · intro t wq hbq hh K hK
          have e1 := hh.1
          simp only [pick] at e1
          replace e1 : t 1 = (.pointer (some ⟨g, 0, none⟩)) := e1
          clear hh
          simp only [filled, filledN, upd, Have, is, any, row, pick, Act.put, List.setIfInBounds_toArray, List.set_cons_zero, List.set_cons_succ, Nat.reduceAdd, Nat.reduceEqDiff, reduceIte] at hK ⊢
          simp only [e1] at hK ⊢
          go_simp
          exact hK _ _ (Below.refl _ _) rfl
        · intro t wq hbq hh K hK
          have e2 := hh.2.1
          simp only [pick] at e2
          replace e2 : t 2 = (.pointer (some ⟨g, 0, none⟩)) := e2
          clear hh
          simp only [filled, filledN, upd, Have, is, any, row, pick, Act.put, List.setIfInBounds_toArray, List.set_cons_zero, List.set_cons_succ, Nat.reduceAdd, Nat.reduceEqDiff, reduceIte] at hK ⊢
          simp only [e2] at hK ⊢
          go_simp
          exact hK _ _ (Below.refl _ _) rfl
        · intro t wq hbq hh K hK
          have e3 := hh.2.2.1
          simp only [pick] at e3
          replace e3 : t 3 = (.pointer (some ⟨g, 0, none⟩)) := e3
          clear hh
          simp only [filled, filledN, upd, Have, is, any, row, pick, Act.put, List.setIfInBounds_toArray, List.set_cons_zero, List.set_cons_succ, Nat.reduceAdd, Nat.reduceEqDiff, reduceIte] at hK ⊢
          simp only [e3] at hK ⊢
          have hq := (hbq.cell (p := ⟨g, 0, none⟩) HLT.out).trans c0
          go_simp
          exact hK _ _ (Below.refl _ _) rfl
        · intro t wq hbq hh K hK
          clear hh
          simp only [filled, filledN, upd, Have, is, any, row, pick, Act.put, List.setIfInBounds_toArray, List.set_cons_zero, List.set_cons_succ, Nat.reduceAdd, Nat.reduceEqDiff, reduceIte] at hK ⊢
          go_simp
          exact hK _ _ (Below.refl _ _) rfl
        · intro t wq hbq hh K hK
          clear hh
          simp only [filled, filledN, upd, Have, is, any, row, pick, Act.put, List.setIfInBounds_toArray, List.set_cons_zero, List.set_cons_succ, Nat.reduceAdd, Nat.reduceEqDiff, reduceIte] at hK ⊢
          go_simp
          exact hK _ _ (Below.refl _ _) rfl
        · intro t wq hbq hh K hK
          have e5 := hh.1
          simp only [pick] at e5
          replace e5 : t 5 = (.int .u64 (n : Int)) := e5
          have e6 := hh.2.1
          simp only [pick] at e6
          replace e6 : t 6 = (.int .i64 z) := e6
          clear hh
          simp only [filled, filledN, upd, Have, is, any, row, pick, Act.put, List.setIfInBounds_toArray, List.set_cons_zero, List.set_cons_succ, Nat.reduceAdd, Nat.reduceEqDiff, reduceIte] at hK ⊢
          simp only [e5, e6] at hK ⊢
          go_simp
          exact hK _ _ (Below.refl _ _) rfl
        · intro t wq hbq hh K hK
          have e7 := hh.2.2.1
          simp only [pick] at e7
          replace e7 : t 7 = (.int .u64 ((n : Int) / 2 ^ min z.toNat 64)) := e7
          clear hh
          simp only [filled, filledN, upd, Have, is, any, row, pick, Act.put, List.setIfInBounds_toArray, List.set_cons_zero, List.set_cons_succ, Nat.reduceAdd, Nat.reduceEqDiff, reduceIte] at hK ⊢
          simp only [e7] at hK ⊢
          go_simp
          exact hK _ _ (Below.refl _ _) (int_eq HCW.out)
        · intro t wq hbq hh K hK
          have e8 := hh.2.2.2.1
          simp only [pick] at e8
          replace e8 : t 8 = (.int .u8 (c.toNat : Int)) := e8
          clear hh
          simp only [filled, filledN, upd, Have, is, any, row, pick, Act.put, List.setIfInBounds_toArray, List.set_cons_zero, List.set_cons_succ, Nat.reduceAdd, Nat.reduceEqDiff, reduceIte] at hK ⊢
          simp only [e8] at hK ⊢
          go_simp
          exact hK _ _ ((Below.refl _ _).alloc (Nat.le_refl _) _) ⟨_, _, rfl, by omega, by decide, Rds.of_spot rfl (by simp) (fun j hj => by have h0 : j = 0 := (by simpa using hj); subst h0; rw [Nat.zero_add, World.cell?_alloc_mark]; simp)⟩
      · intro t wq hbq hh
        have f0 := have_get hh 0 (by decide)
        simp only [pick] at f0
        replace f0 : t 0 = (.pointer (some ⟨g, 0, none⟩)) := f0
        have f4 := have_get hh 4 (by decide)
        simp only [pick] at f4
        replace f4 : t 4 = (v) := f4
        have f9 := have_get hh 9 (by decide)
        simp only [pick] at f9
        clear hh
        simp only [filled, filledN, upd, Have, is, any, row, pick, Act.put, List.setIfInBounds_toArray, List.set_cons_zero, List.set_cons_succ, Nat.reduceAdd, Nat.reduceEqDiff, reduceIte]
        obtain ⟨A9, c9, f9, hc9, hm9, hr9⟩ := f9
        simp only [f0, f4, f9]
        have hvq : wq.heap[g]? = some (.cells #[v] 57 (0, 0)) := (hbq.block g HLT.out).trans HV.out
        have hoq : wq.ownsRow B 5 1 v X.length (bcells X) := owns_below (w := wr.drew) HO.out hbq
        have hlq : g < wq.heap.size := Nat.lt_of_lt_of_le HLT.out hbq.size
        have HVQ := hid hvq
        have HLQ := hid hlq
        obtain ⟨b9, o9, rfl, _, hc9'⟩ := hr9.spot (by omega)
        have HC9 := hid hc9'
        clear hvq hlq hc9' hr9
        show wpList _ _ _ [_, _, _, _] _ _
        refine wpList_append_own _ rfl _ _ 25 rfl B 5 i0 (.int .u8 0) 1 1 Try.underlying25 hi hz0 hz1 hz2 rfl (by decide) v X.length (bcells X) rfl hoq ⟨b9, o9, none⟩ 1 c9 [.int .u8 (c.toNat : Int)] rfl rfl ?d1 (by intro u hu; simp at hu; subst hu; rfl) ?d2 ?d3 ?d4 ?_
        case d1 => intro j u hj; obtain ⟨hj', e⟩ := List.getElem?_eq_some_iff.1 hj; rw [add_at', HC9.out j hj', e]
        case d2 => have := HXL.out; unfold maxLen; omega
        case d3 => have := HXL.out; omega
        case d4 => have := HLQ.out; omega
        intro v' w2 hown' hgrow _
        have hput := IsW.put (M := [c]) HVQ.out hoq hBg hgrow hown'
        have HKP : Hid (KeepW w (w2.setCell ⟨g, 0, none⟩ v')) := HKE.out.trans ((KeepW.below (w := wr) (w' := wq) ⟨hbq.os, hbq.tape, hbq.output, hbq.size, hbq.block⟩).trans (KeepW.put HVQ.out hoq hgrow))
        have HP1 := hid hput.1
        have HP2 := hid hput.2
        have hv2 : w2.heap[g]? = some (.cells #[v] 57 (0, 0)) := (hgrow.block g HLQ.out (fun e => own_ne HVQ.out hoq e.symm)).trans HVQ.out
        have d0 : w2.cell? ⟨g, 0, none⟩ = some v := (cell_of_row w2 g 0 _ _ _ hv2).trans rfl
        have f0 : w2.frozen? ⟨g, 0, none⟩ = false := frozen_of_row w2 g 0 _ _ hv2
        obtain ⟨vA, vc, rfl, _, _, _⟩ := owns_form hown'
        have hBq := HB.out.drew.trans (hbq.mono (by have := HLT.out; show B ≤ wr.heap.size; omega))
        clear hoq hown' hput hgrow hv2
        have HBQ := hid hBq
        clear hBq
        go_wp2
        go_roundw
        case rel => exact ⟨_, k, X ++ [c], rfl, by omega, by have := HKZ.out; show _ = _; omega, HX2.out, HP1.out, HBQ.out.trans HP2.out, HKP.out⟩
        case measure => simp [intOf]; omega

theorem number_any (B g n m : Nat) (L : List UInt8) (w : World) (h : IsW B g L w) (hn : n < 18446744073709551616) (hm : m ≤ 8) (hl : L.length ≤ 1073741824) :
    Calls Try.prog 40 #[.pointer (some ⟨g, 0, none⟩), .int .u64 (n : Int), .int .i64 (m : Int)] w fun e w' => e = .returned (.tuple #[]) ∧ IsW B g (L ++ be n m) w' ∧ Below B w w' :=
  (number_keep B g n m L w h hn hm hl).mono fun _ _ ⟨a, b, c, _⟩ => ⟨a, b, c⟩

theorem be_nat (n : Nat) (x : Int) (k : Nat) (h : x = ((n % 2 ^ k : Nat) : Int)) : x = ((n % 2 ^ k : Nat) : Int) := h

set_option maxHeartbeats 1000000 in
theorem u8w_keep (B g n : Nat) (L : List UInt8) (w : World) (h : IsW B g L w) (hn : n < 256) (hl : L.length ≤ 1073741824) :
    Calls Try.prog 27 #[.pointer (some ⟨g, 0, none⟩), .int .u8 (n : Int)] w fun e w' => e = .returned (.tuple #[]) ∧ IsW B g (L ++ be n 1) w' ∧ Below B w w' ∧ KeepW w w' := by
  have HH := hid h
  have HL := hid hl
  clear h hl
  go_enter Try.func27, Try.ntmps27
  go_wp2_with fail
  refine (number_keep B g n 1 L _ HH.out (by omega) (by omega) HL.out).mono ?_
  rintro e w1 ⟨rfl, h1, hb1, hk1⟩
  have H1 := hid h1
  have HB1 := hid hb1
  have HK1 := hid hk1
  clear h1 hb1 hk1
  go_wp2
  go_end0
  exact ⟨rfl, H1.out, HB1.out, HK1.out⟩
theorem u8w_any (B g n : Nat) (L : List UInt8) (w : World) (h : IsW B g L w) (hn : n < 256) (hl : L.length ≤ 1073741824) :
    Calls Try.prog 27 #[.pointer (some ⟨g, 0, none⟩), .int .u8 (n : Int)] w fun e w' => e = .returned (.tuple #[]) ∧ IsW B g (L ++ be n 1) w' ∧ Below B w w' :=
  (u8w_keep B g n L w h hn hl).mono fun _ _ ⟨a, b, c, _⟩ => ⟨a, b, c⟩

set_option maxHeartbeats 1000000 in
theorem u32w_keep (B g n : Nat) (L : List UInt8) (w : World) (h : IsW B g L w) (hn : n < 4294967296) (hl : L.length ≤ 1073741824) :
    Calls Try.prog 41 #[.pointer (some ⟨g, 0, none⟩), .int .u32 (n : Int)] w fun e w' => e = .returned (.tuple #[]) ∧ IsW B g (L ++ be n 4) w' ∧ Below B w w' ∧ KeepW w w' := by
  have HH := hid h
  have HL := hid hl
  clear h hl
  go_enter Try.func41, Try.ntmps41
  go_wp2_with fail
  refine (number_keep B g n 4 L _ HH.out (by omega) (by omega) HL.out).mono ?_
  rintro e w1 ⟨rfl, h1, hb1, hk1⟩
  have H1 := hid h1
  have HB1 := hid hb1
  have HK1 := hid hk1
  clear h1 hb1 hk1
  go_wp2
  go_end0
  exact ⟨rfl, H1.out, HB1.out, HK1.out⟩
theorem u32w_any (B g n : Nat) (L : List UInt8) (w : World) (h : IsW B g L w) (hn : n < 4294967296) (hl : L.length ≤ 1073741824) :
    Calls Try.prog 41 #[.pointer (some ⟨g, 0, none⟩), .int .u32 (n : Int)] w fun e w' => e = .returned (.tuple #[]) ∧ IsW B g (L ++ be n 4) w' ∧ Below B w w' :=
  (u32w_keep B g n L w h hn hl).mono fun _ _ ⟨a, b, c, _⟩ => ⟨a, b, c⟩

/-- A number's bits as a signed one. -/
def sg (n : Nat) : Int := if n < 9223372036854775808 then n else (n : Int) - 18446744073709551616
theorem wrap_sg (n : Nat) (h : n < 18446744073709551616) : IntKind.u64.wrap (sg n) = (n : Int) := by
  rw [IntKind.wrap_u64]
  unfold sg
  split <;> omega
theorem sg_lo (n : Nat) (h : n < 18446744073709551616) : -9223372036854775808 ≤ sg n ∧ sg n ≤ 9223372036854775807 := by
  unfold sg
  split <;> omega
set_option maxHeartbeats 1000000 in
theorem i64w_keep (B g n : Nat) (L : List UInt8) (w : World) (h : IsW B g L w) (hn : n < 18446744073709551616) (hl : L.length ≤ 1073741824) :
    Calls Try.prog 28 #[.pointer (some ⟨g, 0, none⟩), .int .i64 (sg n)] w fun e w' => e = .returned (.tuple #[]) ∧ IsW B g (L ++ be n 8) w' ∧ Below B w w' ∧ KeepW w w' := by
  have HH := hid h
  have HL := hid hl
  have hw := wrap_sg n hn
  generalize sg n = z at hw ⊢
  clear h hl
  go_enter Try.func28, Try.ntmps28
  go_wp2_with fail
  refine (number_keep B g n 8 L _ HH.out hn (by omega) HL.out).mono ?_
  rintro e w1 ⟨rfl, h1, hb1, hk1⟩
  have H1 := hid h1
  have HB1 := hid hb1
  have HK1 := hid hk1
  clear h1 hb1 hk1
  go_wp2
  go_end0
  exact ⟨rfl, H1.out, HB1.out, HK1.out⟩
theorem i64w_any (B g n : Nat) (L : List UInt8) (w : World) (h : IsW B g L w) (hn : n < 18446744073709551616) (hl : L.length ≤ 1073741824) :
    Calls Try.prog 28 #[.pointer (some ⟨g, 0, none⟩), .int .i64 (sg n)] w fun e w' => e = .returned (.tuple #[]) ∧ IsW B g (L ++ be n 8) w' ∧ Below B w w' :=
  (i64w_keep B g n L w h hn hl).mono fun _ _ ⟨a, b, c, _⟩ => ⟨a, b, c⟩
set_option maxHeartbeats 1000000 in
theorem strw_keep (B g : Nat) (L : List UInt8) (s : ByteArray) (w : World) (h : IsW B g L w) (hl : L.length ≤ 1000000000) (hs : s.size ≤ 1000000) :
    Calls Try.prog 29 #[.pointer (some ⟨g, 0, none⟩), .string s] w fun e w' => e = .returned (.tuple #[]) ∧ IsW B g (L ++ str s.data.toList) w' ∧ Below B w w' ∧ KeepW w w' := by
  obtain ⟨i0, hi, hz0, hz1, hz2⟩ := info_parts info_u8
  have hsl : s.data.toList.length = s.size := Array.length_toList
  have HSL := hid hsl
  have HH := hid h
  have HL := hid hl
  have hs32 : (s.size : Int) ≤ 4294967295 := by omega
  clear h hl hsl
  go_enter Try.func29, Try.ntmps29
  go_wp2_with fail
  refine (u32w_keep B g s.size L _ HH.out (by omega) (by have := HL.out; omega)).mono ?_
  rintro e w1 ⟨rfl, h1, hb1, hk1⟩
  have hlt := h1.lt
  have HLT := hid hlt
  obtain ⟨v, hv, hown, hBg⟩ := h1
  have HV := hid hv
  have HB1 := hid hb1
  have HK1 := hid hk1
  have c0 : w1.cell? ⟨g, 0, none⟩ = some v := (cell_of_row w1 g 0 _ _ _ hv).trans rfl
  have HLL : Hid ((L ++ be s.size 4).length = L.length + 4) := by show _ = _; rw [List.length_append, length_be]
  clear hv hb1 hlt hk1
  go_wp2_with (at_builtin; refine Lib.wpList_append_own_string _ rfl _ _ 25 9 rfl B 5 i0 Try.underlying25 Try.underlying9 hi hz0 hz1 hz2 v _ _ rfl hown s rfl ?c3 ?c4 ?c5 ?_)
  case c3 => have := HLL.out; have := HL.out; unfold maxLen; omega
  case c4 => have := HLL.out; have := HL.out; omega
  case c5 => have := HLT.out; omega
  intro v' w2 hown' hgrow _
  have HG := hid hgrow
  have hE : Lib.strCells s = bcells s.data.toList := by simp [Lib.strCells, bcells]
  rw [hE] at hown'
  have hput := IsW.put (M := s.data.toList) HV.out hown hBg hgrow (by rw [HSL.out, List.length_append]; exact hown')
  have HKP : Hid (KeepW w (w2.setCell ⟨g, 0, none⟩ v')) := HK1.out.trans (KeepW.put HV.out hown hgrow)
  have HP1 := hid hput.1
  have HP2 := hid hput.2
  have hv2 : w2.heap[g]? = some (.cells #[v] 57 (0, 0)) := (hgrow.block g HLT.out (fun e => own_ne HV.out hown e.symm)).trans HV.out
  have d0 : w2.cell? ⟨g, 0, none⟩ = some v := (cell_of_row w2 g 0 _ _ _ hv2).trans rfl
  have f0 : w2.frozen? ⟨g, 0, none⟩ = false := frozen_of_row w2 g 0 _ _ hv2
  have HPE : Hid ((L ++ be s.size 4) ++ s.data.toList = L ++ str s.data.toList) := by show _ = _; unfold str; rw [HSL.out, List.append_assoc]
  obtain ⟨vA, vc, rfl, _, _, _⟩ := owns_form hown'
  clear hown' hown hput hgrow hv2 c0 hE
  go_wp2
  go_end0
  exact ⟨rfl, HPE.out ▸ HP1.out, HB1.out.trans HP2.out, HKP.out⟩
theorem strw_any (B g : Nat) (L : List UInt8) (s : ByteArray) (w : World) (h : IsW B g L w) (hl : L.length ≤ 1000000000) (hs : s.size ≤ 1000000) :
    Calls Try.prog 29 #[.pointer (some ⟨g, 0, none⟩), .string s] w fun e w' => e = .returned (.tuple #[]) ∧ IsW B g (L ++ str s.data.toList) w' ∧ Below B w w' :=
  (strw_keep B g L s w h hl hs).mono fun _ _ ⟨a, b, c, _⟩ => ⟨a, b, c⟩
theorem bytesw_any (B g : Nat) (L : List UInt8) (w : World) (h : IsW B g L w) (hl : L.length ≤ 1073741824) :
    Calls Try.prog 19 #[.pointer (some ⟨g, 0, none⟩)] w fun e w' => ∃ v, e = .returned v ∧ w'.ownsRow w.heap.size 5 1 v L.length (bcells L) ∧ Below w.heap.size w w' := by
  obtain ⟨v, hv, hown, hBg⟩ := h
  have c0 : w.cell? ⟨g, 0, none⟩ = some v := (cell_of_row w g 0 _ _ _ hv).trans rfl
  obtain ⟨A, c, rfl, hnc, hcm, hrd⟩ := owns_form hown
  have HRD := hid hrd
  clear hrd hown hv
  go_enter Try.func19, Try.ntmps19
  go_wp2_with fail
  refine (BlobA0.clone_any A _ c L _ HRD.out hl).mono ?_
  rintro e w1 ⟨v, rfl, hown1, hb1⟩
  go_wp2
  go_ret
  exact ⟨_, rfl, hown1, hb1⟩
end Go.Proofs.Ytafnekilnbhhlaa.AnsW
