/- Boxes of the law's own: slices of whole numbers that may begin behind their row's first cell; appending to one. -/
import Derived.Test.YtihlojkghemjeaaMaiB
import Derived.ArgAppend
namespace Go.Proofs.Ytihlojkghemjeaa.MaiP
open Go.RowKit Go.Proofs.Ytihlojkghemjeaa.Base Go.Proofs.Ytihlojkghemjeaa.Base2 Go.Proofs.Ytihlojkghemjeaa.MaiA Go.Proofs.Ytihlojkghemjeaa.MaiB

def ic (L : List Int) : List Value := L.map fun x => .int .i64 x
theorem ic_append (a b : List Int) : ic (a ++ b) = ic a ++ ic b := by simp [ic]
theorem ic_length (L : List Int) : (ic L).length = L.length := by simp [ic]
/-- A slice of these whole numbers, in a row of the walk's own. -/
def Osl (w : World) (B : Nat) (v : Value) (L : List Int) : Prop :=
  (v = .slice none 0 0 ∧ L = []) ∨ ∃ g off c C, v = .slice (some ⟨g, off, none⟩) L.length c ∧ B ≤ g ∧ w.heap[g]? = some (.cells C 3 (0, 0)) ∧ L.length ≤ c ∧ off + c ≤ C.size ∧ ∀ j (h : j < L.length), C[off + j]? = some (.int .i64 L[j])
theorem Osl.form {w : World} {B : Nat} {v : Value} {L : List Int} (h : Osl w B v L) : ∃ A c, v = .slice A L.length c := by
  rcases h with ⟨rfl, rfl⟩ | ⟨g, off, c, C, rfl, _⟩
  · exact ⟨none, 0, rfl⟩
  · exact ⟨_, _, rfl⟩
theorem Osl.own {w : World} {B : Nat} {v : Value} {L : List Int} (h : Osl w B v L) {k : Nat} (hk : v.ownBlock = some k) : B ≤ k ∧ ∃ C, w.heap[k]? = some (.cells C 3 (0, 0)) := by
  rcases h with ⟨rfl, rfl⟩ | ⟨g, off, c, C, rfl, hb, hg, _⟩
  · cases hk
  · obtain rfl : g = k := by simpa [Value.ownBlock] using hk
    exact ⟨hb, C, hg⟩
theorem Osl.block {w w' : World} {B : Nat} {v : Value} {L : List Int} (h : Osl w B v L) (hb : ∀ k, v.ownBlock = some k → w'.heap[k]? = w.heap[k]?) : Osl w' B v L := by
  rcases h with h | ⟨g, off, c, C, rfl, h1, h2, h3⟩
  · exact Or.inl h
  · exact Or.inr ⟨g, off, c, C, rfl, h1, (hb g rfl).trans h2, h3⟩
theorem Osl.kept {w w' : World} {B : Nat} {v : Value} {L : List Int} (h : Osl w B v L) (hk : Kept w w') : Osl w' B v L := by
  rcases h with h | ⟨g, off, c, C, rfl, h1, h2, h3⟩
  · exact Or.inl h
  · exact Or.inr ⟨g, off, c, C, rfl, h1, hk _ _ _ _ h2, h3⟩
theorem Osl.head {w : World} {B : Nat} {v : Value} {x : Int} {L : List Int} (h : Osl w B v (x :: L)) : ∃ g off c, v = .slice (some ⟨g, off, none⟩) (L.length + 1) c ∧ L.length + 1 ≤ c ∧ w.cell? ⟨g, off, none⟩ = some (.int .i64 x) ∧ Osl w B (.slice (some ⟨g, off + 1, none⟩) L.length (c - 1)) L ∧ (c = 1 → Osl w B (.slice (some ⟨g, off, none⟩) L.length 0) L) := by
  rcases h with ⟨rfl, h⟩ | ⟨g, off, c, C, rfl, h1, h2, h3, h4, h5⟩
  · cases h
  · simp only [List.length_cons] at h3 h5
    refine ⟨g, off, c, rfl, h3, (cell_of_row w g off _ _ _ h2).trans (h5 0 (by omega)), Or.inr ⟨g, off + 1, c - 1, C, rfl, h1, h2, by omega, by omega, fun j hj => ?_⟩, fun e => Or.inr ⟨g, off, 0, C, rfl, h1, h2, by omega, by omega, fun j hj => by omega⟩⟩
    have := h5 (j + 1) (by omega)
    rw [show off + 1 + j = off + (j + 1) by omega, this]
    rfl
theorem Osl.of_owns {w : World} {B n : Nat} {v : Value} {L : List Int} (h : w.ownsRow B 3 1 v n (ic L)) : Osl w B v L := by
  have hl := h.1
  rw [ic_length, Nat.mul_one] at hl
  rcases h.2 with ⟨h1, h2⟩ | ⟨g, cap, cur, h1, h2, h3, h4, _, h5, h6⟩
  · exact Or.inl ⟨h1, List.eq_nil_of_length_eq_zero (by omega)⟩
  · refine Or.inr ⟨g, 0, cap, cur, by rw [h1, hl], h2, h3, by omega, by omega, fun j hj => ?_⟩
    have h7 := congrArg (fun l => l[j]?) h6
    simp only [List.getElem?_take, Nat.mul_one] at h7
    rw [if_pos (by omega), Array.getElem?_toList] at h7
    rw [Nat.zero_add, h7]
    simp [ic, hj]
theorem Osl.low {w : World} {B B' : Nat} {v : Value} {L : List Int} (h : Osl w B v L) (hl : B' ≤ B) : Osl w B' v L := by
  rcases h with h | ⟨g, off, c, C, h0, h1, h2⟩
  · exact Or.inl h
  · exact Or.inr ⟨g, off, c, C, h0, by omega, h2⟩
theorem info_int3 : (Try.prog.info? 3).map (fun i => (i.zero, i.size, i.bytes)) = some (some (.int .i64 0), 1, 8) := by kernel_rfl
theorem info_int : ∃ i, Try.prog.info? 3 = some i ∧ i.zero = some (.int .i64 0) ∧ i.size = 1 ∧ i.bytes = 8 := by
  obtain ⟨i, hi, hz0, hz1, hz2⟩ := info_parts info_int3
  exact ⟨i, hi, hz0, hz1, hz2⟩
theorem osl_append {w : World} {B : Nat} {v : Value} {L : List Int} (h : Osl w B v L) (hB : B ≤ w.heap.size) (hl : L.length ≤ 1000) (b o : Nat) (c : Nat) (x : Int) (hx : w.cell? ⟨b, o, none⟩ = some (.int .i64 x)) (t ty : TypeId) (ht : Try.prog.underlying t = some (.slice 3)) :
    ∃ v' w', (Builtin.append_ #[t, t] ty #[v, .slice (some ⟨b, o, none⟩) 1 c]).run Try.prog w = .ok v' w' ∧ Osl w' B v' (L ++ [x]) ∧ w.grownBy w' v.ownBlock ∧ ∀ k, v'.ownBlock = some k → v.ownBlock = some k ∨ w.heap.size ≤ k := by
  obtain ⟨i, hi, hz0, hz1, hz2⟩ := info_int
  have hnews : ∀ j u, [Value.int .i64 x][j]? = some u → w.cell? ((⟨b, o, none⟩ : Addr).add j) = some u := fun j u hj => by
    cases j with
    | zero =>
      simp at hj
      subst hj
      rw [Addr.add_lit]
      exact hx
    | succ j => simp at hj
  have h1c : ∀ u ∈ [Value.int .i64 x], u.oneCell' = true := by intro u hu; simp at hu; subst hu; rfl
  rcases h with ⟨rfl, rfl⟩ | ⟨g, off, c', C, rfl, h1, h2, h3, h4, h5⟩
  · obtain ⟨v', w', hr, ho, hg, _⟩ := run_append_own (P := Try.prog) w w.heap.size t ty 3 i (.int .i64 0) 1 8 ht hi hz0 hz1 hz2 rfl (by decide) (.slice none 0 0) 0 [] (World.ownsRow_nil _ _ _ _) ⟨b, o, none⟩ 1 c [.int .i64 x] rfl hnews h1c (by decide) (by decide) (Nat.le_refl _)
    refine ⟨v', w', hr, (Osl.of_owns (L := [x]) ho).low hB, hg, fun k hk => Or.inr ((Osl.of_owns (L := [x]) ho).own hk).1⟩
  · by_cases hroom : L.length + 1 ≤ c'
    · have hlt : off + L.length < C.size := by omega
      have hc0 : w.cell? ⟨g, off + L.length, none⟩ = some C[off + L.length] := (cell_of_row w g _ _ _ _ h2).trans (Array.getElem?_eq_getElem hlt)
      have hf0 : w.frozen? ⟨g, off + L.length, none⟩ = false := frozen_of_row w g _ _ _ h2
      have hrun := run_append_room_cells (P := Try.prog) w t ty 3 i ht hi g off L.length c' ⟨b, o, none⟩ 1 c [.int .i64 x] (by rw [hz1]; rfl) hnews h1c hroom
        (fun j hj => by obtain rfl : j = 0 := by simpa using hj
                        rw [hz1, Nat.mul_one, Nat.add_zero, hc0]; rfl)
        (fun j hj => by obtain rfl : j = 0 := by simpa using hj
                        rw [hz1, Nat.mul_one, Nat.add_zero, hf0])
      rw [hz1, Nat.mul_one] at hrun
      have hset : w.setCells g (off + L.length) [.int .i64 x] = w.setCell ⟨g, off + L.length, none⟩ (.int .i64 x) := rfl
      rw [hset] at hrun
      refine ⟨_, _, hrun, Or.inr ⟨g, off, c', _, by rw [List.length_append]; rfl, h1, heap_setCell_same w g _ _ _ _ h2, by rw [List.length_append]; exact hroom, by simpa using h4, fun j hj => ?_⟩, ⟨rfl, rfl, rfl, by simp, fun k hk hne => heap_setCell_other w _ _ _ (fun e => hne (by rw [e]; rfl))⟩, fun k hk => Or.inl hk⟩
      rw [List.length_append] at hj
      by_cases e : j = L.length
      · subst e
        rw [Array.getElem?_setIfInBounds_self_of_lt hlt]
        simp
      · rw [Array.getElem?_setIfInBounds_ne (by omega), h5 j (by simp at hj; omega)]
        rw [List.getElem_append_left]
    · obtain ⟨v', w', hr, ho, hg⟩ := run_append_arg_grows (P := Try.prog) w t ty 3 i (.int .i64 0) 1 8 ht hi hz0 hz1 hz2 rfl (by decide) ⟨g, off, none⟩ L.length c' (ic L) (by rw [ic_length, Nat.mul_one]) (fun j u hj => by
          obtain ⟨hj', e⟩ := List.getElem?_eq_some_iff.1 hj
          rw [ic_length] at hj'
          rw [Addr.add_lit]
          refine (cell_of_row w g _ _ _ _ h2).trans ((h5 j hj').trans ?_)
          rw [← e]
          simp [ic]) ⟨b, o, none⟩ 1 c [.int .i64 x] rfl hnews (by omega) (by unfold maxLen; omega) (by omega)
      have ho' : w'.ownsRow w.heap.size 3 1 v' (L.length + 1) (ic (L ++ [x])) := by rw [ic_append]; exact ho
      refine ⟨v', w', hr, (Osl.of_owns ho').low hB, ⟨hg.os, hg.tape, hg.output, hg.size, fun k hk _ => hg.block k hk (by simp)⟩, fun k hk => Or.inr ((Osl.of_owns ho').own hk).1⟩
section
variable {W : World} {ops : Array Oper} {rest : List Oper} {o : Oper} {a : Act} {Q : Exit → Act → World → Prop}
theorem wpList_app_osl (hgd : o.guard = none) (s y : Operand) (t : TypeId) (ho : o.op = .call { callee := .builtin .append, args := #[s, y], argTypes := #[t, t] }) (ht : Try.prog.underlying t = some (.slice 3))
    (B : Nat) (v : Value) (L : List Int) (hs : a.eval s = v) (h : Osl W B v L) (hB : B ≤ W.heap.size) (hl : L.length ≤ 1000) (b o9 c : Nat) (x : Int) (hy : a.eval y = .slice (some ⟨b, o9, none⟩) 1 c) (hx : W.cell? ⟨b, o9, none⟩ = some (.int .i64 x))
    (hk : ∀ v' w', Osl w' B v' (L ++ [x]) → W.grownBy w' v.ownBlock → (∀ k, v'.ownBlock = some k → v.ownBlock = some k ∨ W.heap.size ≤ k) → wpList Try.prog ops Q rest (a.put o.dst v') w') :
    wpList Try.prog ops Q (o :: rest) a W := by
  obtain ⟨v', w', hrun, h1, h2, h3⟩ := osl_append h hB hl b o9 c x hx t o.type ht
  refine wpList_plain hgd fun K hK => ?_
  unfold Oper.wp
  simp [execOp, ho, resolve, invoke, builtin, hs, hy, hrun, Result.andThen]
  exact hK _ _ (hk v' w' h1 h2 h3)
end
/-- The law's two boxes: the plain one's things and the urgent one's. -/
structure Bx (w : World) (B bx : Nat) (v0 v1 : Value) (P U : List Int) : Prop where
  box : w.heap[bx]? = some (.cells #[v0, v1] 61 (0, 0))
  lo : B ≤ bx
  r0 : Osl w B v0 P
  r1 : Osl w B v1 U
  ne : ∀ k, v0.ownBlock = some k → v1.ownBlock ≠ some k
theorem other_type {w : World} {k k' : Nat} {C C' : Array Value} {T T' : TypeId} {m m' : Nat × Nat} (h : w.heap[k]? = some (.cells C T m)) (h' : w.heap[k']? = some (.cells C' T' m')) (ht : T ≠ T') : k ≠ k' := by
  rintro rfl
  have := h.symm.trans h'
  simp at this
  exact ht this.2.1
theorem Bx.kept {w w' : World} {B bx : Nat} {v0 v1 : Value} {P U : List Int} (h : Bx w B bx v0 v1 P U) (hk : Kept w w') : Bx w' B bx v0 v1 P U := ⟨hk _ _ _ _ h.box, h.lo, h.r0.kept hk, h.r1.kept hk, h.ne⟩
theorem Bx.app0 {w w' : World} {B bx : Nat} {v0 v1 v : Value} {P U P' : List Int} (h : Bx w B bx v0 v1 P U) (hv : Osl w' B v P') (hg : w.grownBy w' v0.ownBlock) (hf : ∀ k, v.ownBlock = some k → v0.ownBlock = some k ∨ w.heap.size ≤ k) :
    w'.heap[bx]? = w.heap[bx]? ∧ Bx (w'.setCell ⟨bx, 0, none⟩ v) B bx v v1 P' U := by
  have hbx := (Array.getElem?_eq_some_iff.1 h.box).1
  have e0 : w'.heap[bx]? = w.heap[bx]? := hg.block bx hbx fun e => by
    obtain ⟨_, C, hC⟩ := h.r0.own e.symm
    exact other_type h.box hC (by decide) rfl
  have hb' := e0.trans h.box
  refine ⟨e0, ⟨heap_setCell_same w' bx 0 _ _ _ hb', h.lo, hv.block fun k hk => ?_, h.r1.block fun k hk => ?_, fun k hk hk1 => ?_⟩⟩
  · obtain ⟨_, C, hC⟩ := hv.own hk
    exact heap_setCell_other w' _ _ _ (other_type hC hb' (by decide))
  · obtain ⟨_, C, hC⟩ := h.r1.own hk
    have hlt := (Array.getElem?_eq_some_iff.1 hC).1
    have e1 := hg.block k hlt fun e => h.ne k e.symm hk
    exact (heap_setCell_other w' _ _ _ (other_type (e1.trans hC) hb' (by decide))).trans e1
  · obtain ⟨_, C, hC⟩ := h.r1.own hk1
    have hlt := (Array.getElem?_eq_some_iff.1 hC).1
    rcases hf k hk with e | e
    · exact h.ne k e hk1
    · omega
theorem Bx.app1 {w w' : World} {B bx : Nat} {v0 v1 v : Value} {P U U' : List Int} (h : Bx w B bx v0 v1 P U) (hv : Osl w' B v U') (hg : w.grownBy w' v1.ownBlock) (hf : ∀ k, v.ownBlock = some k → v1.ownBlock = some k ∨ w.heap.size ≤ k) :
    w'.heap[bx]? = w.heap[bx]? ∧ Bx (w'.setCell ⟨bx, 1, none⟩ v) B bx v0 v P U' := by
  have hbx := (Array.getElem?_eq_some_iff.1 h.box).1
  have e0 : w'.heap[bx]? = w.heap[bx]? := hg.block bx hbx fun e => by
    obtain ⟨_, C, hC⟩ := h.r1.own e.symm
    exact other_type h.box hC (by decide) rfl
  have hb' := e0.trans h.box
  refine ⟨e0, ⟨heap_setCell_same w' bx 1 _ _ _ hb', h.lo, h.r0.block fun k hk => ?_, hv.block fun k hk => ?_, fun k hk hk1 => ?_⟩⟩
  · obtain ⟨_, C, hC⟩ := h.r0.own hk
    have hlt := (Array.getElem?_eq_some_iff.1 hC).1
    have e1 := hg.block k hlt fun e => h.ne k hk e.symm
    exact (heap_setCell_other w' _ _ _ (other_type (e1.trans hC) hb' (by decide))).trans e1
  · obtain ⟨_, C, hC⟩ := hv.own hk
    exact heap_setCell_other w' _ _ _ (other_type hC hb' (by decide))
  · obtain ⟨_, C, hC⟩ := h.r0.own hk
    have hlt := (Array.getElem?_eq_some_iff.1 hC).1
    rcases hf k hk1 with e | e
    · exact h.ne k hk e
    · omega
theorem ms_put {t : TypeId} {B : Nat} {w w' : World} {g cap : Nat} {U P : List Value} (h : MS t B w g cap U P) (D : Nat) {C : Array Value} {T : TypeId} {m : Nat × Nat} (hD : w.heap[D]? = some (.cells C T m)) (hT : T ≠ t) (hb : ∀ k, k < w.heap.size → k ≠ D → w'.heap[k]? = w.heap[k]?) : MS t B w' g cap U P := by
  obtain ⟨cu, cp, s, r, s', r', h1, h2, h3, rest⟩ := h
  refine ⟨cu, cp, s, r, s', r', (hb _ (m2_lt h1) (other_type h1 hD (Ne.symm hT))).trans h1, (hb _ (box_lt h2) fun e => ?_).trans h2, (hb _ (box_lt h3) fun e => ?_).trans h3, rest⟩
  · subst e; have := h2.symm.trans hD; cases this
  · subst e; have := h3.symm.trans hD; cases this
end Go.Proofs.Ytihlojkghemjeaa.MaiP
