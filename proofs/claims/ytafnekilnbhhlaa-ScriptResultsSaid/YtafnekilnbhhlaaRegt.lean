/- A region that draws its order and ends in a forced tail (an append, a store): the head operation by operation, then the tail in its order. -/
import Derived.Test.YtafnekilnbhhlaaRegs
import Derived.StillTail
namespace Go.Proofs.Ytafnekilnbhhlaa.Regs
open Go.RowKit Go.Proofs.Ytafnekilnbhhlaa.Base

/-- It is the address of a cell that holds this. -/
def ptr (v : Value) : Keep := ⟨fun u w => ∃ p : Addr, u = .pointer (some p) ∧ p.block < w.heap.size ∧ w.cell? p = some v, fun _ _ _ hb ⟨p, h1, h2, h3⟩ => ⟨p, h1, Nat.lt_of_lt_of_le h2 hb.size, (hb.cell h2).trans h3⟩⟩
/-- It is two results: a slice that reads as these cells, and a Bool. -/
def tup (n : Nat) (xs : List Value) (b : Bool) : Keep := ⟨fun u w => ∃ A c, u = .tuple #[.slice A n c, .bool b] ∧ n ≤ c ∧ c ≤ maxLen ∧ Rds w A n xs, fun _ _ _ hb ⟨A, c, h1, h2, h3, h4⟩ => ⟨A, c, h1, h2, h3, h4.below hb⟩⟩
theorem ext_take (s : ByteArray) (k : Nat) : s.extract 0 k = strOf (s.data.toList.take k) := by
  apply ByteArray.ext
  apply Array.ext'
  rw [ByteArray.data_extract]
  simp [strOf, Array.toList_extract, List.extract_eq_take_drop]
theorem ext_drop (s : ByteArray) (k n : Nat) (h : n = s.size) : s.extract k n = strOf (s.data.toList.drop k) := by
  subst h
  apply ByteArray.ext
  apply Array.ext'
  rw [ByteArray.data_extract]
  simp only [strOf, Array.toList_extract, List.extract_eq_take_drop]
  rw [List.take_of_length_le]
  rw [List.length_drop, Array.length_toList]
  exact Nat.le_refl _
theorem int_wrap {e : Int} (h0 : -9223372036854775808 ≤ e) (h1 : e ≤ 9223372036854775807) : Value.int .i64 (IntKind.i64.wrap e) = .int .i64 e := by
  rw [IntKind.wrap_i64]
  congr 1
  omega
section
variable {P : Program} {md : Region.Mode} {ops : Array Oper} {Q : Exit → Act → World → Prop}

theorem countP_set_eq {listed : Array Bool} {i : Nat} (hs : listed.size = ops.size) (hi : i < ops.size) (hu : listed.getD i true = false) : unl ops (listed.setIfInBounds i true) + 1 = unl ops listed := by
  unfold unl
  have key : ∀ l : List Nat, l.Nodup → (i ∉ l → l.countP (fun j => !(listed.setIfInBounds i true).getD j true) = l.countP (fun j => !listed.getD j true)) ∧ (i ∈ l → l.countP (fun j => !(listed.setIfInBounds i true).getD j true) + 1 = l.countP (fun j => !listed.getD j true)) := by
    intro l
    induction l with
    | nil => simp
    | cons x l ih =>
      intro hnd
      rw [List.nodup_cons] at hnd
      have hx : x = i ∨ x ≠ i := Decidable.em _
      rcases hx with rfl | hx
      · have h1 : (listed.setIfInBounds x true).getD x true = true := by simp [Array.getD]
        rw [List.countP_cons, List.countP_cons, h1, hu]
        simp only [Bool.not_true, Bool.not_false, Bool.false_eq_true, if_true, if_false]
        have := (ih hnd.2).1 hnd.1
        exact ⟨fun h => absurd (List.mem_cons_self) h, fun _ => by omega⟩
      · have h1 : (listed.setIfInBounds i true).getD x true = listed.getD x true := getD_set_ne true (Ne.symm hx)
        rw [List.countP_cons, List.countP_cons, h1]
        refine ⟨fun h => ?_, fun h => ?_⟩
        · have := (ih hnd.2).1 (fun hm => h (List.mem_cons_of_mem _ hm))
          omega
        · rcases List.mem_cons.1 h with h | h
          · exact absurd h.symm hx
          · have := (ih hnd.2).2 h
            omega
  exact (key _ List.nodup_range).2 (by simpa using hi)
/-- The head's values laid over a state. -/
def filledN (t : Nat → Value) : Nat → List Oper → Nat → Act → Act
  | 0, _, _, a => a
  | _ + 1, [], _, a => a
  | n + 1, o :: os, k, a => filledN t n os (k + 1) (a.put o.dst (t k))
theorem filledN_take (t : Nat → Value) : ∀ (n : Nat) (os : List Oper) (k : Nat) (a : Act), filledN t n os k a = filled t (os.take n) k a
  | 0, _, _, _ => rfl
  | _ + 1, [], _, _ => rfl
  | n + 1, o :: os, k, a => by
    show filledN t n os (k + 1) (a.put o.dst (t k)) = _
    rw [filledN_take t n os]
    rfl
/-- The tail waits for the whole head, and each of its operations for the one ahead. -/
def tailB (md : Region.Mode) (ops : Array Oper) (ns : List (List Nat)) (n : Nat) : Bool :=
  decide (n < ops.size) && needsB md ops ns && ((List.range n).all fun k => (ns.getD n []).contains k) &&
  ((List.range ops.size).all fun i => decide (i ≤ n) || match ops[i]? with
    | none => false
    | some o => o.after.any fun e => Region.binds md e && decide (n ≤ e.on)) &&
  Region.seqB md ops (ops.size - n) n (List.replicate n true ++ List.replicate (ops.size - n) false).toArray
structure InvT (ops : Array Oper) (w0 : World) (R : List Keep) (ns : List (List Nat)) (n : Nat) (listed : Array Bool) (t : Nat → Value) (w : World) : Prop extends Inv ops w0 R ns listed t w where
  tail : ∀ i, n ≤ i → listed.getD i false = false
theorem wpAny_rel_tail {A : (Nat → Value) → Act} {w0 : World} {R : List Keep} {ns : List (List Nat)} {n : Nat} (hB : tailB md ops ns n = true) (steps : Steps P ops Q A w0 R 0 (ops.toList.take n) ns)
    (fin : ∀ t w, Below w0.heap.size w0 w → Have R t w (List.range n) → wpList P ops Q (ops.toList.drop n) (A t) w) :
    ∀ (fuel : Nat) (listed : Array Bool) (t : Nat → Value) (w : World), InvT ops w0 R ns n listed t w → unl ops listed = fuel → wpAny P md ops Q fuel listed (A t) w := by
  unfold tailB at hB
  simp only [Bool.and_eq_true, decide_eq_true_eq] at hB
  obtain ⟨⟨⟨⟨hn, hN⟩, hall⟩, hch⟩, hseq⟩ := hB
  -- all of the head is listed: the tail, in its order
  have done : ∀ (fuel : Nat) (listed : Array Bool) (t : Nat → Value) (w : World), InvT ops w0 R ns n listed t w → unl ops listed = fuel → (∀ i, i < n → listed.getD i false = true) → wpAny P md ops Q fuel listed (A t) w := by
    intro fuel listed t w h hu hl
    have he : listed = (List.replicate n true ++ List.replicate (ops.size - n) false).toArray := by
      apply Array.ext
      · simp [h.size]; omega
      · intro i h1 h2
        have hsz := h.size
        simp only [List.getElem_toArray]
        by_cases hi : i < n
        · have := hl i hi
          simp [Array.getD, h1] at this
          rw [List.getElem_append_left (by simpa using hi)]
          simpa using this
        · have := h.tail i (by omega)
          simp [Array.getD, h1] at this
          rw [List.getElem_append_right (by simpa using hi)]
          simpa using this
    have hf : fuel = (ops.toList.drop n).length := by
      rw [← hu]
      unfold unl
      have e : ops.size = n + (ops.size - n) := by omega
      rw [e, List.range_add, List.countP_append]
      have z1 : (List.range n).countP (fun i => !listed.getD i true) = 0 := by
        rw [List.countP_eq_zero]
        intro i hi
        have hin := List.mem_range.1 hi
        rw [getD_of (by rw [h.size]; omega) true false, hl i hin]
        decide
      have z2 : ((List.range (ops.size - n)).map (n + ·)).countP (fun i => !listed.getD i true) = ((List.range (ops.size - n)).map (n + ·)).length := by
        rw [List.countP_eq_length]
        intro i hi
        obtain ⟨j, hj, rfl⟩ := List.mem_map.1 hi
        have hjn := List.mem_range.1 hj
        rw [getD_of (by rw [h.size]; omega) true false, h.tail (n + j) (by omega)]
        rfl
      rw [z1, z2]
      simp
    have hw := fin t w h.below (have_of _ fun k hk => (h.held k (hl k (by simpa using hk))).1)
    rw [hf]
    refine wpAny_of_seq (md := md) (ops.toList.drop n) n listed (A t) w (fun j => by simp [List.getElem?_drop]) ?_ hw
    rw [he]
    simpa using hseq
  intro fuel
  induction fuel with
  | zero =>
    intro listed t w h hu
    refine done 0 listed t w h hu fun i hi => ?_
    cases e : listed.getD i false with
    | true => rfl
    | false =>
      have := countP_set_eq h.size (show i < ops.size by omega) (by rw [getD_of (by rw [h.size]; omega) true false]; exact e)
      omega
  | succ fuel ih =>
    intro listed t w h hu
    by_cases hl : ∀ i, i < n → listed.getD i false = true
    · exact done (fuel + 1) listed t w h hu hl
    have hr0 : Region.ready md ops listed ≠ [] := fun hr => hl fun i hi => all_listed hN h.size hr (i + 1) i (by omega) (by omega)
    refine ⟨fun h0 => absurd h0 hr0, fun i hi => ?_⟩
    obtain ⟨h0, o, ho, hafter⟩ := mem_ready.1 hi
    have hlt := (Array.getElem?_eq_some_iff.1 ho).1
    have hneed : ∀ k ∈ ns.getD i [], listed.getD k false = true := fun k hk => by
      obtain ⟨e, he, hb, hk⟩ := (needs_back hN ho).2 k hk
      rcases hk with rfl | hk
      · exact hafter e he hb
      · exact (h.held e.on (hafter e he hb)).2 k hk
    have hin : i < n := by
      rcases Nat.lt_trichotomy i n with hlt' | rfl | hgt
      · exact hlt'
      · exact absurd (fun k hk => hneed k (by
          have := List.all_eq_true.1 hall k (List.mem_range.2 hk)
          simpa using this)) hl
      · have h1 := List.all_eq_true.1 hch i (List.mem_range.2 hlt)
        simp only [ho, Bool.or_eq_true, decide_eq_true_eq] at h1
        rcases h1 with h1 | h1
        · omega
        · obtain ⟨e, he, hb⟩ := Array.any_eq_true'.1 h1
          simp only [Bool.and_eq_true, decide_eq_true_eq] at hb
          have h2 := hafter e he hb.1
          rw [h.tail e.on hb.2] at h2
          cases h2
    have hst := Steps.at (ops.toList.take n) 0 ns steps i o (by rw [List.getElem?_take, if_pos hin]; simpa using ho)
    rw [Nat.zero_add] at hst
    refine wpOp_step ho fun K hK => hst t w h.below (have_of _ fun k hk => (h.held k (hneed k hk)).1) K fun v w' hb hv => hK _ _ (ih _ _ _ ⟨⟨h.below.trans (hb.mono h.below.size), by simpa using h.size, fun j hj => ?_⟩, fun j hj => ?_⟩ ?_)
    · by_cases hji : j = i
      · subst hji
        refine ⟨by simpa [upd] using hv, fun k hk => getD_set_true (hneed k hk)⟩
      · rw [getD_set_ne false (Ne.symm hji)] at hj
        have := h.held j hj
        refine ⟨by simp only [upd, if_neg hji]; exact (pick R j).stays _ _ _ hb this.1, fun k hk => getD_set_true (this.2 k hk)⟩
    · rw [getD_set_ne false (by omega)]
      exact h.tail j hj
    · have := countP_set_eq h.size hlt h0
      omega
theorem wp_region_rel_tail {id : Nat} {a : Act} {w : World} {l : List Oper} (hm : P.follows .mixedOrders = true) (n : Nat) (R : List Keep) (ns : List (List Nat)) (hB : tailB .any l.toArray ns n = true)
    (steps : Steps P l.toArray Q (fun t => filledN t n l 0 a) w R 0 (l.take n) ns)
    (fin : ∀ t w', Below w.heap.size w w' → Have R t w' (List.range n) → wpList P l.toArray Q (l.drop n) (filledN t n l 0 a) w') : (Code.region id l.toArray true).wp P Q a w := by
  refine wp_region_any hm ?_
  have h := wpAny_rel_tail (P := P) (Q := Q) (md := .any) (ops := l.toArray) (A := fun t => filledN t n l 0 a) (w0 := w) (R := R) (ns := ns) (n := n) hB (by simpa using steps) (by simpa using fin) l.length (Array.replicate l.length false) (now (l.take n) a) { w with drawn := w.drawn + 1 }
    ⟨⟨⟨rfl, rfl, rfl, Nat.le_refl _, fun _ _ => rfl⟩, by simp, fun i hi => by
      by_cases h : i < l.length <;> simp [Array.getD, h] at hi⟩, fun i _ => by by_cases h : i < l.length <;> simp [Array.getD, h]⟩ (by
      unfold unl
      have : (List.range l.toArray.size).countP (fun i => !(Array.replicate l.length false).getD i true) = (List.range l.toArray.size).length := by
        rw [List.countP_eq_length]
        intro i hi
        have hi' : i < l.length := by simpa using hi
        simp [Array.getD, hi']
      rw [this]
      simp)
  have e : filledN (now (l.take n) a) n l 0 a = a := by rw [filledN_take]; exact filled_now a (l.take n) (l.take n) 0 (fun j => by simp)
  have h' : wpAny P .any l.toArray Q l.length (Array.replicate l.length false) (filledN (now (l.take n) a) n l 0 a) { w with drawn := w.drawn + 1 } := h
  rw [e] at h'
  simpa using h'
end
end Go.Proofs.Ytafnekilnbhhlaa.Regs
