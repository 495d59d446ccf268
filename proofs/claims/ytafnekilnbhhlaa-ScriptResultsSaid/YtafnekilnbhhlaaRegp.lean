/- A region that draws its order and ends in a forced tail: some of its head taken first. -/
import Derived.Test.YtafnekilnbhhlaaRegl
namespace Go.Proofs.Ytafnekilnbhhlaa.Regs
open Go.RowKit Go.Proofs.Ytafnekilnbhhlaa.Base
section
variable {P : Program} {md : Region.Mode} {ops : Array Oper} {Q : Exit → Act → World → Prop}
/-- The tail waits for the whole head, but for what was taken first. -/
def tailPB (md : Region.Mode) (ops : Array Oper) (ns : List (List Nat)) (n : Nat) (pre : List Nat) : Bool :=
  decide (n < ops.size) && needsB md ops ns && ((List.range n).all fun k => pre.contains k || (ns.getD n []).contains k) &&
  ((List.range ops.size).all fun i => decide (i ≤ n) || match ops[i]? with
    | none => false
    | some o => o.after.any fun e => Region.binds md e && decide (n ≤ e.on)) &&
  Region.seqB md ops (ops.size - n) n (List.replicate n true ++ List.replicate (ops.size - n) false).toArray
theorem wpAny_pre_tail {A : (Nat → Value) → Act} {w0 : World} {R : List Keep} {ns : List (List Nat)} {n : Nat} {pre : List Nat} (hB : tailPB md ops ns n pre = true) (steps : Steps P ops Q A w0 R 0 (ops.toList.take n) ns)
    (fin : ∀ t w, Below w0.heap.size w0 w → Have R t w (List.range n) → wpList P ops Q (ops.toList.drop n) (A t) w) :
    ∀ (fuel : Nat) (listed : Array Bool) (t : Nat → Value) (w : World), InvT ops w0 R ns n listed t w → (∀ k ∈ pre, listed.getD k false = true) → unl ops listed = fuel → wpAny P md ops Q fuel listed (A t) w := by
  unfold tailPB at hB
  simp only [Bool.and_eq_true, decide_eq_true_eq] at hB
  obtain ⟨⟨⟨⟨hn, hN⟩, hall⟩, hch⟩, hseq⟩ := hB
  -- all of the head is listed: the tail, in its order
  have done : ∀ (fuel : Nat) (listed : Array Bool) (t : Nat → Value) (w : World), InvT ops w0 R ns n listed t w → unl ops listed = fuel → (∀ i, i < n → listed.getD i false = true) → wpAny P md ops Q fuel listed (A t) w := by
    intro fuel listed t w h hu hl
    have he : listed = (List.replicate n true ++ List.replicate (ops.size - n) false).toArray := by
      apply Array.ext
      · simp [h.size]; omega
      · intro i h1 h2
        have hsz := h.size
        simp only [List.getElem_toArray]
        by_cases hi : i < n
        · have := hl i hi
          simp [Array.getD, h1] at this
          rw [List.getElem_append_left (by simpa using hi)]
          simpa using this
        · have := h.tail i (by omega)
          simp [Array.getD, h1] at this
          rw [List.getElem_append_right (by simpa using hi)]
          simpa using this
    have hf : fuel = (ops.toList.drop n).length := by
      rw [← hu]
      unfold unl
      have e : ops.size = n + (ops.size - n) := by omega
      rw [e, List.range_add, List.countP_append]
      have z1 : (List.range n).countP (fun i => !listed.getD i true) = 0 := by
        rw [List.countP_eq_zero]
        intro i hi
        have hin := List.mem_range.1 hi
        rw [getD_of (by rw [h.size]; omega) true false, hl i hin]
        decide
      have z2 : ((List.range (ops.size - n)).map (n + ·)).countP (fun i => !listed.getD i true) = ((List.range (ops.size - n)).map (n + ·)).length := by
        rw [List.countP_eq_length]
        intro i hi
        obtain ⟨j, hj, rfl⟩ := List.mem_map.1 hi
        have hjn := List.mem_range.1 hj
        rw [getD_of (by rw [h.size]; omega) true false, h.tail (n + j) (by omega)]
        rfl
      rw [z1, z2]
      simp
    have hw := fin t w h.below (have_of _ fun k hk => (h.held k (hl k (by simpa using hk))).1)
    rw [hf]
    refine wpAny_of_seq (md := md) (ops.toList.drop n) n listed (A t) w (fun j => by simp [List.getElem?_drop]) ?_ hw
    rw [he]
    simpa using hseq
  intro fuel
  induction fuel with
  | zero =>
    intro listed t w h _ hu
    refine done 0 listed t w h hu fun i hi => ?_
    cases e : listed.getD i false with
    | true => rfl
    | false =>
      have := countP_set_eq h.size (show i < ops.size by omega) (by rw [getD_of (by rw [h.size]; omega) true false]; exact e)
      omega
  | succ fuel ih =>
    intro listed t w h hpre hu
    by_cases hl : ∀ i, i < n → listed.getD i false = true
    · exact done (fuel + 1) listed t w h hu hl
    have hr0 : Region.ready md ops listed ≠ [] := fun hr => hl fun i hi => all_listed hN h.size hr (i + 1) i (by omega) (by omega)
    refine ⟨fun h0 => absurd h0 hr0, fun i hi => ?_⟩
    obtain ⟨h0, o, ho, hafter⟩ := mem_ready.1 hi
    have hlt := (Array.getElem?_eq_some_iff.1 ho).1
    have hneed : ∀ k ∈ ns.getD i [], listed.getD k false = true := fun k hk => by
      obtain ⟨e, he, hb, hk⟩ := (needs_back hN ho).2 k hk
      rcases hk with rfl | hk
      · exact hafter e he hb
      · exact (h.held e.on (hafter e he hb)).2 k hk
    have hin : i < n := by
      rcases Nat.lt_trichotomy i n with hlt' | rfl | hgt
      · exact hlt'
      · exact absurd (fun k hk => by
          have h1 := List.all_eq_true.1 hall k (List.mem_range.2 hk)
          simp only [Bool.or_eq_true, List.contains_iff_mem] at h1
          exact h1.elim (fun h1 => hpre k h1) (fun h1 => hneed k h1)) hl
      · have h1 := List.all_eq_true.1 hch i (List.mem_range.2 hlt)
        simp only [ho, Bool.or_eq_true, decide_eq_true_eq] at h1
        rcases h1 with h1 | h1
        · omega
        · obtain ⟨e, he, hb⟩ := Array.any_eq_true'.1 h1
          simp only [Bool.and_eq_true, decide_eq_true_eq] at hb
          have h2 := hafter e he hb.1
          rw [h.tail e.on hb.2] at h2
          cases h2
    have hst := Steps.at (ops.toList.take n) 0 ns steps i o (by rw [List.getElem?_take, if_pos hin]; simpa using ho)
    rw [Nat.zero_add] at hst
    refine wpOp_step ho fun K hK => hst t w h.below (have_of _ fun k hk => (h.held k (hneed k hk)).1) K fun v w' hb hv => hK _ _ (ih _ _ _ ⟨⟨h.below.trans (hb.mono h.below.size), by simpa using h.size, fun j hj => ?_⟩, fun j hj => ?_⟩ (fun k hk => getD_set_true (hpre k hk)) ?_)
    · by_cases hji : j = i
      · subst hji
        refine ⟨by simpa [upd] using hv, fun k hk => getD_set_true (hneed k hk)⟩
      · rw [getD_set_ne false (Ne.symm hji)] at hj
        have := h.held j hj
        refine ⟨by simp only [upd, if_neg hji]; exact (pick R j).stays _ _ _ hb this.1, fun k hk => getD_set_true (this.2 k hk)⟩
    · rw [getD_set_ne false (by omega)]
      exact h.tail j hj
    · have := countP_set_eq h.size hlt h0
      omega
def startB (k : Nat) (listed : Array Bool) (ns : List (List Nat)) (n : Nat) (pre : List Nat) : Bool :=
  decide (listed.size = k) && ((List.range k).all fun i => listed.getD i false == pre.contains i) && (pre.all fun i => decide (i < n) && (ns.getD i []).all fun j => pre.contains j)
theorem wpAny_go {l : List Oper} {a : Act} {w : World} (n : Nat) (R : List Keep) (ns : List (List Nat)) (pre : List Nat) {listed : Array Bool} {fuel : Nat} (hB : tailPB .any l.toArray ns n pre = true) (hS : startB l.length listed ns n pre = true) (hF : unl l.toArray listed = fuel)
    (h0 : ∀ k ∈ pre, (pick R k).says (now (l.take n) a k) w)
    (steps : Steps P l.toArray Q (fun t => filledN t n l 0 a) w R 0 (l.take n) ns)
    (fin : ∀ t w', Below w.heap.size w w' → Have R t w' (List.range n) → wpList P l.toArray Q (l.drop n) (filledN t n l 0 a) w') : wpAny P .any l.toArray Q fuel listed a w := by
  unfold startB at hS
  simp only [Bool.and_eq_true, decide_eq_true_eq] at hS
  obtain ⟨⟨hsz, hl⟩, hp⟩ := hS
  have hin : ∀ i, listed.getD i false = pre.contains i := fun i => by
    by_cases hi : i < l.length
    · have := List.all_eq_true.1 hl i (List.mem_range.2 hi)
      simpa using this
    · have h1 : listed.getD i false = false := by simp [Array.getD, hsz, hi]
      have h2 : pre.contains i = false := by
        cases e : pre.contains i with
        | false => rfl
        | true =>
          have := List.all_eq_true.1 hp i (by simpa using e)
          simp only [Bool.and_eq_true, decide_eq_true_eq] at this
          have hn : n < l.toArray.size := by
            unfold tailPB at hB
            simp only [Bool.and_eq_true, decide_eq_true_eq] at hB
            exact hB.1.1.1.1
          simp at hn
          omega
      rw [h1, h2]
  have h := wpAny_pre_tail (P := P) (Q := Q) (md := .any) (ops := l.toArray) (A := fun t => filledN t n l 0 a) (w0 := w) (R := R) (ns := ns) (n := n) (pre := pre) hB (by simpa using steps) (by simpa using fin) fuel listed (now (l.take n) a) w
    ⟨⟨Below.refl _ _, by simpa using hsz, fun i hi => by
      rw [hin] at hi
      have hm : i ∈ pre := by simpa using hi
      have := List.all_eq_true.1 hp i hm
      simp only [Bool.and_eq_true, decide_eq_true_eq] at this
      exact ⟨h0 i hm, fun k hk => by rw [hin]; exact List.all_eq_true.1 this.2 k hk⟩⟩, fun i hi => by
        rw [hin]
        cases e : pre.contains i with
        | false => rfl
        | true =>
          have := List.all_eq_true.1 hp i (by simpa using e)
          simp only [Bool.and_eq_true, decide_eq_true_eq] at this
          omega⟩ (fun k hk => by rw [hin]; simpa using hk) hF
  have e : filledN (now (l.take n) a) n l 0 a = a := by rw [filledN_take]; exact filled_now a (l.take n) (l.take n) 0 (fun j => by simp)
  have h' : wpAny P .any l.toArray Q fuel listed (filledN (now (l.take n) a) n l 0 a) w := h
  rwa [e] at h'
end
end Go.Proofs.Ytafnekilnbhhlaa.Regs
