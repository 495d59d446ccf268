/- A region that draws its order and stores into blocks of its own: what holds of values is free of the world, what holds of the world is the user's own over what has been done. -/
import Derived.Test.YtafnekilnbhhlaaRegs
namespace Go.Proofs.Ytafnekilnbhhlaa.Regs
open Go.RowKit Go.Proofs.Ytafnekilnbhhlaa.Base

/-- This one has been done too. -/
def did (L : Nat → Bool) (i : Nat) (k : Nat) : Bool := if k = i then true else L k
theorem did_self (L : Nat → Bool) (i : Nat) : did L i i = true := by simp [did]
theorem did_ne (L : Nat → Bool) {i k : Nat} (h : k ≠ i) : did L i k = L k := by simp [did, h]
/-- What is said of values is free of the world. -/
def Free (R : List Keep) : Prop := ∀ k v w w', (pick R k).says v w → (pick R k).says v w'
theorem free_nil : Free [] := fun _ _ _ _ _ => trivial
theorem free_is {R : List Keep} (u : Value) (h : Free R) : Free (is u :: R) := fun k v w w' hs => match k, hs with
  | 0, hs => hs
  | k + 1, hs => h k v w w' hs
theorem free_any {R : List Keep} (h : Free R) : Free (any :: R) := fun k v w w' hs => match k, hs with
  | 0, _ => trivial
  | k + 1, hs => h k v w w' hs
section
variable {P : Program} {md : Region.Mode} {ops : Array Oper} {Q : Exit → Act → World → Prop}
/-- One operation's walk under the user's own. -/
def StepG (P : Program) (ops : Array Oper) (Q : Exit → Act → World → Prop) (A : (Nat → Value) → Act) (G : (Nat → Bool) → (Nat → Value) → World → Prop) (R : List Keep) (N : List (List Nat)) (i : Nat) (o : Oper) (ns : List Nat) : Prop :=
  ∀ L t w, G L t w → L i = false → (∀ k, L k = true → ∀ j ∈ N.getD k [], L j = true) → (∀ k ∈ ns, L k = true) → Have R t w ns → ∀ K : Act → World → Prop, (∀ v w', (pick R i).says v w' → G (did L i) (upd t i v) w' → K (A (upd t i v)) w') →
    if Region.wanted o (yielded ops (A t).tmps) = true then Oper.wp P o (A t) w K Q else K ((A t).put o.dst undef) w
def StepsG (P : Program) (ops : Array Oper) (Q : Exit → Act → World → Prop) (A : (Nat → Value) → Act) (G : (Nat → Bool) → (Nat → Value) → World → Prop) (R : List Keep) (N : List (List Nat)) : Nat → List Oper → List (List Nat) → Prop
  | _, [], _ => True
  | k, o :: os, ns => StepG P ops Q A G R N k o (ns.headD []) ∧ StepsG P ops Q A G R N (k + 1) os ns.tail
theorem StepsG.at {A : (Nat → Value) → Act} {G : (Nat → Bool) → (Nat → Value) → World → Prop} {R : List Keep} {N : List (List Nat)} : ∀ (os : List Oper) (k : Nat) (ns : List (List Nat)), StepsG P ops Q A G R N k os ns → ∀ j o, os[j]? = some o → StepG P ops Q A G R N (k + j) o (ns.getD j [])
  | [], _, _, _, j, o, h => by simp at h
  | p :: os, k, ns, h, 0, o, e => by
    simp at e
    subst e
    cases ns <;> exact h.1
  | p :: os, k, ns, h, j + 1, o, e => by
    have := StepsG.at os (k + 1) ns.tail h.2 j o (by simpa using e)
    rw [Nat.add_assoc, Nat.add_comm 1 j] at this
    cases ns <;> simpa using this
structure InvG (ops : Array Oper) (G : (Nat → Bool) → (Nat → Value) → World → Prop) (R : List Keep) (ns : List (List Nat)) (listed : Array Bool) (t : Nat → Value) (w : World) : Prop where
  own : G (fun k => listed.getD k false) t w
  size : listed.size = ops.size
  held : ∀ i, listed.getD i false = true → (pick R i).says (t i) w ∧ ∀ k ∈ ns.getD i [], listed.getD k false = true
theorem wpAny_inv {A : (Nat → Value) → Act} {G : (Nat → Bool) → (Nat → Value) → World → Prop} {R : List Keep} {ns : List (List Nat)} (hB : needsB md ops ns = true) (hf : Free R) (steps : StepsG P ops Q A G R ns 0 ops.toList ns)
    (fin : ∀ L t w, G L t w → (∀ k < ops.size, L k = true) → Have R t w (List.range ops.size) → Q .normal (A t) w) :
    ∀ (fuel : Nat) (listed : Array Bool) (t : Nat → Value) (w : World), InvG ops G R ns listed t w → unl ops listed ≤ fuel → wpAny P md ops Q fuel listed (A t) w := by
  have done : ∀ (listed : Array Bool) (t : Nat → Value) (w : World), InvG ops G R ns listed t w → Region.ready md ops listed = [] → Q .normal (A t) w := fun listed t w h hr =>
    fin _ t w h.own (fun k hk => all_listed hB h.size hr (k + 1) k (by omega) hk) (have_of _ fun k hk => (h.held k (all_listed hB h.size hr (k + 1) k (by omega) (by simpa using hk))).1)
  intro fuel
  induction fuel with
  | zero =>
    intro listed t w h hu
    have hr : Region.ready md ops listed = [] := by
      cases e : Region.ready md ops listed with
      | nil => rfl
      | cons i l =>
        have hi : i ∈ Region.ready md ops listed := by rw [e]; simp
        obtain ⟨h0, o, ho, _⟩ := mem_ready.1 hi
        have := countP_set h.size (Array.getElem?_eq_some_iff.1 ho).1 h0
        omega
    exact ⟨hr, done listed t w h hr⟩
  | succ fuel ih =>
    intro listed t w h hu
    refine ⟨done listed t w h, fun i hi => ?_⟩
    obtain ⟨h0, o, ho, hall⟩ := mem_ready.1 hi
    have hlt := (Array.getElem?_eq_some_iff.1 ho).1
    have hneed : ∀ k ∈ ns.getD i [], listed.getD k false = true := fun k hk => by
      obtain ⟨e, he, hb, hk⟩ := (needs_back hB ho).2 k hk
      rcases hk with rfl | hk
      · exact hall e he hb
      · exact (h.held e.on (hall e he hb)).2 k hk
    have hst := StepsG.at ops.toList 0 ns steps i o (by simpa using ho)
    rw [Nat.zero_add] at hst
    refine wpOp_step ho fun K hK => hst (fun k => listed.getD k false) t w h.own (by
      show listed.getD i false = false
      rw [getD_of (by rw [h.size]; exact hlt) false true]; exact h0) (fun k hk j hj => (h.held k hk).2 j hj) hneed (have_of _ fun k hk => (h.held k (hneed k hk)).1) K fun v w' hv hg => hK _ _ (ih _ _ _ ⟨?_, by simpa using h.size, fun j hj => ?_⟩ ?_)
    · have e : (fun k => (listed.setIfInBounds i true).getD k false) = did (fun k => listed.getD k false) i := by
        funext k
        by_cases hk : k = i
        · subst hk
          rw [did_self]
          simp [Array.getD, h.size, hlt]
        · rw [did_ne _ hk]
          exact getD_set_ne false (Ne.symm hk)
      rw [e]
      exact hg
    · by_cases hji : j = i
      · subst hji
        refine ⟨by simpa [upd] using hv, fun k hk => getD_set_true (hneed k hk)⟩
      · rw [getD_set_ne false (Ne.symm hji)] at hj
        have := h.held j hj
        refine ⟨by simp only [upd, if_neg hji]; exact hf j _ _ _ this.1, fun k hk => getD_set_true (this.2 k hk)⟩
    · have := countP_set h.size hlt h0
      omega
theorem wp_region_inv {id : Nat} {a : Act} {w : World} {l : List Oper} (hm : P.follows .mixedOrders = true) (G : (Nat → Bool) → (Nat → Value) → World → Prop) (R : List Keep) (ns : List (List Nat)) (hB : needsB .any l.toArray ns = true) (hf : Free R)
    (beg : ∀ t, G (fun _ => false) t { w with drawn := w.drawn + 1 })
    (steps : StepsG P l.toArray Q (fun t => filled t l 0 a) G R ns 0 l ns)
    (fin : ∀ L t w', G L t w' → (∀ k < l.length, L k = true) → Have R t w' (List.range l.length) → Q .normal (filled t l 0 a) w') : (Code.region id l.toArray true).wp P Q a w := by
  refine wp_region_any hm ?_
  have h := wpAny_inv (P := P) (Q := Q) (md := .any) (ops := l.toArray) (A := fun t => filled t l 0 a) (G := G) (R := R) (ns := ns) hB hf (by simpa using steps) (by simpa using fin) l.length (Array.replicate l.length false) (now l a) { w with drawn := w.drawn + 1 }
    ⟨by
      have e : (fun k => (Array.replicate l.length false).getD k false) = fun _ => false := by
        funext k
        by_cases h : k < l.length <;> simp [Array.getD, h]
      rw [e]
      exact beg _, by simp, fun i hi => by
      by_cases h : i < l.length <;> simp [Array.getD, h] at hi⟩ (by unfold unl; refine Nat.le_trans List.countP_le_length ?_; simp)
  have e : filled (now l a) l 0 a = a := filled_now a l l 0 (fun j => by simp)
  have h' : wpAny P .any l.toArray Q l.length (Array.replicate l.length false) (filled (now l a) l 0 a) { w with drawn := w.drawn + 1 } := h
  rw [e] at h'
  simpa using h'
end
end Go.Proofs.Ytafnekilnbhhlaa.Regs
