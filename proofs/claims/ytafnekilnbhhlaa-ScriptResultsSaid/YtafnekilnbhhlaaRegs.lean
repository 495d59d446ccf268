/- A region that draws its order: each operation is walked once, from what the ones that it waits for have left, in any world that the others may leave. -/
import Derived.Test.YtafnekilnbhhlaaBase2
namespace Go.Proofs.Ytafnekilnbhhlaa.Regs
open Go.RowKit Go.Proofs.Ytafnekilnbhhlaa.Base

/-- Two strings are alike just if their bytes are. -/
theorem str_beq (a b : List UInt8) : ((strOf a).toList == (strOf b).toList) = decide (a = b) := by
  unfold strOf
  rw [ByteArray.toList_mk, ByteArray.toList_mk, Bool.eq_iff_iff]
  simp
/-- What is said of a value in a world, and stays said when blocks are laid. -/
structure Keep where
  says : Value → World → Prop
  stays : ∀ v w w', Below w.heap.size w w' → says v w → says v w'
/-- It is this value. -/
def is (v : Value) : Keep := ⟨fun u _ => u = v, fun _ _ _ _ h => h⟩
def any : Keep := ⟨fun _ _ => True, fun _ _ _ _ h => h⟩
/-- It is a slice that reads as these cells. -/
def row (n : Nat) (xs : List Value) : Keep := ⟨fun u w => ∃ A c, u = .slice A n c ∧ n ≤ c ∧ c ≤ maxLen ∧ Rds w A n xs, fun _ _ _ hb ⟨A, c, h1, h2, h3, h4⟩ => ⟨A, c, h1, h2, h3, h4.below hb⟩⟩

/-- The n-th of a list. -/
def pick : List Keep → Nat → Keep
  | [], _ => any
  | r :: _, 0 => r
  | _ :: rs, n + 1 => pick rs n
def upd (t : Nat → Value) (i : Nat) (v : Value) (k : Nat) : Value := if k = i then v else t k
def filled (t : Nat → Value) : List Oper → Nat → Act → Act
  | [], _, a => a
  | o :: os, k, a => filled t os (k + 1) (a.put o.dst (t k))
/-- What holds of these operations' values. -/
def Have (R : List Keep) (t : Nat → Value) (w : World) : List Nat → Prop
  | [] => True
  | k :: ks => (pick R k).says (t k) w ∧ Have R t w ks

section
variable {P : Program} {md : Region.Mode} {ops : Array Oper} {Q : Exit → Act → World → Prop}

def Step (P : Program) (ops : Array Oper) (Q : Exit → Act → World → Prop) (A : (Nat → Value) → Act) (w0 : World) (R : List Keep) (i : Nat) (o : Oper) (ns : List Nat) : Prop :=
  ∀ t w, Below w0.heap.size w0 w → Have R t w ns → ∀ K : Act → World → Prop, (∀ v w', Below w.heap.size w w' → (pick R i).says v w' → K (A (upd t i v)) w') →
    if Region.wanted o (yielded ops (A t).tmps) = true then Oper.wp P o (A t) w K Q else K ((A t).put o.dst undef) w
def Steps (P : Program) (ops : Array Oper) (Q : Exit → Act → World → Prop) (A : (Nat → Value) → Act) (w0 : World) (R : List Keep) : Nat → List Oper → List (List Nat) → Prop
  | _, [], _ => True
  | k, o :: os, ns => Step P ops Q A w0 R k o (ns.headD []) ∧ Steps P ops Q A w0 R (k + 1) os ns.tail
theorem Steps.at {A : (Nat → Value) → Act} {w0 : World} {R : List Keep} : ∀ (os : List Oper) (k : Nat) (ns : List (List Nat)), Steps P ops Q A w0 R k os ns → ∀ j o, os[j]? = some o → Step P ops Q A w0 R (k + j) o (ns.getD j [])
  | [], _, _, _, j, o, h => by simp at h
  | p :: os, k, ns, h, 0, o, e => by
    simp at e
    subst e
    cases ns <;> exact h.1
  | p :: os, k, ns, h, j + 1, o, e => by
    have := Steps.at os (k + 1) ns.tail h.2 j o (by simpa using e)
    rw [Nat.add_assoc, Nat.add_comm 1 j] at this
    cases ns <;> simpa using this
/-- The operations wait for earlier ones alone; what each one's walk leans on has been waited for. -/
def needsB (md : Region.Mode) (ops : Array Oper) (ns : List (List Nat)) : Bool :=
  (List.range ops.size).all fun i => match ops[i]? with
    | none => false
    | some o => (o.after.all fun e => !Region.binds md e || decide (e.on < i)) && (ns.getD i []).all fun k => o.after.any fun e => Region.binds md e && (e.on == k || (ns.getD e.on []).contains k)
theorem needs_back {ns : List (List Nat)} (h : needsB md ops ns = true) {i : Nat} {o : Oper} (ho : ops[i]? = some o) : (∀ e ∈ o.after, Region.binds md e = true → e.on < i) ∧ ∀ k ∈ ns.getD i [], ∃ e ∈ o.after, Region.binds md e = true ∧ (e.on = k ∨ k ∈ ns.getD e.on []) := by
  have h1 := List.all_eq_true.1 h i (by simp only [List.mem_range]; exact (Array.getElem?_eq_some_iff.1 ho).1)
  simp only [ho, Bool.and_eq_true] at h1
  obtain ⟨h1, h2⟩ := h1
  constructor
  · intro e he hb
    have := Array.all_eq_true_iff_forall_mem.1 h1 e he
    simpa [hb] using this
  · intro k hk
    have := List.all_eq_true.1 h2 k hk
    obtain ⟨e, he, h3⟩ := Array.any_eq_true'.1 this
    simp only [Bool.and_eq_true, Bool.or_eq_true, beq_iff_eq, List.contains_iff_mem] at h3
    exact ⟨e, he, h3.1, h3.2⟩
def unl (ops : Array Oper) (listed : Array Bool) : Nat := (List.range ops.size).countP fun i => !listed.getD i true
theorem getD_of {l : Array Bool} {i : Nat} (h : i < l.size) (d d' : Bool) : l.getD i d = l.getD i d' := by simp [Array.getD, h]
structure Inv (ops : Array Oper) (w0 : World) (R : List Keep) (ns : List (List Nat)) (listed : Array Bool) (t : Nat → Value) (w : World) : Prop where
  below : Below w0.heap.size w0 w
  size : listed.size = ops.size
  held : ∀ i, listed.getD i false = true → (pick R i).says (t i) w ∧ ∀ k ∈ ns.getD i [], listed.getD k false = true
theorem have_of {R : List Keep} {t : Nat → Value} {w : World} : ∀ ks : List Nat, (∀ k ∈ ks, (pick R k).says (t k) w) → Have R t w ks
  | [], _ => trivial
  | k :: ks, h => ⟨h k (by simp), have_of ks fun j hj => h j (by simp [hj])⟩
theorem have_get {R : List Keep} {t : Nat → Value} {w : World} {n : Nat} (h : Have R t w (List.range n)) (k : Nat) (hk : k < n) : (pick R k).says (t k) w := by
  have H : ∀ ks : List Nat, Have R t w ks → ∀ k ∈ ks, (pick R k).says (t k) w := by
    intro ks
    induction ks with
    | nil => intro _ k hk; cases hk
    | cons x xs ih =>
      intro h k hk
      rcases List.mem_cons.1 hk with rfl | hk
      · exact h.1
      · exact ih h.2 k hk
  exact H _ h k (by simpa using hk)
theorem all_listed {ns : List (List Nat)} (hB : needsB md ops ns = true) {listed : Array Bool} (hs : listed.size = ops.size) (hr : Region.ready md ops listed = []) : ∀ n i, i < n → i < ops.size → listed.getD i false = true := by
  intro n
  induction n with
  | zero => intro i h; omega
  | succ n ih =>
    intro i hi hlt
    by_cases hn : listed.getD i false = true
    · exact hn
    · exfalso
      have ho : ops[i]? = some ops[i] := Array.getElem?_eq_getElem hlt
      have : i ∈ Region.ready md ops listed := mem_ready.2 ⟨by rw [getD_of (by omega) true false]; simpa using hn, _, ho, fun e he hb => by
        have := (needs_back hB ho).1 e he hb
        exact ih e.on (by omega) (by omega)⟩
      rw [hr] at this
      cases this
theorem countP_set {listed : Array Bool} {i : Nat} (hs : listed.size = ops.size) (hi : i < ops.size) (hu : listed.getD i true = false) : unl ops (listed.setIfInBounds i true) < unl ops listed := by
  unfold unl
  have key : ∀ l : List Nat, l.countP (fun j => !(listed.setIfInBounds i true).getD j true) ≤ l.countP (fun j => !listed.getD j true) ∧ (i ∈ l → l.countP (fun j => !(listed.setIfInBounds i true).getD j true) < l.countP (fun j => !listed.getD j true)) := by
    intro l
    induction l with
    | nil => simp
    | cons x l ih =>
      have hx : x = i ∨ x ≠ i := Decidable.em _
      rcases hx with rfl | hx
      · have h1 : (listed.setIfInBounds x true).getD x true = true := by simp [Array.getD]
        rw [List.countP_cons, List.countP_cons, h1, hu]
        simp only [Bool.not_true, Bool.not_false, Bool.false_eq_true, if_true, if_false]
        have := ih.1
        exact ⟨by omega, fun _ => by omega⟩
      · have h1 : (listed.setIfInBounds i true).getD x true = listed.getD x true := getD_set_ne true (Ne.symm hx)
        rw [List.countP_cons, List.countP_cons, h1]
        refine ⟨by omega, fun h => ?_⟩
        rcases List.mem_cons.1 h with h | h
        · exact absurd h.symm hx
        · have := ih.2 h
          omega
  exact (key _).2 (by simpa using hi)
theorem wpAny_rel {A : (Nat → Value) → Act} {w0 : World} {R : List Keep} {ns : List (List Nat)} (hB : needsB md ops ns = true) (steps : Steps P ops Q A w0 R 0 ops.toList ns)
    (fin : ∀ t w, Below w0.heap.size w0 w → Have R t w (List.range ops.size) → Q .normal (A t) w) :
    ∀ (fuel : Nat) (listed : Array Bool) (t : Nat → Value) (w : World), Inv ops w0 R ns listed t w → unl ops listed ≤ fuel → wpAny P md ops Q fuel listed (A t) w := by
  have done : ∀ (listed : Array Bool) (t : Nat → Value) (w : World), Inv ops w0 R ns listed t w → Region.ready md ops listed = [] → Q .normal (A t) w := fun listed t w h hr =>
    fin t w h.below (have_of _ fun k hk => (h.held k (all_listed hB h.size hr (k + 1) k (by omega) (by simpa using hk))).1)
  intro fuel
  induction fuel with
  | zero =>
    intro listed t w h hu
    have hr : Region.ready md ops listed = [] := by
      cases e : Region.ready md ops listed with
      | nil => rfl
      | cons i l =>
        have hi : i ∈ Region.ready md ops listed := by rw [e]; simp
        obtain ⟨h0, o, ho, _⟩ := mem_ready.1 hi
        have := countP_set h.size (Array.getElem?_eq_some_iff.1 ho).1 h0
        omega
    exact ⟨hr, done listed t w h hr⟩
  | succ fuel ih =>
    intro listed t w h hu
    refine ⟨done listed t w h, fun i hi => ?_⟩
    obtain ⟨h0, o, ho, hall⟩ := mem_ready.1 hi
    have hlt := (Array.getElem?_eq_some_iff.1 ho).1
    have hneed : ∀ k ∈ ns.getD i [], listed.getD k false = true := fun k hk => by
      obtain ⟨e, he, hb, hk⟩ := (needs_back hB ho).2 k hk
      rcases hk with rfl | hk
      · exact hall e he hb
      · exact (h.held e.on (hall e he hb)).2 k hk
    have hst := Steps.at ops.toList 0 ns steps i o (by simpa using ho)
    rw [Nat.zero_add] at hst
    refine wpOp_step ho fun K hK => hst t w h.below (have_of _ fun k hk => (h.held k (hneed k hk)).1) K fun v w' hb hv => hK _ _ (ih _ _ _ ⟨h.below.trans (hb.mono h.below.size), by simpa using h.size, fun j hj => ?_⟩ ?_)
    · by_cases hji : j = i
      · subst hji
        refine ⟨by simpa [upd] using hv, fun k hk => getD_set_true (hneed k hk)⟩
      · rw [getD_set_ne false (Ne.symm hji)] at hj
        have := h.held j hj
        refine ⟨by simp only [upd, if_neg hji]; exact (pick R j).stays _ _ _ hb this.1, fun k hk => getD_set_true (this.2 k hk)⟩
    · have := countP_set h.size hlt h0
      omega
def now (ops : List Oper) (a : Act) (k : Nat) : Value := match (ops[k]?).bind (·.dst) with | some d => a.tmps.getD d undef | none => undef
theorem put_now (a : Act) (d : Option Tmp) (v : Value) (h : ∀ x, d = some x → v = a.tmps.getD x undef) : a.put d v = a := by
  cases d with
  | none => rfl
  | some x =>
    have := h x rfl
    subst this
    unfold Act.put
    simp only
    congr 1
    apply Array.ext_getElem?
    intro i
    by_cases hi : x = i
    · subst hi
      by_cases hx : x < a.tmps.size
      · simp [hx]
      · simp [hx]
    · rw [Array.getElem?_setIfInBounds_ne hi]
theorem filled_now (a : Act) (all : List Oper) : ∀ (os : List Oper) (k : Nat), (∀ j, os[j]? = all[k + j]?) → filled (now all a) os k a = a
  | [], _, _ => rfl
  | o :: os, k, h => by
    have h0 : all[k]? = some o := by simpa using (h 0).symm
    have e : a.put o.dst (now all a k) = a := put_now a _ _ fun x hx => by unfold now; rw [h0]; simp [hx]
    show filled (now all a) os (k + 1) (a.put o.dst (now all a k)) = a
    rw [e]
    exact filled_now a all os (k + 1) fun j => by have := h (j + 1); simpa [Nat.add_assoc, Nat.add_comm 1 j] using this
theorem wp_region_rel {id : Nat} {a : Act} {w : World} {l : List Oper} (hm : P.follows .mixedOrders = true) (R : List Keep) (ns : List (List Nat)) (hB : needsB .any l.toArray ns = true)
    (steps : Steps P l.toArray Q (fun t => filled t l 0 a) w R 0 l ns)
    (fin : ∀ t w', Below w.heap.size w w' → Have R t w' (List.range l.length) → Q .normal (filled t l 0 a) w') : (Code.region id l.toArray true).wp P Q a w := by
  refine wp_region_any hm ?_
  have h := wpAny_rel (P := P) (Q := Q) (md := .any) (ops := l.toArray) (A := fun t => filled t l 0 a) (w0 := w) (R := R) (ns := ns) hB (by simpa using steps) (by simpa using fin) l.length (Array.replicate l.length false) (now l a) { w with drawn := w.drawn + 1 }
    ⟨⟨rfl, rfl, rfl, Nat.le_refl _, fun _ _ => rfl⟩, by simp, fun i hi => by
      by_cases h : i < l.length <;> simp [Array.getD, h] at hi⟩ (by unfold unl; refine Nat.le_trans List.countP_le_length ?_; simp)
  have e := filled_now a l l 0 (fun j => by simp)
  have h' : wpAny P .any l.toArray Q l.length (Array.replicate l.length false) (filled (now l a) l 0 a) { w with drawn := w.drawn + 1 } := h
  rw [e] at h'
  simpa using h'
end
end Go.Proofs.Ytafnekilnbhhlaa.Regs
