/- A region in its text's order, walked operation by operation: each in any world that the earlier ones may leave. -/
import Derived.Test.YtafnekilnbhhlaaRegt
namespace Go.Proofs.Ytafnekilnbhhlaa.Regs
open Go.RowKit Go.Proofs.Ytafnekilnbhhlaa.Base

/-- It is so, if the condition holds; else it is nothing. -/
def whn (c : Bool) (k : Keep) : Keep := ⟨fun u w => (c = true → k.says u w) ∧ (c = false → u = undef), fun _ _ _ hb h => ⟨fun hc => k.stays _ _ _ hb (h.1 hc), h.2⟩⟩
section
variable {P : Program} {ops : Array Oper} {Q : Exit → Act → World → Prop}

def StepL (P : Program) (ops : Array Oper) (Q : Exit → Act → World → Prop) (l : List Oper) (a : Act) (w0 : World) (R : List Keep) (i : Nat) (o : Oper) (ns : List Nat) : Prop :=
  ∀ t w, Below w0.heap.size w0 w → Have R t w ns → ∀ K : Act → World → Prop, (∀ v w', Below w.heap.size w w' → (pick R i).says v w' → K ((filledN t i l 0 a).put o.dst v) w') →
    if Region.wanted o (yielded ops (filledN t i l 0 a).tmps) = true then Oper.wp P o (filledN t i l 0 a) w K Q else K ((filledN t i l 0 a).put o.dst undef) w
def StepsL (P : Program) (ops : Array Oper) (Q : Exit → Act → World → Prop) (l : List Oper) (a : Act) (w0 : World) (R : List Keep) : Nat → List Oper → List (List Nat) → Prop
  | _, [], _ => True
  | k, o :: os, ns => StepL P ops Q l a w0 R k o (ns.headD []) ∧ StepsL P ops Q l a w0 R (k + 1) os ns.tail
theorem filledN_congr (t t' : Nat → Value) : ∀ (n : Nat) (os : List Oper) (k : Nat) (a : Act), (∀ j, k ≤ j → j < k + n → t j = t' j) → filledN t n os k a = filledN t' n os k a
  | 0, _, _, _, _ => rfl
  | _ + 1, [], _, _, _ => rfl
  | n + 1, o :: os, k, a, h => by
    show filledN t n os (k + 1) (a.put o.dst (t k)) = filledN t' n os (k + 1) (a.put o.dst (t' k))
    rw [h k (Nat.le_refl _) (by omega), filledN_congr t t' n os (k + 1) _ fun j h1 h2 => h j (by omega) (by omega)]
theorem filledN_succ (t : Nat → Value) : ∀ (n : Nat) (os : List Oper) (k : Nat) (a : Act) (o : Oper), os[n]? = some o → filledN t (n + 1) os k a = (filledN t n os k a).put o.dst (t (k + n))
  | 0, [], _, _, _, h => by simp at h
  | 0, p :: os, k, a, o, h => by
    simp at h
    subst h
    rfl
  | n + 1, [], _, _, _, h => by simp at h
  | n + 1, p :: os, k, a, o, h => by
    show filledN t (n + 1) os (k + 1) (a.put p.dst (t k)) = _
    rw [filledN_succ t n os (k + 1) _ o (by simpa using h), show k + 1 + n = k + (n + 1) by omega]
    rfl
/-- Every operation's facts speak of earlier ones. -/
def backB (ns : List (List Nat)) : Bool := (List.range ns.length).all fun i => (ns.getD i []).all fun k => decide (k < i)
theorem have_sub {R : List Keep} {t : Nat → Value} {w : World} {n : Nat} (h : Have R t w (List.range n)) (ks : List Nat) (hk : ∀ k ∈ ks, k < n) : Have R t w ks :=
  have_of ks fun k hk' => have_get h k (hk k hk')
theorem have_upd {R : List Keep} {t : Nat → Value} {w w' : World} {n : Nat} {v : Value} (h : Have R t w (List.range n)) (hb : Below w.heap.size w w') (hv : (pick R n).says v w') : Have R (upd t n v) w' (List.range (n + 1)) :=
  have_of _ fun k hk => by
    have hk := List.mem_range.1 hk
    by_cases e : k = n
    · subst e; simpa [upd] using hv
    · have := have_get h k (by omega)
      simp only [upd, if_neg e]
      exact (pick R k).stays _ _ _ hb this
theorem wpList_rel {l : List Oper} {a : Act} {w0 : World} {R : List Keep}
    (fin : ∀ t w, Below w0.heap.size w0 w → Have R t w (List.range l.length) → Q .normal (filledN t l.length l 0 a) w) :
    ∀ (os : List Oper) (k : Nat) (ns : List (List Nat)), (∀ j, os[j]? = l[k + j]?) → k + os.length = l.length → (∀ i, ∀ x ∈ ns.getD i [], x < k + i) → StepsL P ops Q l a w0 R k os ns →
      ∀ t w, Below w0.heap.size w0 w → Have R t w (List.range k) → wpList P ops Q os (filledN t k l 0 a) w
  | [], k, ns, _, hk, _, _, t, w, hb, hh => by
    have : k = l.length := by simpa using hk
    subst this
    exact fin t w hb hh
  | o :: os, k, ns, he, hk, hn, hs, t, w, hb, hh => by
    have h0 : l[k]? = some o := by simpa using (he 0).symm
    have hns : ∀ x ∈ ns.headD [], x < k := fun x hx => by
      have := hn 0 x (by cases ns with | nil => cases hx | cons a b => exact hx)
      simpa using this
    have := hs.1 t w hb (have_sub hh _ hns) (wpList P ops Q os) fun v w' hb' hv => by
      have ih := wpList_rel fin os (k + 1) ns.tail (fun j => by have := he (j + 1); simpa [Nat.add_assoc, Nat.add_comm 1 j] using this) (by simp at hk; omega)
        (fun i x hx => by
          have := hn (i + 1) x (by cases ns with | nil => cases hx | cons a b => exact hx)
          omega) hs.2 (upd t k v) w' (hb.trans (hb'.mono hb.size)) (have_upd hh hb' hv)
      rw [filledN_succ _ k l 0 a o h0, filledN_congr (upd t k v) t k l 0 a (fun j _ h2 => by simp [upd]; omega)] at ih
      simpa [upd] using ih
    unfold wpList
    split
    · rename_i hw
      rw [if_pos hw] at this
      exact .inl this
    · rename_i hw
      rw [if_neg hw] at this
      exact this
theorem wpList_seq {l : List Oper} {a : Act} {w : World} (R : List Keep) (ns : List (List Nat)) (hB : backB ns = true)
    (steps : StepsL P ops Q l a w R 0 l ns)
    (fin : ∀ t w', Below w.heap.size w w' → Have R t w' (List.range l.length) → Q .normal (filledN t l.length l 0 a) w') : wpList P ops Q l a w := by
  refine wpList_rel (ops := ops) (l := l) fin l 0 ns (fun j => by simp) (by simp) (fun i x hx => ?_) steps (fun _ => undef) w (Below.refl _ _) trivial
  by_cases hi : i < ns.length
  · have := List.all_eq_true.1 hB i (List.mem_range.2 hi)
    have := List.all_eq_true.1 this x hx
    simpa using this
  · rw [List.getD_eq_getElem?_getD, List.getElem?_eq_none (by omega)] at hx
    cases hx
theorem wp_region_seq {id : Nat} {a : Act} {w : World} {l : List Oper} (R : List Keep) (ns : List (List Nat)) (hB : backB ns = true)
    (steps : StepsL P l.toArray Q l a w R 0 l ns)
    (fin : ∀ t w', Below w.heap.size w w' → Have R t w' (List.range l.length) → Q .normal (filledN t l.length l 0 a) w') : (Code.region id l.toArray false).wp P Q a w :=
  wp_region_lit (wpList_seq R ns hB steps fin)
end
end Go.Proofs.Ytafnekilnbhhlaa.Regs
