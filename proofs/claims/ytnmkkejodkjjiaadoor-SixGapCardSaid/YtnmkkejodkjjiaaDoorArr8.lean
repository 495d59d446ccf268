/- An array of eight8 whole numbers that came in, by value. -/
import Derived.Test.YtnmkkejodkjjiaaDoorOpen2
import Derived.Laws.IdiomArrays
import Derived.OpenShut
namespace Go.Proofs.YtnmkkejodkjjiaaDoor.Arr8
open Go.ChangeShapes Go.WideShapes Go.ChangeAt Go.RowKit Go.Proofs.YtnmkkejodkjjiaaDoor.Base

variable {P : Program} {w : World} {H : Type} {enc : TypeId × Value → H} {base : Nat} {held : Bool} {spare : Nat → Bool}
theorem eight8 (i : Nat) (h : i < 8) : i = 0 ∨ i = 1 ∨ i = 2 ∨ i = 3 ∨ i = 4 ∨ i = 5 ∨ i = 6 ∨ i = 7 := by omega
theorem open_arr8 {r : Reach} {b0 : Nat} {t e : TypeId} {k : IntKind} {v : Value} {d : DataW H} {ps : List MemPlace} (ht : P.underlying t = some (.array 8 e)) (hct : P.cellsOf t = 8) (hce : P.cellsOf e = 1) (he : P.underlying e = some (.int k))
    (hval : Value.okWide P w r b0 t v) (hd : DataW.Trod enc P w base spare held t v d ps) :
    ∃ f : Nat → Int, v = .agg #[.int k (f 0), .int k (f 1), .int k (f 2), .int k (f 3), .int k (f 4), .int k (f 5), .int k (f 6), .int k (f 7)] ∧ ∀ i, i < 8 → (Lit.int k (f i)).wf = true := by
  obtain ⟨cs, rfl, hsz, _⟩ : ∃ cs, v = .agg cs ∧ cs.size = P.cellsOf t ∧ Row.okWide P w r b0 t cs := by
    simpa [Value.okWide, ht] using hval
  rw [hct] at hsz
  obtain ⟨l⟩ := cs
  have hsz' : l.length = 8 := hsz
  obtain ⟨fuel, hf⟩ := hd
  obtain ⟨xs, m, _, _, _, hl, hel⟩ := DataW.trod_array ht hf
  have key : ∀ i (h : i < 8), ∃ z, l[i]'(by omega) = .int k z ∧ (Lit.int k z).wf = true := by
    intro i h
    have h1 := hel i h
    have ex : xs[i]? = some (xs[i]'(by omega)) := List.getElem?_eq_getElem (by omega)
    have hone : ((Value.agg ⟨l⟩).cells.toList.drop (i * P.cellsOf e)).take (P.cellsOf e) = [l[i]'(by omega)] := by
      rw [hce, Nat.mul_one]
      show (l.drop i).take 1 = _
      rw [List.drop_eq_getElem_cons (by omega)]
      rfl
    rw [hone, ex] at h1
    obtain ⟨z, e1, _, wf⟩ := DataW.trod_int he h1
    simp at e1
    exact ⟨z, e1, wf⟩
  obtain ⟨f, hf2⟩ : ∃ f : Nat → Int, ∀ i (h : i < 8), l[i]'(by omega) = .int k (f i) ∧ (Lit.int k (f i)).wf = true :=
    ⟨fun i => if h : i < 8 then (key i h).choose else 0, fun i h => by simp only [dif_pos h]; exact (key i h).choose_spec⟩
  refine ⟨f, ?_, fun i h => (hf2 i h).2⟩
  have hlist : l = [.int k (f 0), .int k (f 1), .int k (f 2), .int k (f 3), .int k (f 4), .int k (f 5), .int k (f 6), .int k (f 7)] := by
    refine List.ext_getElem (by rw [hsz']; rfl) fun i h1 h2 => ?_
    rw [(hf2 i (by omega)).1]
    rcases eight8 i (by omega) with rfl | rfl | rfl | rfl | rfl | rfl | rfl | rfl <;> rfl
  rw [hlist]
end Go.Proofs.YtnmkkejodkjjiaaDoor.Arr8
