/- An array of sixteen whole numbers that came in, by value. -/
import Derived.Test.YtdgdmlchegjejaaOpen2
import Derived.Laws.IdiomArrays
import Derived.OpenShut
namespace Go.Proofs.Ytdgdmlchegjejaa.Arr16
open Go.ChangeShapes Go.WideShapes Go.ChangeAt Go.RowKit Go.Proofs.Ytdgdmlchegjejaa.Base

variable {P : Program} {w : World} {H : Type} {enc : TypeId × Value → H} {base : Nat} {held : Bool} {spare : Nat → Bool}
theorem sixteen (i : Nat) (h : i < 16) : i = 0 ∨ i = 1 ∨ i = 2 ∨ i = 3 ∨ i = 4 ∨ i = 5 ∨ i = 6 ∨ i = 7 ∨ i = 8 ∨ i = 9 ∨ i = 10 ∨ i = 11 ∨ i = 12 ∨ i = 13 ∨ i = 14 ∨ i = 15 := by omega
theorem open_arr16 {r : Reach} {b0 : Nat} {t e : TypeId} {k : IntKind} {v : Value} {d : DataW H} {ps : List MemPlace} (ht : P.underlying t = some (.array 16 e)) (hct : P.cellsOf t = 16) (hce : P.cellsOf e = 1) (he : P.underlying e = some (.int k))
    (hval : Value.okWide P w r b0 t v) (hd : DataW.Trod enc P w base spare held t v d ps) :
    ∃ f : Nat → Int, v = .agg #[.int k (f 0), .int k (f 1), .int k (f 2), .int k (f 3), .int k (f 4), .int k (f 5), .int k (f 6), .int k (f 7), .int k (f 8), .int k (f 9), .int k (f 10), .int k (f 11), .int k (f 12), .int k (f 13), .int k (f 14), .int k (f 15)] ∧ ∀ i, i < 16 → (Lit.int k (f i)).wf = true := by
  obtain ⟨cs, rfl, hsz, _⟩ : ∃ cs, v = .agg cs ∧ cs.size = P.cellsOf t ∧ Row.okWide P w r b0 t cs := by
    simpa [Value.okWide, ht] using hval
  rw [hct] at hsz
  obtain ⟨l⟩ := cs
  have hsz' : l.length = 16 := hsz
  obtain ⟨fuel, hf⟩ := hd
  obtain ⟨xs, m, _, _, _, hl, hel⟩ := DataW.trod_array ht hf
  have key : ∀ i (h : i < 16), ∃ z, l[i]'(by omega) = .int k z ∧ (Lit.int k z).wf = true := by
    intro i h
    have h1 := hel i h
    have ex : xs[i]? = some (xs[i]'(by omega)) := List.getElem?_eq_getElem (by omega)
    have hone : ((Value.agg ⟨l⟩).cells.toList.drop (i * P.cellsOf e)).take (P.cellsOf e) = [l[i]'(by omega)] := by
      rw [hce, Nat.mul_one]
      show (l.drop i).take 1 = _
      rw [List.drop_eq_getElem_cons (by omega)]
      rfl
    rw [hone, ex] at h1
    obtain ⟨z, e1, _, wf⟩ := DataW.trod_int he h1
    simp at e1
    exact ⟨z, e1, wf⟩
  obtain ⟨f, hf2⟩ : ∃ f : Nat → Int, ∀ i (h : i < 16), l[i]'(by omega) = .int k (f i) ∧ (Lit.int k (f i)).wf = true :=
    ⟨fun i => if h : i < 16 then (key i h).choose else 0, fun i h => by simp only [dif_pos h]; exact (key i h).choose_spec⟩
  refine ⟨f, ?_, fun i h => (hf2 i h).2⟩
  have hlist : l = [.int k (f 0), .int k (f 1), .int k (f 2), .int k (f 3), .int k (f 4), .int k (f 5), .int k (f 6), .int k (f 7), .int k (f 8), .int k (f 9), .int k (f 10), .int k (f 11), .int k (f 12), .int k (f 13), .int k (f 14), .int k (f 15)] := by
    refine List.ext_getElem (by rw [hsz']; rfl) fun i h1 h2 => ?_
    rw [(hf2 i (by omega)).1]
    rcases sixteen i (by omega) with rfl | rfl | rfl | rfl | rfl | rfl | rfl | rfl | rfl | rfl | rfl | rfl | rfl | rfl | rfl | rfl <;> rfl
  rw [hlist]
end Go.Proofs.Ytdgdmlchegjejaa.Arr16
