/- An array of four whole numbers that came in, by value. -/
import Derived.Test.YtbjohoocgmfhpaaDoorOpen2
import Derived.Laws.IdiomArrays
namespace Go.Proofs.YtbjohoocgmfhpaaDoor.Arr4
open Go.ChangeShapes Go.WideShapes Go.ChangeAt Go.RowKit Go.Proofs.YtbjohoocgmfhpaaDoor.Base

variable {P : Program} {w : World} {H : Type} {enc : TypeId × Value → H} {base : Nat} {held : Bool} {spare : Nat → Bool}
theorem open_arr4 {r : Reach} {b0 : Nat} {t e : TypeId} {k : IntKind} {v : Value} {d : DataW H} {ps : List MemPlace} (ht : P.underlying t = some (.array 4 e)) (hct : P.cellsOf t = 4) (hce : P.cellsOf e = 1) (he : P.underlying e = some (.int k))
    (hval : Value.okWide P w r b0 t v) (hd : DataW.Trod enc P w base spare held t v d ps) :
    ∃ a0 a1 a2 a3 : Int, v = .agg #[.int k a0, .int k a1, .int k a2, .int k a3] ∧ (Lit.int k a0).wf = true ∧ (Lit.int k a1).wf = true ∧ (Lit.int k a2).wf = true ∧ (Lit.int k a3).wf = true := by
  obtain ⟨cs, rfl, hsz, _⟩ : ∃ cs, v = .agg cs ∧ cs.size = P.cellsOf t ∧ Row.okWide P w r b0 t cs := by
    simpa [Value.okWide, ht] using hval
  rw [hct] at hsz
  obtain ⟨l⟩ := cs
  match l, hsz with
  | [c0, c1, c2, c3], _ =>
    obtain ⟨fuel, hf⟩ := hd
    obtain ⟨y0, y1, y2, y3, m, hx, hy0, hy1, hy2, hy3⟩ := trod_array4 ht hce hf
    obtain ⟨x0, e0, _, w0⟩ := DataW.trod_int he hy0
    obtain ⟨x1, e1, _, w1⟩ := DataW.trod_int he hy1
    obtain ⟨x2, e2, _, w2⟩ := DataW.trod_int he hy2
    obtain ⟨x3, e3, _, w3⟩ := DataW.trod_int he hy3
    simp at e0 e1 e2 e3
    subst e0 e1 e2 e3
    exact ⟨x0, x1, x2, x3, rfl, w0, w1, w2, w3⟩
end Go.Proofs.YtbjohoocgmfhpaaDoor.Arr4
