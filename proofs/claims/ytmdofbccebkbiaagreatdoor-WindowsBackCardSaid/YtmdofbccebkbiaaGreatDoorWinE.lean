/- A drive path's URL, by the document. -/
import Derived.Test.YtmdofbccebkbiaaGreatDoorNE
import Derived.Test.YtmdofbccebkbiaaGreatDoorND
set_option linter.unusedSimpArgs false
set_option linter.unusedVariables false
namespace Go.Proofs.YtmdofbccebkbiaaGreatDoor.WinE
open Go.RowKit Go.Proofs.YtmdofbccebkbiaaGreatDoor.Base Go.Proofs.YtmdofbccebkbiaaGreatDoor.eH Go.Proofs.YtmdofbccebkbiaaGreatDoor.aT Go.Proofs.YtmdofbccebkbiaaGreatDoor.kW Go.Proofs.YtmdofbccebkbiaaGreatDoor.rJ Go.Proofs.YtmdofbccebkbiaaGreatDoor.xJ Go.Proofs.YtmdofbccebkbiaaGreatDoor.Rk Go.Proofs.YtmdofbccebkbiaaGreatDoor.FT Go.Proofs.YtmdofbccebkbiaaGreatDoor.PosC Go.Proofs.YtmdofbccebkbiaaGreatDoor.PosU Go.Proofs.YtmdofbccebkbiaaGreatDoor.zX Go.Proofs.YtmdofbccebkbiaaGreatDoor.VW Go.Proofs.YtmdofbccebkbiaaGreatDoor.Rn Go.Proofs.YtmdofbccebkbiaaGreatDoor.VX
open Go.Proofs.YtmdofbccebkbiaaGreatDoor.rF (seg)
open Go.Proofs.YtmdofbccebkbiaaGreatDoor.kX (nrm)

theorem Bx.host {w : World} {g : Nat} {h : List UInt8} {p : Value} (hB : Bx w g (gW h p)) (q : List UInt8) : Bx (w.setCell ⟨g, 3, none⟩ (.string (strOf q))) g (gW q p) := heap_setCell_same w g 3 _ _ _ hB
theorem Bx.thaw {w : World} {g : Nat} {h : List UInt8} {p : Value} (hB : Bx w g (gW h p)) : w.frozen? ⟨g, 3, none⟩ = false ∧ w.frozen? ⟨g, 8, none⟩ = false := ⟨frozen_of_row w g 3 _ _ hB, frozen_of_row w g 8 _ _ hB⟩
theorem one_strs (l : List ByteArray) : ∀ u ∈ l.map Value.string, u.oneCell' = true := by
  intro u hu
  obtain ⟨s, _, rfl⟩ := List.mem_map.1 hu
  rfl
theorem owns_lit (w : World) (x : Value) (e : TypeId) : (w.alloc (.cells #[x] e)).ownsRow w.heap.size e 1 (.slice (some ⟨w.heap.size, 0, none⟩) 1 1) 1 [x] :=
  ⟨rfl, .inr ⟨w.heap.size, 1, #[x], rfl, Nat.le_refl _, heap_alloc_new w _, Nat.le_refl _, by decide, rfl, rfl⟩⟩
theorem kinds (l : List (List UInt8)) : (far l = true ∧ Bl l = some (l.getD 2 [], l.drop 3) ∧ NV l = some ([], l.getD 2 [], l.drop 3)) ∨ (near l = true ∧ Bl l = none ∧ uw l = some (l.getD 0 [], l.drop 1) ∧ NV l = some (l.getD 0 [], [], l.drop 1) ∧ l.getD 0 [] ≠ []) ∨ (Bl l = none ∧ uw l = none ∧ NV l = none) := by
  cases hn : near l with
  | true =>
    have hf := ZC l hn
    refine .inr (.inl ⟨rfl, ?_, ?_, ?_, ?_⟩)
    · unfold Bl; rw [hf, if_neg (by decide)]
    · unfold uw; rw [hn, if_pos rfl]
    · unfold NV three; rw [hn, if_pos (.inl rfl), if_pos rfl]
    · intro e
      rw [zW.vP, e] at hn
      have h0 : nrm [] = false := by decide
      rw [h0] at hn
      simp at hn
  | false =>
    cases hf : far l with
    | true =>
      refine .inl ⟨rfl, ?_, ?_⟩
      · unfold Bl; rw [hf, if_pos rfl]
      · unfold NV three; rw [hn, hf, if_pos (.inr rfl), if_neg (by decide)]
    | false =>
      refine .inr (.inr ⟨?_, ?_, ?_⟩)
      · unfold Bl; rw [hf, if_neg (by decide)]
      · unfold uw; rw [hn, if_neg (by decide)]
      · unfold NV; rw [hn, hf, if_neg (by decide)]
end Go.Proofs.YtmdofbccebkbiaaGreatDoor.WinE
