/- A slice of Bools that came in. -/
import Derived.Test.YtihlojkghemjeaaOpen
namespace Go.Proofs.Ytihlojkghemjeaa.Open
open Go.ChangeShapes Go.WideShapes Go.ChangeAt Go.RowKit Go.Proofs.Ytihlojkghemjeaa.Base

theorem list_of {α : Type} (p : Nat → α → Prop) : ∀ n : Nat, (∀ i, i < n → ∃ b, p i b) → ∃ L : List α, L.length = n ∧ ∀ i (h : i < L.length), p i L[i]
  | 0, _ => ⟨[], rfl, fun i h => absurd h (by simp)⟩
  | n + 1, h => by
    obtain ⟨L, hl, hp⟩ := list_of p n fun i hi => h i (by omega)
    obtain ⟨b, hb⟩ := h n (by omega)
    subst hl
    refine ⟨L ++ [b], by simp, fun i hi => ?_⟩
    by_cases hlt : i < L.length
    · rw [List.getElem_append_left hlt]
      exact hp i hlt
    · have : i = L.length := by simp at hi; omega
      subst this
      simpa using hb
variable {P : Program} {w : World} {H : Type} {enc : TypeId × Value → H} {base : Nat} {held : Bool}
theorem of_bools {t e : TypeId} {fuel : Nat} {a : Option Addr} {len cap : Nat} {x : DataW H × List MemPlace} (ht : P.underlying t = some (.slice e)) (he : P.underlying e = some .bool) (hc : P.cellsOf e = 1)
    (h : DataW.trod enc P w base (fun _ => true) held fuel t (Value.slice a len cap).cells.toList = some x) :
    ∃ L : List Bool, Rds w a len (L.map Value.bool) ∧ len ≤ cap ∧ cap ≤ maxLen := by
  rcases DataW.trod_slice ht h with ⟨hcs, _⟩ | ⟨a', l, c, elems, rest, n, _, hcs, rfl, hb, hl, hm, hlen, hel, hsp, hns⟩
  · simp [Value.cells] at hcs
    obtain ⟨rfl, rfl, rfl⟩ := hcs
    exact ⟨[], Rds.nil _, Nat.le_refl _, Nat.zero_le _⟩
  · simp [Value.cells] at hcs
    obtain ⟨rfl, rfl, rfl⟩ := hcs
    have each : ∀ i, i < len → ∃ b : Bool, w.cell? (a'.add i) = some (.bool b) := by
      intro i hi
      have h1 := hel i hi
      have hlt : i < elems.length := by omega
      rw [List.getElem?_eq_getElem hlt] at h1
      rw [hc, Nat.mul_one, Option.bind_eq_some_iff] at h1
      obtain ⟨cs', hcs, hy'⟩ := h1
      obtain ⟨b, rfl, _⟩ := DataW.trod_bool he hy'
      exact ⟨b, cell_of_cells?_one hcs⟩
    obtain ⟨L, hL, hp⟩ := list_of (fun i b => w.cell? (a'.add i) = some (.bool b)) len each
    refine ⟨L, rds_cells (by rw [List.length_map]; exact hL) (fun i hi => ?_), hl, hm⟩
    rw [List.length_map] at hi
    rw [hp i hi]
    simp
end Go.Proofs.Ytihlojkghemjeaa.Open
