/- A slice of pairs of strings that came in or lies in memory: each pair's two cells. -/
import Derived.Test.YtlbgcibdpeaomaaDoorOpen2
import Derived.Deep.Slices
import Derived.Deep.Fields
import Derived.ChangeSame
namespace Go.Proofs.YtlbgcibdpeaomaaDoor.Mim0
open Go.ChangeShapes Go.WideShapes Go.ChangeAt Go.RowKit Go.Deep Go.Proofs.YtlbgcibdpeaomaaDoor.Base

/-- n pairs of strings at A. -/
def Prm (w : World) (A : Option Addr) (n : Nat) (l : List (ByteArray × ByteArray)) : Prop :=
  l.length = n ∧ ∀ j (h : j < l.length), ∃ b off, A = some ⟨b, off, none⟩ ∧ b < w.heap.size ∧ w.cell? ⟨b, off + j * 2, none⟩ = some (.string l[j].1) ∧ w.cell? ⟨b, off + j * 2 + 1, none⟩ = some (.string l[j].2)
theorem Prm.below {w w' : World} {A : Option Addr} {n : Nat} {l : List (ByteArray × ByteArray)} (h : Prm w A n l) (hb : Below w.heap.size w w') : Prm w' A n l :=
  ⟨h.1, fun j hj => by
    obtain ⟨b, off, rfl, hlt, h1, h2⟩ := h.2 j hj
    exact ⟨b, off, rfl, Nat.lt_of_lt_of_le hlt hb.size, (hb.cell (p := ⟨b, off + j * 2, none⟩) hlt).trans h1, (hb.cell (p := ⟨b, off + j * 2 + 1, none⟩) hlt).trans h2⟩⟩
theorem Prm.under {B : Nat} {w w' : World} {A : Option Addr} {n : Nat} {l : List (ByteArray × ByteArray)} (h : Prm w A n l) (hb : Below B w w') (hB : w.heap.size ≤ B) : Prm w' A n l := h.below (hb.mono hB)

section
variable {H : Type} {enc : TypeId × Value → H} {P : Program} {w : World} {base : Nat} {spare : Nat → Bool} {held : Bool}
theorem open_slice_fields {t e : TypeId} {fs : Array Field} {fuel : Nat} {cs : List Value} {x : DataW H × List MemPlace} (ht : P.underlying t = some (.slice e)) (he : P.underlying e = some (.struct fs))
    (hone : oneCellFields P fs = true) (hC : P.cellsOf e = fs.size) (h : DataW.trod enc P w base spare held fuel t cs = some x) :
    cs = [.slice none 0 0] ∨
    ∃ (a : Addr) (len cap : Nat), cs = [.slice (some a) len cap] ∧ len ≤ cap ∧ cap ≤ maxLen ∧
      ∀ i, i < len → ∀ (j : Nat) (f : Field), fs[j]? = some f → ∃ (n : Nat) (v : Value) (y : DataW H × List MemPlace), w.cell? (a.add (i * fs.size + j)) = some v ∧ DataW.trod enc P w base spare held n f.type [v] = some y := by
  rcases open_slice ht h with ⟨h0, _⟩ | ⟨a, len, cap, m, n, D, Pl, hcs, hb, hl, hm, hmm, hx, hi⟩
  · exact .inl h0
  · refine .inr ⟨a, len, cap, hcs, hl, hm, fun i him => ?_⟩
    have him' : i < m := by rw [hmm]; split <;> omega
    obtain ⟨cs', hc, ht'⟩ := hi i him'
    rw [hC] at hc
    obtain ⟨ys, n', hn', hy, hlen, hyl, hf⟩ := DataW.trod_struct he ht'
    obtain ⟨_, hcl, hat⟩ := World.cells?_some hc
    intro j f hj
    obtain ⟨ho, hk⟩ := hone_of hone j f hj
    have hjl : j < fs.size := (Array.getElem?_eq_some_iff.1 hj).1
    have hcell := hat j hjl
    have hv : cs'[j]? = some (cs'[j]'(by omega)) := List.getElem?_eq_getElem (by omega)
    have h1 := hf j f hj
    rw [ho, hk] at h1
    have hone' : (cs'.drop j).take 1 = [cs'[j]'(by omega)] := by
      rw [List.drop_eq_getElem_cons (by omega)]
      rfl
    rw [hone'] at h1
    have hys : ys[j]? = some (ys[j]'(by omega)) := List.getElem?_eq_getElem (by omega)
    refine ⟨_, _, _, ?_, h1.trans hys⟩
    rw [← Go.Deep.add_add, hcell, hv]
end
theorem spot_add {w : World} {a : Addr} {v : Value} (h : w.cell? (a.add (0 * 2)) = some v) : ∃ b off, a = ⟨b, off, none⟩ ∧ b < w.heap.size := by
  rw [Nat.zero_mul] at h
  have hs : a.spot = none := by
    have := World.cell?_spot h
    simpa [Addr.add] using this
  obtain ⟨b, off, sp⟩ := a
  obtain rfl : sp = none := hs
  have hb := World.block_lt_of_cell? w _ h
  exact ⟨b, off, rfl, by simpa [Addr.add] using hb⟩
theorem add_spot (b off k : Nat) : (⟨b, off, none⟩ : Addr).add k = ⟨b, off + k, none⟩ := by unfold Addr.add; split <;> simp_all
variable {P : Program} {w : World} {H : Type} {enc : TypeId × Value → H} {base : Nat} {held : Bool} {spare : Nat → Bool}
/-- A slice of such pairs that came in. -/
theorem of_pairs {t e : TypeId} {f0 f1 : Field} {fuel : Nat} {v : Value} {x : DataW H × List MemPlace} (ht : P.underlying t = some (.slice e)) (he : P.underlying e = some (.struct #[f0, f1])) (h0 : P.underlying f0.type = some .string) (h1 : P.underlying f1.type = some .string)
    (hone : oneCellFields P #[f0, f1] = true) (hC : P.cellsOf e = 2) (h : DataW.trod enc P w base spare held fuel t [v] = some x) :
    ∃ A n cap l, v = .slice A n cap ∧ n ≤ cap ∧ cap ≤ maxLen ∧ Prm w A n l := by
  rcases open_slice_fields ht he hone hC h with hcs | ⟨a, len, cap, hcs, hl, hm, hi⟩
  · obtain rfl : v = .slice none 0 0 := by simpa using hcs
    exact ⟨none, 0, 0, [], rfl, Nat.le_refl _, Nat.zero_le _, rfl, fun j hj => absurd hj (by simp)⟩
  · obtain rfl : v = .slice (some a) len cap := by simpa using hcs
    have H : ∀ i, i < len → ∃ p : ByteArray × ByteArray, w.cell? (a.add (i * 2)) = some (.string p.1) ∧ w.cell? (a.add (i * 2 + 1)) = some (.string p.2) := by
      intro i hlt
      obtain ⟨_, v0, _, c0, t0⟩ := hi i hlt 0 f0 rfl
      obtain ⟨_, v1, _, c1, t1⟩ := hi i hlt 1 f1 rfl
      obtain ⟨s0, e0, _, _⟩ := DataW.trod_string h0 t0
      obtain ⟨s1, e1, _, _⟩ := DataW.trod_string h1 t1
      obtain rfl : v0 = .string s0 := by simpa using e0
      obtain rfl : v1 = .string s1 := by simpa using e1
      exact ⟨(s0, s1), c0, c1⟩
    have HL : ∀ k, k ≤ len → ∃ l : List (ByteArray × ByteArray), l.length = k ∧ ∀ j (hj : j < l.length), w.cell? (a.add (j * 2)) = some (.string l[j].1) ∧ w.cell? (a.add (j * 2 + 1)) = some (.string l[j].2) := by
      intro k
      induction k with
      | zero => intro _; exact ⟨[], rfl, fun j hj => absurd hj (by simp)⟩
      | succ k ih =>
        intro hk
        obtain ⟨l, hl, hc⟩ := ih (by omega)
        obtain ⟨p, h1, h2⟩ := H k (by omega)
        refine ⟨l ++ [p], by simp [hl], fun j hj => ?_⟩
        by_cases hjl : j < l.length
        · rw [List.getElem_append_left hjl]
          exact hc j hjl
        · obtain rfl : j = k := by simp [hl] at hj; omega
          simp [hl] at *
          exact ⟨h1, h2⟩
    obtain ⟨l, hlen, hc⟩ := HL len (Nat.le_refl _)
    refine ⟨some a, len, cap, l, rfl, hl, hm, hlen, fun j hj => ?_⟩
    obtain ⟨c0, c1⟩ := hc j hj
    obtain ⟨b, off, rfl, hb⟩ := spot_add (hc 0 (by omega)).1
    rw [add_spot] at c0 c1
    exact ⟨b, off, rfl, hb, c0, c1⟩
end Go.Proofs.YtlbgcibdpeaomaaDoor.Mim0
