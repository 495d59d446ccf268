/- Texts that belong together: Mim2. -/
import Derived.Test.YtcfgioklgmlclaaGreatDoorPD
import Derived.Test.YtcfgioklgmlclaaGreatDoorPB
import Derived.Test.YtcfgioklgmlclaaGreatDoorMA
set_option linter.unusedSimpArgs false
set_option linter.unusedVariables false
set_option maxRecDepth 100000
set_option maxHeartbeats 64000000
namespace Go.Proofs.YtcfgioklgmlclaaGreatDoor.Mim2
open Go.ChangeShapes Go.WideShapes Go.ChangeAt Go.RowKit Go.Deep Base uq
open Go.Proofs.YtcfgioklgmlclaaGreatDoor.Ul (Short)
theorem spot_add2 {w : World} {a : Addr} {v : Value} (h : w.cell? (a.add (0 * 2)) = some v) : ∃ b off, a = ⟨b, off, none⟩ ∧ b < w.heap.size := by
 rw [Nat.zero_mul] at h
 have hs : a.spot = none := by
  have := World.cell?_spot h
  simpa [Addr.add] using this
 obtain ⟨b, off, sp⟩ := a
 obtain rfl : sp = none := hs
 have hb := World.block_lt_of_cell? w _ h
 exact ⟨b, off, rfl, by simpa [Addr.add] using hb⟩
theorem add_spot2 (b off k : Nat) : (⟨b, off, none⟩ : Addr).add k = ⟨b, off + k, none⟩ := by unfold Addr.add; split <;> simp_all
variable {P : Program} {w : World} {H : Type} {enc : TypeId × Value → H} {base : Nat} {held : Bool} {spare : Nat → Bool}
theorem ach {ts : List TypeId} {ds : List (DataW H)} (hsz : (DataW.weightsEach P ts ds).all (· ≤ reachBytes) = true) {i : Nat} {ta : TypeId} {fs : Array Field} {parts : List (DataW H)} (hti : ts[i]? = some ta) (hdi : ds[i]? = some (.agg parts)) (hu : P.underlying ta = some (.struct fs))
  {j : Nat} {t e : TypeId} (hf : (fs.toList.map (·.type))[j]? = some t) {f0 f1 : Field} {fuel : Nat} {v : Value} {x : DataW H × List MemPlace} (hp : parts[j]? = some x.1) (ht : P.underlying t = some (.slice e)) (he : P.underlying e = some (.struct #[f0, f1])) (h0 : P.underlying f0.type = some .string) (h1 : P.underlying f1.type = some .string)
  (hone : oneCellFields P #[f0, f1] = true) (hC : P.cellsOf e = 2) (h : DataW.trod enc P w base spare held fuel t [v] = some x) :
  ∃ A n cap l, v = .slice A n cap ∧ n ≤ cap ∧ cap ≤ maxLen ∧ kV w A n l ∧ Short l := by
 rcases open_slice ht h with ⟨hcs, _⟩ | ⟨a, len, cap, m, n, D, Pl, hcs, hb, hl, hm, hmm, hx, hi⟩
 ·obtain rfl : v = .slice none 0 0 := by simpa using hcs
  exact ⟨none, 0, 0, [], rfl, Nat.le_refl _, Nat.zero_le _, ⟨rfl, fun j hj => absurd hj (by simp)⟩, by simp [Short]⟩
 ·obtain rfl : v = .slice (some a) len cap := by simpa using hcs
  have HM : ∀ i, i < len → ∀ k ∈ (D i).weights P e, k ≤ reachBytes := by
   intro i hlt k hk
   have hmem : k ∈ (DataW.agg parts).weights P ta := by
    simp only [DataW.weights, hu]
    refine DataW.weights_mem_each hf hp _ ?_
    rw [hx]
    simp only [DataW.weights, ht]
    exact List.mem_cons_of_mem _ (List.mem_append_left _ (Qe.weightsAll_mem (d := D i) (List.mem_map.2 ⟨i, by simpa using hlt, rfl⟩) _ hk))
   have := List.all_eq_true.1 hsz _ (DataW.weights_mem_each hti hdi _ hmem)
   exact of_decide_eq_true this
  have HH : ∀ i, i < len → ∃ p : ByteArray × ByteArray, w.cell? (a.add (i * 2)) = some (.string p.1) ∧ w.cell? (a.add (i * 2 + 1)) = some (.string p.2) ∧ p.1.size ≤ 140737488351232 ∧ p.2.size ≤ 140737488351232 := by
   intro i hlt
   have him : i < m := by rw [hmm]; split <;> omega
   obtain ⟨cs', hc, ht'⟩ := hi i him
   rw [hC] at hc
   obtain ⟨_, hcl, hat⟩ := World.cells?_some hc
   obtain ⟨y0, y1, n', hD, _, t0, t1⟩ := trod_struct2 he ht'
   obtain ⟨ho0, hk0⟩ := hone_of hone 0 f0 rfl
   obtain ⟨ho1, hk1⟩ := hone_of hone 1 f1 rfl
   rw [ho0, hk0] at t0
   rw [ho1, hk1] at t1
   obtain ⟨v0, v1, rfl⟩ : ∃ v0 v1, cs' = [v0, v1] := by
    match cs', hcl with
    | [v0, v1], _ => exact ⟨v0, v1, rfl⟩
   have t0' : DataW.trod enc P w base spare held n' f0.type [v0] = some y0 := t0
   have t1' : DataW.trod enc P w base spare held n' f1.type [v1] = some y1 := t1
   obtain ⟨s0, e0, d0, _⟩ := DataW.trod_string h0 t0'
   obtain ⟨s1, e1, d1, _⟩ := DataW.trod_string h1 t1'
   obtain rfl : v0 = .string s0 := by simpa using e0
   obtain rfl : v1 = .string s1 := by simpa using e1
   have hDi : D i = .agg [y0.1, y1.1] := congrArg Prod.fst hD
   have hw := HM i hlt
   rw [hDi, d0, d1] at hw
   have hwe : ∀ k, (k = s0.data.toList.length ∨ k = s1.data.toList.length) → k ∈ (DataW.agg [(DataW.lit (.string s0.data.toList) : DataW H), .lit (.string s1.data.toList)]).weights P e := by
    intro k hk
    simp only [DataW.weights, he]
    rcases hk with rfl | rfl
    ·exact DataW.weights_mem_each (j := 0) rfl rfl _ (by simp [DataW.weights])
    ·exact DataW.weights_mem_each (j := 1) rfl rfl _ (by simp [DataW.weights])
   have b0 := hw _ (hwe _ (.inl rfl))
   have b1 := hw _ (hwe _ (.inr rfl))
   rw [show s0.data.toList.length = s0.size from Array.length_toList] at b0
   rw [show s1.data.toList.length = s1.size from Array.length_toList] at b1
   have c0 := hat 0 (by omega)
   have c1 := hat 1 (by omega)
   rw [Go.Deep.add_add] at c1
   refine ⟨(s0, s1), ?_, ?_, b0, b1⟩
   ·have : (a.add (i * 2)).add 0 = a.add (i * 2) := by rw [Go.Deep.add_add, Nat.add_zero]
    rw [this] at c0
    rw [c0]; rfl
   ·rw [c1]; rfl
  have HL : ∀ k, k ≤ len → ∃ l : List (ByteArray × ByteArray), l.length = k ∧ (∀ j (hj : j < l.length), w.cell? (a.add (j * 2)) = some (.string l[j].1) ∧ w.cell? (a.add (j * 2 + 1)) = some (.string l[j].2)) ∧ Short l := by
   intro k
   induction k with
   | zero => intro _; exact ⟨[], rfl, fun j hj => absurd hj (by simp), by simp [Short]⟩
   | succ k ih =>
    intro hk
    obtain ⟨l, hl, hc, hsh⟩ := ih (by omega)
    obtain ⟨p, h1, h2, h3, h4⟩ := HH k (by omega)
    refine ⟨l ++ [p], by simp [hl], fun j hj => ?_, ?_⟩
    ·by_cases hjl : j < l.length
     ·rw [List.getElem_append_left hjl]
      exact hc j hjl
     ·obtain rfl : j = k := by simp [hl] at hj; omega
      simp [hl] at *
      exact ⟨h1, h2⟩
    ·intro q hq
     rcases List.mem_append.1 hq with hq | hq
     ·exact hsh q hq
     ·simp at hq
      subst hq
      exact ⟨h3, h4⟩
  obtain ⟨l, hlen, hc, hsh⟩ := HL len (Nat.le_refl _)
  refine ⟨some a, len, cap, l, rfl, hl, hm, ⟨hlen, fun j hj => ?_⟩, hsh⟩
  obtain ⟨c0, c1⟩ := hc j hj
  obtain ⟨b, off, rfl, hbb⟩ := spot_add2 (hc 0 (by omega)).1
  rw [add_spot2] at c0 c1
  exact ⟨b, off, rfl, hbb, c0, c1⟩
end Go.Proofs.YtcfgioklgmlclaaGreatDoor.Mim2
