/- A drawn region that ends in a call whose struct is put into a box of its own: what has been done of it. The call is operation c, then its move, the two parts, the alloc, the store, the assign. -/
import Derived.Test.YtaooiggckcfanaaGreatDoorMA
namespace Go.Proofs.YtaooiggckcfanaaGreatDoor.Regb
open Go.RowKit Go.Proofs.YtaooiggckcfanaaGreatDoor.Base Go.Proofs.YtaooiggckcfanaaGreatDoor.Regs

def PB (ty : TypeId) (zs : Array Value) (Q : World → Array Value → Prop) (bv : Value) (w0 : World) (B c : Nat) (L : Nat → Bool) (t : Nat → Value) (w : World) : Prop :=
  Below B w0 w ∧ B ≤ w.heap.size ∧
  (L c = true → ∃ cs, Q w cs ∧ t c = .tuple #[.agg cs, bv] ∧ (L (c + 1) = true → t (c + 1) = .tuple #[.agg cs, bv]) ∧ (L (c + 2) = true → t (c + 2) = .agg cs) ∧ (L (c + 5) = true → ∀ p, t (c + 4) = .pointer (some ⟨p, 0, none⟩) → w.heap[p]? = some (.cells cs ty (0, 0)))) ∧
  (L (c + 4) = true → ∃ p, t (c + 4) = .pointer (some ⟨p, 0, none⟩) ∧ B ≤ p ∧ p < w.heap.size ∧ (L (c + 5) = false → w.heap[p]? = some (.cells zs ty (0, 0))))
section
variable {ty : TypeId} {zs : Array Value} {Q : World → Array Value → Prop} {bv : Value} {w0 : World} {B c : Nat} {L : Nat → Bool} {t : Nat → Value} {v : Value} {w : World} {cs : Array Value} {p : Nat}
theorem upd_ne (t : Nat → Value) {i k : Nat} (v : Value) (h : k ≠ i) : upd t i v k = t k := by simp [upd, h]
theorem upd_self (t : Nat → Value) (i : Nat) (v : Value) : upd t i v i = v := by simp [upd]
def Stays (Q : World → Array Value → Prop) : Prop := ∀ w w' cs, Below w.heap.size w w' → Q w cs → Q w' cs
theorem lt_of {h : Array Obj} {p : Nat} {o : Obj} (e : h[p]? = some o) : p < h.size := (Array.getElem?_eq_some_iff.1 e).1
theorem stab (hQ : Stays Q) (i : Nat) (h0 : c ≠ i) (h1 : c + 1 ≠ i) (h2 : c + 2 ≠ i) (h4 : c + 4 ≠ i) (h5 : c + 5 ≠ i) {w' : World} (hb : Below w.heap.size w w') (hG : PB ty zs Q bv w0 B c L t w) : PB ty zs Q bv w0 B c (did L i) (upd t i v) w' := by
  obtain ⟨k1, k2, k3, k4⟩ := hG
  unfold PB
  rw [did_ne L h0, did_ne L h1, did_ne L h2, did_ne L h4, did_ne L h5, upd_ne t v h0, upd_ne t v h1, upd_ne t v h2, upd_ne t v h4]
  refine ⟨k1.trans (hb.mono k2), Nat.le_trans k2 hb.size, fun h => ?_, fun h => ?_⟩
  · obtain ⟨cs, q, e0, e1, e2, e5⟩ := k3 h
    exact ⟨cs, hQ _ _ _ hb q, e0, e1, e2, fun g p hp => (hb.block _ (lt_of (e5 g p hp))).trans (e5 g p hp)⟩
  · obtain ⟨p, e1, e2, e3, e4⟩ := k4 h
    exact ⟨p, e1, e2, Nat.lt_of_lt_of_le e3 hb.size, fun g => (hb.block _ e3).trans (e4 g)⟩
theorem call (h1 : L (c + 1) = false) (h2 : L (c + 2) = false) (h5 : L (c + 5) = false) {w' : World} (hb : Below w.heap.size w w') (hq : Q w' cs) (hG : PB ty zs Q bv w0 B c L t w) : PB ty zs Q bv w0 B c (did L c) (upd t c (.tuple #[.agg cs, bv])) w' := by
  obtain ⟨k1, k2, _, k4⟩ := hG
  unfold PB
  rw [did_self, upd_self, did_ne L (show c + 1 ≠ c by omega), did_ne L (show c + 2 ≠ c by omega), did_ne L (show c + 4 ≠ c by omega), did_ne L (show c + 5 ≠ c by omega), upd_ne t _ (show c + 4 ≠ c by omega)]
  refine ⟨k1.trans (hb.mono k2), Nat.le_trans k2 hb.size, fun _ => ⟨cs, hq, rfl, fun h => ?_, fun h => ?_, fun h => ?_⟩, fun h => ?_⟩
  · rw [h1] at h; cases h
  · rw [h2] at h; cases h
  · rw [h5] at h; cases h
  · obtain ⟨p, e1, e2, e3, e4⟩ := k4 h
    exact ⟨p, e1, e2, Nat.lt_of_lt_of_le e3 hb.size, fun g => (hb.block _ e3).trans (e4 g)⟩
theorem get (h0 : L c = true) (hG : PB ty zs Q bv w0 B c L t w) : ∃ cs, Q w cs ∧ t c = .tuple #[.agg cs, bv] ∧ (L (c + 1) = true → t (c + 1) = .tuple #[.agg cs, bv]) ∧ (L (c + 2) = true → t (c + 2) = .agg cs) := by
  obtain ⟨cs, q, e0, e1, e2, _⟩ := hG.2.2.1 h0
  exact ⟨cs, q, e0, e1, e2⟩
theorem move (h0 : L c = true) (hG : PB ty zs Q bv w0 B c L t w) : PB ty zs Q bv w0 B c (did L (c + 1)) (upd t (c + 1) (t c)) w := by
  obtain ⟨k1, k2, k3, k4⟩ := hG
  obtain ⟨cs, q, e0, _, e2, e5⟩ := k3 h0
  unfold PB
  rw [did_self, upd_self, did_ne L (show c ≠ c + 1 by omega), did_ne L (show c + 2 ≠ c + 1 by omega), did_ne L (show c + 4 ≠ c + 1 by omega), did_ne L (show c + 5 ≠ c + 1 by omega), upd_ne t _ (show c ≠ c + 1 by omega), upd_ne t _ (show c + 2 ≠ c + 1 by omega), upd_ne t _ (show c + 4 ≠ c + 1 by omega)]
  exact ⟨k1, k2, fun _ => ⟨cs, q, e0, fun _ => e0, e2, e5⟩, k4⟩
theorem part (h0 : L c = true) (h1 : L (c + 1) = true) (hcs : t (c + 1) = .tuple #[.agg cs, bv]) (hG : PB ty zs Q bv w0 B c L t w) : PB ty zs Q bv w0 B c (did L (c + 2)) (upd t (c + 2) (.agg cs)) w := by
  obtain ⟨k1, k2, k3, k4⟩ := hG
  obtain ⟨cs', q, e0, e1, _, e5⟩ := k3 h0
  obtain rfl : cs = cs' := by
    have := (hcs.symm.trans (e1 h1))
    simpa using this
  unfold PB
  rw [did_self, upd_self, did_ne L (show c ≠ c + 2 by omega), did_ne L (show c + 1 ≠ c + 2 by omega), did_ne L (show c + 4 ≠ c + 2 by omega), did_ne L (show c + 5 ≠ c + 2 by omega), upd_ne t _ (show c ≠ c + 2 by omega), upd_ne t _ (show c + 1 ≠ c + 2 by omega), upd_ne t _ (show c + 4 ≠ c + 2 by omega)]
  exact ⟨k1, k2, fun _ => ⟨cs, q, e0, e1, fun _ => rfl, e5⟩, k4⟩
theorem alloc (hQ : Stays Q) (h5 : L (c + 5) = false) (hG : PB ty zs Q bv w0 B c L t w) : PB ty zs Q bv w0 B c (did L (c + 4)) (upd t (c + 4) (.pointer (some ⟨w.heap.size, 0, none⟩))) (w.alloc (.cells zs ty (0, 0))) := by
  obtain ⟨k1, k2, k3, _⟩ := hG
  unfold PB
  rw [did_self, upd_self, did_ne L (show c ≠ c + 4 by omega), did_ne L (show c + 1 ≠ c + 4 by omega), did_ne L (show c + 2 ≠ c + 4 by omega), did_ne L (show c + 5 ≠ c + 4 by omega), upd_ne t _ (show c ≠ c + 4 by omega), upd_ne t _ (show c + 1 ≠ c + 4 by omega), upd_ne t _ (show c + 2 ≠ c + 4 by omega)]
  refine ⟨k1.alloc k2 _, by simp; omega, fun h => ?_, fun _ => ⟨_, rfl, k2, by simp, fun _ => heap_alloc_new w _⟩⟩
  obtain ⟨cs, q, e0, e1, e2, _⟩ := k3 h
  refine ⟨cs, hQ _ _ _ ((Below.refl _ _).alloc (Nat.le_refl _) _) q, e0, e1, e2, fun g => ?_⟩
  rw [h5] at g
  cases g
theorem store (h0 : L c = true) (h2 : L (c + 2) = true) (h4 : L (c + 4) = true) (hcs : t (c + 2) = .agg cs) (hp : t (c + 4) = .pointer (some ⟨p, 0, none⟩)) {w' : World} (hb : Below B w0 w') (hs : w'.heap.size = w.heap.size) (hq : Q w' cs) (hh : w'.heap[p]? = some (.cells cs ty (0, 0))) (hG : PB ty zs Q bv w0 B c L t w) :
    PB ty zs Q bv w0 B c (did L (c + 5)) (upd t (c + 5) v) w' := by
  obtain ⟨k1, k2, k3, k4⟩ := hG
  obtain ⟨cs', q, e0, e1, e2, _⟩ := k3 h0
  obtain rfl : cs = cs' := by
    have := hcs.symm.trans (e2 h2)
    simpa using this
  obtain ⟨p', f1, f2, f3, _⟩ := k4 h4
  obtain rfl : p = p' := by
    have := hp.symm.trans f1
    simpa using this
  unfold PB
  rw [did_self, did_ne L (show c ≠ c + 5 by omega), did_ne L (show c + 1 ≠ c + 5 by omega), did_ne L (show c + 2 ≠ c + 5 by omega), did_ne L (show c + 4 ≠ c + 5 by omega), upd_ne t _ (show c ≠ c + 5 by omega), upd_ne t _ (show c + 1 ≠ c + 5 by omega), upd_ne t _ (show c + 2 ≠ c + 5 by omega), upd_ne t _ (show c + 4 ≠ c + 5 by omega)]
  refine ⟨hb, by omega, fun _ => ⟨cs, hq, e0, e1, e2, fun _ p' hp' => ?_⟩, fun _ => ⟨p, f1, f2, by omega, fun h => by cases h⟩⟩
  obtain rfl : p = p' := by
    have := hp.symm.trans hp'
    simpa using this
  exact hh
/-- All is done. -/
theorem last (h0 : L c = true) (h4 : L (c + 4) = true) (h5 : L (c + 5) = true) (hG : PB ty zs Q bv w0 B c L t w) : ∃ cs p, Q w cs ∧ t (c + 4) = .pointer (some ⟨p, 0, none⟩) ∧ w.heap[p]? = some (.cells cs ty (0, 0)) := by
  obtain ⟨k1, k2, k3, k4⟩ := hG
  obtain ⟨cs, q, e0, e1, e2, e5⟩ := k3 h0
  obtain ⟨p, f1, _⟩ := k4 h4
  exact ⟨cs, p, q, f1, e5 h5 p f1⟩
end
end Go.Proofs.YtaooiggckcfanaaGreatDoor.Regb
