/- Tables of whole numbers against a list: rising handles, their places, rows of the law's own beside the table. -/
import Derived.Test.YtihlojkghemjeaaTbH
import Derived.ArgAppend
namespace Go.Proofs.Ytihlojkghemjeaa.TbJ
open Go.RowKit Go.Proofs.Ytihlojkghemjeaa.Base Go.Proofs.Ytihlojkghemjeaa.Base2 Go.Proofs.Ytihlojkghemjeaa.Base3 Go.Proofs.Ytihlojkghemjeaa.Regs Go.Proofs.Ytihlojkghemjeaa.TbG Go.Proofs.Ytihlojkghemjeaa.TbI Go.Proofs.Ytihlojkghemjeaa.TbH

def ts (l : List (Nat × Int)) : List Int := l.map fun p => p.2
theorem ts_length (l : List (Nat × Int)) : (ts l).length = l.length := by simp [ts]
/-- The handles rise, up to the last one told. -/
def Rise (l : List (Nat × Int)) (last : Nat) : Prop := (∀ i j (hi : i < j) (hj : j < l.length), (l[i]'(Nat.lt_trans hi hj)).1 < l[j].1) ∧ ∀ i (hi : i < l.length), l[i].1 ≤ last
theorem Rise.nil : Rise [] 0 := ⟨fun _ _ _ hj => absurd hj (by simp), fun _ hi => absurd hi (by simp)⟩
theorem Rise.put {l : List (Nat × Int)} {last : Nat} (h : Rise l last) (x : Int) : Rise (l ++ [(last + 1, x)]) (last + 1) := by
  constructor
  · intro i j hi hj
    rw [List.length_append, List.length_singleton] at hj
    by_cases e : j = l.length
    · subst e
      rw [List.getElem_append_left hi]
      have := h.2 i hi
      simp
      omega
    · rw [List.getElem_append_left (by omega), List.getElem_append_left (by omega)]
      exact h.1 i j hi (by omega)
  · intro i hi
    rw [List.length_append, List.length_singleton] at hi
    by_cases e : i = l.length
    · subst e; simp
    · rw [List.getElem_append_left (by omega)]
      have := h.2 i (by omega)
      omega
theorem Rise.erase {l : List (Nat × Int)} {last : Nat} (h : Rise l last) (k : Nat) : Rise (l.eraseIdx k) last := by
  constructor
  · intro i j hi hj
    rw [List.getElem_eraseIdx, List.getElem_eraseIdx]
    rw [List.length_eraseIdx] at hj
    split <;> split <;> split at hj <;> first | exact h.1 _ _ (by omega) (by omega) | omega
  · intro i hi
    rw [List.getElem_eraseIdx]
    rw [List.length_eraseIdx] at hi
    split <;> split at hi <;> first | exact h.2 _ (by omega) | omega
theorem Rise.one {l : List (Nat × Int)} {last : Nat} (h : Rise l last) {i j : Nat} (hi : i < l.length) (hj : j < l.length) (e : l[i].1 = l[j].1) : i = j := by
  rcases Nat.lt_trichotomy i j with h1 | h1 | h1
  · have := h.1 i j h1 hj; omega
  · exact h1
  · have := h.1 j i h1 hi; omega
theorem idx_at {l : List (Nat × Int)} {last : Nat} (h : Rise l last) (k : Nat) (hk : k < l.length) : idx l (l[k].1 : Int) = some k := by
  cases e : idx l (l[k].1 : Int) with
  | none => exact absurd rfl (idx_none e k hk)
  | some j =>
    obtain ⟨hj, e1, _⟩ := idx_some e
    rw [h.one hj hk (by omega)]
theorem take_hit {l : List (Nat × Int)} {last : Nat} (h : Rise l last) (j : Nat) (hj : j < l.length) (x : Int) (e : (l[j].1 : Int) = x) : idx (l.take (j + 1)) x = some j := by
  have hr : Rise (l.take (j + 1)) last := by
    constructor
    · intro a b ha hb
      rw [List.length_take] at hb
      rw [List.getElem_take, List.getElem_take]
      exact h.1 a b ha (by omega)
    · intro a ha
      rw [List.length_take] at ha
      rw [List.getElem_take]
      exact h.2 a (by omega)
  have := idx_at hr j (by rw [List.length_take]; omega)
  rw [List.getElem_take] at this
  rw [← e]
  exact this
theorem take_miss (l : List (Nat × Int)) (j : Nat) (hj : j < l.length) (x : Int) (e : ¬ (l[j].1 : Int) = x) : idx (l.take (j + 1)) x = idx (l.take j) x := by
  unfold idx
  rw [List.take_succ_eq_append_getElem hj, List.findIdx?_append]
  cases (l.take j).findIdx? fun p => decide ((p.1 : Int) = x) with
  | some k => rfl
  | none => simp [e]
theorem idx_lt {l : List (Nat × Int)} {h : Int} {k : Nat} (e : idx l h = some k) : k < l.length := (idx_some e).1
theorem got_none {l : List (Nat × Int)} {h : Int} (e : idx l h = none) : got l h = .tuple #[.int .i64 0, .bool false] := by unfold got; rw [e]
theorem got_some {l : List (Nat × Int)} {h : Int} {k : Nat} (e : idx l h = some k) (hk : k < l.length) : got l h = .tuple #[.int .i64 l[k].2, .bool true] := by
  unfold got
  rw [e]
  simp only
  rw [List.getElem?_eq_getElem hk]
section
variable {w w' : World} {B B' n m s : Nat} {E E' T : TypeId} {v v' : Value} {xs ys : List Value}
theorem own_kp (h : w.ownsRow B E' s v n xs) (hk : Kp T E w w') (h1 : E' ≠ T) (h2 : E' ≠ E) : w'.ownsRow B E' s v n xs := by
  refine ⟨h.1, ?_⟩
  rcases h.2 with h0 | ⟨g, cap, cur, e, hb, hg, r⟩
  · exact .inl h0
  · exact .inr ⟨g, cap, cur, e, hb, hk _ _ _ _ hg h1 h2, r⟩
theorem own_grown (h : w.ownsRow B E s v n xs) (h' : w.ownsRow B' E' 1 v' m ys) (hE : E ≠ E') (hg : w.grownBy w' v'.ownBlock) : w'.ownsRow B E s v n xs := by
  refine ⟨h.1, ?_⟩
  rcases h.2 with h0 | ⟨g, cap, cur, e, hb, hh, r⟩
  · exact .inl h0
  · refine .inr ⟨g, cap, cur, e, hb, (hg.block g (Array.getElem?_eq_some_iff.1 hh).1 fun e2 => ?_).trans hh, r⟩
    rcases h'.2 with ⟨rfl, _⟩ | ⟨b, c', cur', rfl, _, hb', _⟩
    · cases e2
    · have e3 : g = b := by injection e2
      subst e3
      rw [hh] at hb'
      injection hb' with hb'
      injection hb' with _ hb'
      exact hE hb'
end
theorem hs_append (a b : List (Nat × Int)) : hs (a ++ b) = hs a ++ hs b := by simp [hs]
theorem ts_append (a b : List (Nat × Int)) : ts (a ++ b) = ts a ++ ts b := by simp [ts]
theorem hs_erase (l : List (Nat × Int)) (k : Nat) : (hs l).take k ++ (hs l).drop (k + 1) = hs (l.eraseIdx k) := by
  unfold hs
  rw [← List.map_take, ← List.map_drop, ← List.map_append, List.eraseIdx_eq_take_drop_succ]
theorem ts_erase (l : List (Nat × Int)) (k : Nat) : (ts l).take k ++ (ts l).drop (k + 1) = ts (l.eraseIdx k) := by
  unfold ts
  rw [← List.map_take, ← List.map_drop, ← List.map_append, List.eraseIdx_eq_take_drop_succ]
theorem hs_get (l : List (Nat × Int)) (k : Nat) (hk : k < l.length) : (hs l)[k]'(by rw [hs_length]; exact hk) = (l[k].1 : Int) := by simp [hs]
theorem ts_get (l : List (Nat × Int)) (k : Nat) (hk : k < l.length) : (ts l)[k]'(by rw [ts_length]; exact hk) = l[k].2 := by simp [ts]
/-- A fresh slice of nothing, in a block of its own. -/
def emp (B : Nat) (E : TypeId) : Keep := ⟨fun u w => ∃ b, u = .slice (some ⟨b, 0, none⟩) 0 0 ∧ B ≤ b ∧ b < w.heap.size ∧ w.heap[b]? = some (.cells #[] E (0, 0)), fun _ _ _ hb ⟨b, h1, h2, h3, h4⟩ => ⟨b, h1, h2, Nat.lt_of_lt_of_le h3 hb.size, (hb.block b h3).trans h4⟩⟩
/-- The walk's own row. -/
def ownk (B : Nat) (E : TypeId) (n : Nat) (xs : List Value) : Keep := ⟨fun u w => w.ownsRow B E 1 u n xs, fun _ _ _ hb h => owns_below h hb⟩
theorem app_fresh {W : World} {B b : Nat} {E t ty : TypeId} {i : TypeInfo} {z : Value} (ht : Try.prog.underlying t = some (.slice E)) (hi : Try.prog.info? E = some i) (hz : i.zero = some z) (hs : i.size = 1) (hy : i.bytes = 8) (hzs : z.cells.size = 1)
    (hB : B ≤ b) (hBW : B ≤ W.heap.size) (hb : W.heap[b]? = some (.cells #[] E (0, 0))) (a : Addr) (j c : Nat) (xs : List Value) (hl : xs.length = j) (hx : ∀ k u, xs[k]? = some u → W.cell? (a.add k) = some u) (h1 : ∀ u ∈ xs, u.oneCell' = true) (hj : j ≤ 1000) :
    ∃ v' w', (Builtin.append_ #[t, t] ty #[.slice (some ⟨b, 0, none⟩) 0 0, .slice (some a) j c]).run Try.prog W = .ok v' w' ∧ w'.ownsRow B E 1 v' j xs ∧ Below W.heap.size W w' := by
  rcases Nat.eq_zero_or_pos j with h0 | h0
  · subst h0
    obtain rfl : xs = [] := List.eq_nil_of_length_eq_zero hl
    have hrun := run_append_room_cells (P := Try.prog) W t ty E i ht hi b 0 0 0 a 0 c [] (by simp) hx h1 (Nat.le_refl _) (fun k hk => absurd hk (by simp)) (fun k hk => absurd hk (by simp))
    exact ⟨_, _, hrun, ⟨rfl, .inr ⟨b, 0, #[], rfl, hB, hb, Nat.le_refl _, by decide, rfl, rfl⟩⟩, Below.refl _ _⟩
  · obtain ⟨v', w', hr, ho, hg⟩ := run_append_arg_grows (P := Try.prog) W t ty E i z 1 8 ht hi hz hs hy hzs (by decide) ⟨b, 0, none⟩ 0 0 [] (by simp) (fun k u hk => by simp at hk) a j c xs (by omega) hx (by omega) (by unfold maxLen; omega) (by omega)
    rw [List.nil_append, Nat.zero_add] at ho
    refine ⟨v', w', hr, ⟨ho.1, ?_⟩, ⟨hg.os, hg.tape, hg.output, hg.size, fun k hk => hg.block k hk (by simp)⟩⟩
    rcases ho.2 with h | ⟨g, cap, cur, e, hb2, r⟩
    · exact .inl h
    · exact .inr ⟨g, cap, cur, e, Nat.le_trans hBW hb2, r⟩
section
variable {P : Program} {W w0 : World} {ops : Array Oper} {rest : List Oper} {o : Oper} {a : Act} {Q : Exit → Act → World → Prop}
theorem step_run {K : Act → World → Prop} {X : Prop} {ys : Array Value} (hgd : o.guard = none) (s x : Operand) (t ty : TypeId) (ho : o.op = .call { callee := .builtin .append, args := #[s, x], argTypes := #[t, t] }) {v u v' : Value} {w' : World}
    (hty : o.type = ty) (hs : a.eval s = v) (hx : a.eval x = u) (hrun : (Builtin.append_ #[t, t] ty #[v, u]).run P W = .ok v' w') (hk : K (a.put o.dst v') w') :
    if Region.wanted o (yielded ops ys) = true then Oper.wp P o a W K Q else X := by
  subst hty
  rw [if_pos (by simp [Region.wanted, hgd])]
  unfold Oper.wp
  simp [execOp, ho, resolve, invoke, builtin, hs, hx, hrun, Result.andThen]
  exact hk
theorem wpList_app_grown (hgd : o.guard = none) (s x : Operand) (t : TypeId) (ho : o.op = .call { callee := .builtin .append, args := #[s, x], argTypes := #[t, t] })
    (B : Nat) (e : TypeId) (i : TypeInfo) (z : Value) (by_ : Nat) (ht : P.underlying t = some (.slice e)) (hi : P.info? e = some i) (hz : i.zero = some z) (hsize : i.size = 1) (hby : i.bytes = by_) (hzs : z.cells.size = 1)
    (v : Value) (n : Nat) (xs : List Value) (hs : a.eval s = v) (hown : W.ownsRow B e 1 v n xs) (hB : B ≤ W.heap.size)
    (A : Option Addr) (m c : Nat) (news : List Value) (hx : a.eval x = .slice A m c) (hr : Rds W A m news) (h1 : ∀ u ∈ news, u.oneCell' = true)
    (h63 : n + m ≤ maxLen) (hbytes : (n + m) * by_ ≤ 140737488355328)
    (h : ∀ v' w', w'.ownsRow B e 1 v' (n + m) (xs ++ news) → W.grownBy w' v.ownBlock → wpList P ops Q rest (a.put o.dst v') w') :
    wpList P ops Q (o :: rest) a W := by
  cases A with
  | none =>
    have hm : m = 0 := by
      rcases Nat.eq_zero_or_pos m with h0 | h0
      · exact h0
      · obtain ⟨_, _, e, _⟩ := hr.spot h0
        cases e
    subst hm
    have hn : news = [] := List.eq_nil_of_length_eq_zero hr.1
    subst hn
    have hh := h v W (by simpa using hown) ⟨rfl, rfl, rfl, Nat.le_refl _, fun _ _ _ => rfl⟩
    refine wpList_plain hgd fun K hK => ?_
    have hrun := run_app_nil (P := P) (W := W) B t o.type e i 1 c ht hi v n xs hown
    unfold Oper.wp
    simp [execOp, ho, resolve, invoke, builtin, hs, hx, hrun, Result.andThen]
    exact hK _ _ hh
  | some ad =>
    refine wpList_append_own _ hgd s x t ho B e i z 1 by_ ht hi hz hsize hby hzs (by decide) v n xs hs hown ad m c news hx (by rw [hr.1, Nat.mul_one]) (fun j u hj => ?_) h1 h63 hbytes hB (fun v' w' h2 h3 _ => h v' w' h2 h3)
    obtain ⟨hj', e⟩ := List.getElem?_eq_some_iff.1 hj
    obtain ⟨b, off, e1, _, hc⟩ := hr.2 j hj'
    injection e1 with e1
    subst e1
    rw [Addr.add_lit, hc, e]
end
end Go.Proofs.Ytihlojkghemjeaa.TbJ
