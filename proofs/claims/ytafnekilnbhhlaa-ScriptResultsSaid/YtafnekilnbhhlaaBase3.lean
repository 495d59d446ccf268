/- 'v = append(v, xs...)' where v is the call's own row and xs any slice that reads as a list: nil, empty or not. -/
import Derived.Test.YtafnekilnbhhlaaBase2
import Derived.Laws.OwnMore
namespace Go.Proofs.Ytafnekilnbhhlaa.Base3
open Go.RowKit Go.Proofs.Ytafnekilnbhhlaa.Base Go.Proofs.Ytafnekilnbhhlaa.Base2

section
variable {P : Program} {W w0 : World} {ops : Array Oper} {rest : List Oper} {o : Oper} {a : Act} {Q : Exit → Act → World → Prop}
theorem run_app_nil (base : Nat) (t ty e : TypeId) (i : TypeInfo) (size c : Nat) (ht : P.underlying t = some (.slice e)) (hi : P.info? e = some i) (v : Value) (n : Nat) (xs : List Value) (hown : W.ownsRow base e size v n xs) :
    (Builtin.append_ #[t, t] ty #[v, .slice none 0 c]).run P W = .ok v W := by
  rcases hown.2 with ⟨rfl, rfl⟩ | ⟨g, cap, cur, rfl, _, _, hnc, _⟩
  · simp [Builtin.append_, run_underlying ht, sizeOf, typeInfo, hi, Builtin.lenOf, Builtin.firstCells]
  · simp [Builtin.append_, run_underlying ht, sizeOf, typeInfo, hi, Builtin.lenOf, Builtin.firstCells, hnc, storeCells]
theorem wpList_app_any (hgd : o.guard = none) (s x : Operand) (t : TypeId) (ho : o.op = .call { callee := .builtin .append, args := #[s, x], argTypes := #[t, t] })
    (B : Nat) (e : TypeId) (i : TypeInfo) (z : Value) (by_ : Nat) (ht : P.underlying t = some (.slice e)) (hi : P.info? e = some i) (hz : i.zero = some z) (hsize : i.size = 1) (hby : i.bytes = by_) (hzs : z.cells.size = 1)
    (v : Value) (n : Nat) (xs : List Value) (hs : a.eval s = v) (hown : W.ownsRow B e 1 v n xs) (hbel : Below B w0 W) (hB : B ≤ W.heap.size)
    (A : Option Addr) (m c : Nat) (news : List Value) (hx : a.eval x = .slice A m c) (hr : Rds W A m news) (h1 : ∀ u ∈ news, u.oneCell' = true)
    (h63 : n + m ≤ maxLen) (hbytes : (n + m) * by_ ≤ 140737488355328)
    (h : ∀ v' w', w'.ownsRow B e 1 v' (n + m) (xs ++ news) → Below B w0 w' → wpList P ops Q rest (a.put o.dst v') w') :
    wpList P ops Q (o :: rest) a W := by
  cases A with
  | none =>
    have hm : m = 0 := by
      rcases Nat.eq_zero_or_pos m with h0 | h0
      · exact h0
      · obtain ⟨_, _, e, _⟩ := hr.spot h0
        cases e
    subst hm
    have hn : news = [] := List.eq_nil_of_length_eq_zero hr.1
    subst hn
    have hh := h v W (by simpa using hown) hbel
    refine wpList_plain hgd fun K hK => ?_
    have hrun := run_app_nil (P := P) (W := W) B t o.type e i 1 c ht hi v n xs hown
    unfold Oper.wp
    simp [execOp, ho, resolve, invoke, builtin, hs, hx, hrun, Result.andThen]
    exact hK _ _ hh
  | some ad =>
    refine wpList_append_own _ hgd s x t ho B e i z 1 by_ ht hi hz hsize hby hzs (by decide) v n xs hs hown ad m c news hx (by rw [hr.1, Nat.mul_one]) (fun j u hj => ?_) h1 h63 hbytes hB (fun v' w' h2 h3 _ => h v' w' h2 (hbel.grown h3 hB (fun g hg => (hown.lt g hg).1)))
    obtain ⟨hj', e⟩ := List.getElem?_eq_some_iff.1 hj
    obtain ⟨b, off, e1, _, hc⟩ := hr.2 j hj'
    injection e1 with e1
    subst e1
    have ha : (⟨b, off, none⟩ : Addr).add j = ⟨b, off + j, none⟩ := by
      unfold Addr.add
      split <;> simp_all
    rw [ha, hc, e]
end
end Go.Proofs.Ytafnekilnbhhlaa.Base3
