/- 'v = append(v, x)' of elements of more than one cell, laid in a new block just before: v is the call's own row. -/
import Derived.Test.YtafnekilnbhhlaaBase2
import Derived.Laws.OwnMore
namespace Go.Proofs.Ytafnekilnbhhlaa.Base4
open Go.RowKit Go.Proofs.Ytafnekilnbhhlaa.Base Go.Proofs.Ytafnekilnbhhlaa.Base2

section
variable {P : Program} {W w0 : World} {ops : Array Oper} {rest : List Oper} {o : Oper} {a : Act} {Q : Exit → Act → World → Prop}
theorem wpList_appN (size : Nat) (hgd : o.guard = none) (s x : Operand) (t : TypeId) (ho : o.op = .call { callee := .builtin .append, args := #[s, x], argTypes := #[t, t] })
    (B : Nat) (e : TypeId) (i : TypeInfo) (z : Value) (by_ : Nat) (ht : P.underlying t = some (.slice e)) (hi : P.info? e = some i) (hz : i.zero = some z) (hsize : i.size = size) (hby : i.bytes = by_) (hzs : z.cells.size = size) (hs0 : 0 < size)
    (v : Value) (n : Nat) (xs : List Value) (hs : a.eval s = v) (hown : W.ownsRow B e size v n xs) (hbel : Below B w0 W) (hB : B ≤ W.heap.size)
    (news : List Value) (m : Nat) (hm : news.length = m * size) (hx : a.eval x = .slice (some ⟨W.heap.size, 0, none⟩) m m) (h1 : ∀ u ∈ news, u.oneCell' = true)
    (h63 : n + m ≤ maxLen) (hbytes : (n + m) * by_ ≤ 140737488355328)
    (h : ∀ v' w', w'.ownsRow B e size v' (n + m) (xs ++ news) → Below B w0 w' → (W.alloc (.cells news.toArray e)).grownBy w' v.ownBlock → wpList P ops Q rest (a.put o.dst v') w') :
    wpList P ops Q (o :: rest) a (W.alloc (.cells news.toArray e)) := by
  refine wpList_append_own _ hgd s x t ho B e i z size by_ ht hi hz hsize hby hzs hs0 v n xs hs (hown.alloc _) ⟨W.heap.size, 0, none⟩ m m news hx hm (fun j u hj => ?_) h1 h63 hbytes (by simp; omega) (fun v' w' h2 h3 _ => h v' w' h2 ?_ h3)
  · rw [add_at, World.cell?_alloc_mark]
    simpa using hj
  · exact (hbel.alloc hB _).grown h3 (by simp; omega) (fun g hg => (hown.lt g hg).1)
end
end Go.Proofs.Ytafnekilnbhhlaa.Base4
