/- Words shared by the walks of this seat: ends of walks, bytes as cells, a block of cells that is known in part. -/
import Derived.Test.YtafnekilnbhhlaaChecked
import Derived.WalkKit
import Derived.WalkSpells
import Derived.WalkLawsBesides
import Derived.Outline
import Derived.Laws.IdiomStrings
import Derived.Deep.Draws
import Derived.Deep.AppendLies
import Derived.Deep.RegionHeld3
import Derived.Deep.DrawnRows

namespace Go.Proofs.Ytafnekilnbhhlaa.Base
open Go.RowKit

theorem ret_bool {a b : Bool} (h : a = b) : Ending.returned (.bool a) = .returned (.bool b) := by rw [h]
theorem ret_int {k : IntKind} {a b : Int} (h : a = b) : Ending.returned (.int k a) = .returned (.int k b) := by rw [h]
theorem ret_str {a b : ByteArray} (h : a = b) : Ending.returned (.string a) = .returned (.string b) := by rw [h]
theorem int_eq {k : IntKind} {a b : Int} (h : a = b) : Value.int k a = .int k b := by rw [h]
theorem bool_eq {a b : Bool} (h : a = b) : Value.bool a = .bool b := by rw [h]
theorem ret2 {a b a' b' : Value} (h1 : a = a') (h2 : b = b') : Ending.returned (.tuple #[a, b]) = .returned (.tuple #[a', b']) := by rw [h1, h2]
theorem ret3 {a b c a' b' c' : Value} (h1 : a = a') (h2 : b = b') (h3 : c = c') : Ending.returned (.tuple #[a, b, c]) = .returned (.tuple #[a', b', c']) := by rw [h1, h2, h3]

theorem add_at (g j : Nat) : (⟨g, 0, none⟩ : Addr).add j = ⟨g, j, none⟩ := by unfold Addr.add; split <;> simp_all
theorem below_drewN {B : Nat} {a w : World} (h : Below B a w) (n : Nat) : Below B a (w.drewN n) := ⟨h.os, h.tape, h.output, h.size, h.block⟩
theorem and15 (c : UInt8) : bits .and .u8 (c.toNat : Int) 15 = (c.toNat : Int) % 16 := by
  have H : ∀ n : Fin 256, bits .and .u8 (n.val : Int) 15 = (n.val : Int) % 16 := by decide +kernel
  exact H ⟨c.toNat, c.toNat_lt⟩
theorem hid {p : Prop} (h : p) : Hid p := h
/-- A byte as a cell. -/
def u8 (c : UInt8) : Value := .int .u8 (c.toNat : Int)
/-- A list of bytes as a string. -/
def strOf (l : List UInt8) : ByteArray := ⟨l.toArray⟩
theorem strOf_toList (s : ByteArray) : strOf s.data.toList = s := by cases s; rfl
theorem size_strOf (l : List UInt8) : (strOf l).size = l.length := by simp [strOf, ByteArray.size]

/-- Block g is a row of n byte cells, none of them frozen, that reads as L. -/
def ByteRow (w : World) (g : Nat) (t : TypeId) (L : List UInt8) : Prop :=
  ∃ C m, w.heap[g]? = some (.cells C t (m, m + 1)) ∧ L.length ≤ m ∧ m ≤ C.size ∧ ∀ j (h : j < L.length), C[j]? = some (.int .u8 (L[j].toNat : Int))

theorem ByteRow.cell {w : World} {g : Nat} {t : TypeId} {L : List UInt8} (h : ByteRow w g t L) (j : Nat) (hj : j < L.length) : w.cell? ⟨g, j, none⟩ = some (.int .u8 (L[j].toNat : Int)) := by
  obtain ⟨C, m, hh, hm, hC, hc⟩ := h
  unfold World.cell?
  rw [hh]
  simpa using hc j hj
theorem ByteRow.frozen {w : World} {g : Nat} {t : TypeId} {L : List UInt8} (h : ByteRow w g t L) (j : Nat) (hj : j < L.length) : w.frozen? ⟨g, j, none⟩ = false := by
  obtain ⟨C, m, hh, hm, hC, hc⟩ := h
  unfold World.frozen?
  rw [hh]
  simp
  omega
theorem ByteRow.set {w : World} {g : Nat} {t : TypeId} {L : List UInt8} (h : ByteRow w g t L) (j : Nat) (c : UInt8) : ByteRow (w.setCell ⟨g, j, none⟩ (.int .u8 (c.toNat : Int))) g t (L.set j c) := by
  obtain ⟨C, m, hh, hm, hC, hc⟩ := h
  refine ⟨C.setIfInBounds j (.int .u8 (c.toNat : Int)), m, ?_, by simpa using hm, by simpa using hC, fun i hi => ?_⟩
  · simp [World.setCell, Array.getElem?_modify, hh]
  · have hi' : i < L.length := by simpa using hi
    by_cases e : j = i
    · subst e
      rw [Array.getElem?_setIfInBounds_self_of_lt (by omega)]
      simp
    · rw [Array.getElem?_setIfInBounds_ne e, hc i hi']
      simp [List.getElem_set, e]
theorem ByteRow.made (w : World) (s : ByteArray) (t : TypeId) (n : Nat) (hn : s.size ≤ n) : ByteRow (w.alloc (.cells (bytesRow s n) t ((bytesRow s n).size, (bytesRow s n).size + 1))) w.heap.size t s.data.toList := by
  have hsz : s.data.size = s.size := rfl
  refine ⟨bytesRow s n, (bytesRow s n).size, heap_alloc_new w _, ?_, Nat.le_refl _, fun j hj => ?_⟩
  · simp [bytesRow]
  · rw [bytesRow_at s n j (by simpa using hj)]
    simp

/-- A slice of n one-cell elements at A reads as xs. -/
def Rds (w : World) (A : Option Addr) (n : Nat) (xs : List Value) : Prop :=
  xs.length = n ∧ ∀ j (h : j < xs.length), ∃ b off, A = some ⟨b, off, none⟩ ∧ b < w.heap.size ∧ w.cell? ⟨b, off + j, none⟩ = some xs[j]
/-- Bytes as cells. -/
def bcells (L : List UInt8) : List Value := L.map fun c => .int .u8 (c.toNat : Int)
/-- Numbers as cells. -/
def icells (k : IntKind) (l : List Int) : List Value := l.map (Value.int k)
theorem length_bcells (L : List UInt8) : (bcells L).length = L.length := by simp [bcells]
theorem length_icells (k : IntKind) (l : List Int) : (icells k l).length = l.length := by simp [icells]
theorem bcells_append (a b : List UInt8) : bcells (a ++ b) = bcells a ++ bcells b := by simp [bcells]
theorem bcells_drop (a : List UInt8) (k : Nat) : bcells (a.drop k) = (bcells a).drop k := by simp [bcells]
theorem bcells_take (a : List UInt8) (k : Nat) : bcells (a.take k) = (bcells a).take k := by simp [bcells]
theorem icells_append (k : IntKind) (a b : List Int) : icells k (a ++ b) = icells k a ++ icells k b := by simp [icells]
theorem bcells_inj {a b : List UInt8} (h : bcells a = bcells b) : a = b := by
  unfold bcells at h
  refine List.map_inj_right (f := fun c : UInt8 => Value.int .u8 (c.toNat : Int)) (fun x y e => ?_) |>.1 h
  injection e with _ e
  exact UInt8.toNat_inj.1 (by omega)
theorem bcells_one (L : List UInt8) : ∀ u ∈ bcells L, u.oneCell' = true := by
  intro u hu
  simp only [bcells, List.mem_map] at hu
  obtain ⟨c, _, rfl⟩ := hu
  rfl
theorem icells_one (k : IntKind) (l : List Int) : ∀ u ∈ icells k l, u.oneCell' = true := by
  intro u hu
  simp only [icells, List.mem_map] at hu
  obtain ⟨c, _, rfl⟩ := hu
  rfl

theorem info_u8 : (Try.prog.info? 5).map (fun i => (i.zero, i.size, i.bytes)) = some (some (.int .u8 0), 1, 1) := by kernel_rfl

section
variable {w w' : World} {A : Option Addr} {n : Nat} {xs : List Value}
theorem Rds.nil (A : Option Addr) : Rds w A 0 [] := ⟨rfl, fun j h => absurd h (by simp)⟩
theorem Rds.spot (h : Rds w A n xs) (hn : 0 < n) : ∃ b off, A = some ⟨b, off, none⟩ ∧ b < w.heap.size ∧ ∀ j (h : j < xs.length), w.cell? ⟨b, off + j, none⟩ = some xs[j] := by
  obtain ⟨b, off, rfl, hb, _⟩ := h.2 0 (by rw [h.1]; exact hn)
  refine ⟨b, off, rfl, hb, fun j hj => ?_⟩
  obtain ⟨b', off', e, _, hc⟩ := h.2 j hj
  injection e with e
  injection e with e1 e2
  subst e1 e2
  exact hc
theorem Rds.of_spot {b off : Nat} (hl : xs.length = n) (hb : b < w.heap.size) (h : ∀ j (h : j < xs.length), w.cell? ⟨b, off + j, none⟩ = some xs[j]) : Rds w (some ⟨b, off, none⟩) n xs :=
  ⟨hl, fun j hj => ⟨b, off, rfl, hb, h j hj⟩⟩
theorem Rds.below (h : Rds w A n xs) (hb : Below w.heap.size w w') : Rds w' A n xs :=
  ⟨h.1, fun j hj => by
    obtain ⟨b, off, rfl, hlt, hc⟩ := h.2 j hj
    exact ⟨b, off, rfl, Nat.lt_of_lt_of_le hlt hb.size, (hb.cell (p := ⟨b, off + j, none⟩) hlt).trans hc⟩⟩
theorem Rds.under {B : Nat} (h : Rds w A n xs) (hb : Below B w w') (hB : w.heap.size ≤ B) : Rds w' A n xs := h.below (hb.mono hB)
theorem Rds.cut {b off : Nat} (h : Rds w (some ⟨b, off, none⟩) n xs) (k : Nat) (hk : k ≤ n) : Rds w (some ⟨b, off + k, none⟩) (n - k) (xs.drop k) :=
  ⟨by rw [List.length_drop, h.1], fun j hj => by
    have hj' : k + j < xs.length := by rw [List.length_drop] at hj; omega
    obtain ⟨b', off', e, hlt, hc⟩ := h.2 (k + j) hj'
    injection e with e
    injection e with e1 e2
    subst e1 e2
    refine ⟨b, off + k, rfl, hlt, ?_⟩
    rw [Nat.add_assoc, hc, List.getElem_drop]⟩
theorem Rds.upto {b off : Nat} (h : Rds w (some ⟨b, off, none⟩) n xs) (k : Nat) (hk : k ≤ n) : Rds w (some ⟨b, off, none⟩) k (xs.take k) :=
  ⟨by rw [List.length_take, h.1]; omega, fun j hj => by
    have hj' : j < xs.length := by rw [List.length_take] at hj; omega
    obtain ⟨b', off', e, hlt, hc⟩ := h.2 j hj'
    refine ⟨b', off', e, hlt, ?_⟩
    rw [hc, List.getElem_take]⟩
theorem Rds.byte {L : List UInt8} {b off : Nat} (h : Rds w (some ⟨b, off, none⟩) n (bcells L)) (j : Nat) (hj : j < L.length) : w.cell? ⟨b, off + j, none⟩ = some (.int .u8 (L[j].toNat : Int)) := by
  obtain ⟨b', off', e, _, hc⟩ := h.2 j (by rw [length_bcells]; exact hj)
  injection e with e
  injection e with e1 e2
  subst e1 e2
  rw [hc]
  simp [bcells]
theorem Rds.int {k : IntKind} {l : List Int} {b off : Nat} (h : Rds w (some ⟨b, off, none⟩) n (icells k l)) (j : Nat) (hj : j < l.length) : w.cell? ⟨b, off + j, none⟩ = some (.int k l[j]) := by
  obtain ⟨b', off', e, _, hc⟩ := h.2 j (by rw [length_icells]; exact hj)
  injection e with e
  injection e with e1 e2
  subst e1 e2
  rw [hc]
  simp [icells]
/-- What the call owns reads as its cells. -/
theorem owns_form {base : Nat} {e : TypeId} {v : Value} (h : w.ownsRow base e 1 v n xs) : ∃ A c, v = .slice A n c ∧ n ≤ c ∧ c ≤ maxLen ∧ Rds w A n xs := by
  obtain ⟨hl, h⟩ := h
  rw [Nat.mul_one] at hl
  rcases h with ⟨rfl, rfl⟩ | ⟨g, cap, cur, rfl, hb, hh, hc, hm, hs, ht⟩
  · exact ⟨none, 0, rfl, Nat.le_refl _, Nat.zero_le _, hl, fun j hj => absurd hj (by omega)⟩
  · refine ⟨some ⟨g, 0, none⟩, cap, rfl, hc, hm, Rds.of_spot hl (Array.getElem?_eq_some_iff.1 hh).1 fun j hj => ?_⟩
    rw [Nat.zero_add, cell_of_row w g j cur e (0, 0) hh]
    simp only [Nat.mul_one] at ht
    have : (cur.toList.take n)[j]? = some xs[j] := by rw [ht]; exact List.getElem?_eq_getElem hj
    rw [List.getElem?_take, if_pos (by omega)] at this
    simpa using this
theorem owns_below {base : Nat} {e : TypeId} {size : Nat} {v : Value} (h : w.ownsRow base e size v n xs) (hb : Below w.heap.size w w') : w'.ownsRow base e size v n xs := by
  refine ⟨h.1, ?_⟩
  rcases h.2 with hn | ⟨g, cap, cur, rfl, hg, hh, rest⟩
  · exact .inl hn
  · exact .inr ⟨g, cap, cur, rfl, hg, (hb.block g (Array.getElem?_eq_some_iff.1 hh).1).trans hh, rest⟩
theorem owns_base {base base' : Nat} {e : TypeId} {size : Nat} {v : Value} (h : w.ownsRow base e size v n xs) (hb : base' ≤ base) : w.ownsRow base' e size v n xs := by
  refine ⟨h.1, ?_⟩
  rcases h.2 with hn | ⟨g, cap, cur, rfl, hg, rest⟩
  · exact .inl hn
  · exact .inr ⟨g, cap, cur, rfl, Nat.le_trans hb hg, rest⟩

/-- 'string(b)' of a slice that reads as bytes. -/
theorem run_string_of {P : Program} (src dst e : TypeId) (hs : P.underlying src = some (.slice e)) (he : P.underlying e = some (.int .u8)) (hd : P.underlying dst = some .string) (L : List UInt8) (c : Nat) (h : Rds w A n (bcells L)) :
    (convert src dst (.slice A n c)).run P w = .ok (.string (strOf L)) w := by
  have hl : L.length = n := by rw [← length_bcells]; exact h.1
  cases A with
  | none =>
    have h0 : n = 0 := by
      rcases Nat.eq_zero_or_pos n with h0 | h0
      · exact h0
      · obtain ⟨_, _, e, _⟩ := h.spot h0
        cases e
    subst h0
    obtain rfl : L = [] := List.eq_nil_of_length_eq_zero hl
    rw [run_convert_bytes_string w src dst e none 0 c hs he hd]
    rfl
  | some a =>
    subst hl
    exact run_convert_bytes_back w src dst e a c L hs he hd (fun j hj => by
      obtain ⟨b, off, e, _, hc⟩ := h.2 j (by rw [length_bcells]; exact hj)
      injection e with e
      subst e
      have ha : (⟨b, off, none⟩ : Addr).add j = ⟨b, off + j, none⟩ := by
        unfold Addr.add
        split <;> simp_all
      rw [ha, hc]
      simp [bcells])
end

section
variable {P : Program} {W w0 : World} {ops : Array Oper} {rest : List Oper} {o : Oper} {a : Act} {Q : Exit → Act → World → Prop}
/-- 'v = append(v, x, ..)' of elements that were laid in a new block just before: v is the call's own row. -/
theorem wpList_app (hgd : o.guard = none) (s x : Operand) (t : TypeId) (ho : o.op = .call { callee := .builtin .append, args := #[s, x], argTypes := #[t, t] })
    (B : Nat) (e : TypeId) (i : TypeInfo) (z : Value) (by_ : Nat) (ht : P.underlying t = some (.slice e)) (hi : P.info? e = some i) (hz : i.zero = some z) (hsize : i.size = 1) (hby : i.bytes = by_) (hzs : z.cells.size = 1)
    (v : Value) (n : Nat) (xs : List Value) (hs : a.eval s = v) (hown : W.ownsRow B e 1 v n xs) (hbel : Below B w0 W) (hB : B ≤ W.heap.size)
    (news : List Value) (m : Nat) (hm : news.length = m) (hx : a.eval x = .slice (some ⟨W.heap.size, 0, none⟩) m m) (h1 : ∀ u ∈ news, u.oneCell' = true)
    (h63 : n + m ≤ maxLen) (hbytes : (n + m) * by_ ≤ 140737488355328)
    (h : ∀ v' w', w'.ownsRow B e 1 v' (n + m) (xs ++ news) → Below B w0 w' → wpList P ops Q rest (a.put o.dst v') w') :
    wpList P ops Q (o :: rest) a (W.alloc (.cells news.toArray e)) := by
  refine wpList_append_own _ hgd s x t ho B e i z 1 by_ ht hi hz hsize hby hzs (by decide) v n xs hs (hown.alloc _) ⟨W.heap.size, 0, none⟩ m m news hx (by omega) (fun j u hj => ?_) h1 h63 hbytes (by simp; omega) (fun v' w' h2 h3 _ => h v' w' h2 ?_)
  · rw [add_at, World.cell?_alloc_mark]
    simpa using hj
  · exact (hbel.alloc hB _).grown h3 (by simp; omega) (fun g hg => (hown.lt g hg).1)
/-- The same at a step of a region that draws its order. -/
theorem step_app {K : Act → World → Prop} {E : Prop} (hgd : o.guard = none) (s x : Operand) (t : TypeId) (ho : o.op = .call { callee := .builtin .append, args := #[s, x], argTypes := #[t, t] })
    (B : Nat) (e : TypeId) (i : TypeInfo) (z : Value) (by_ : Nat) (ht : P.underlying t = some (.slice e)) (hi : P.info? e = some i) (hz : i.zero = some z) (hsize : i.size = 1) (hby : i.bytes = by_) (hzs : z.cells.size = 1)
    (v : Value) (n : Nat) (xs : List Value) (hs : a.eval s = v) (hown : W.ownsRow B e 1 v n xs) (hbel : Below B w0 W) (hB : B ≤ W.heap.size)
    (news : List Value) (m : Nat) (hm : news.length = m) (hm0 : 0 < m) (hx : a.eval x = .slice (some ⟨W.heap.size, 0, none⟩) m m) (h1 : ∀ u ∈ news, u.oneCell' = true)
    (h63 : n + m ≤ maxLen) (hbytes : (n + m) * by_ ≤ 140737488355328) {wq : World} (hwq : Below B (W.alloc (.cells news.toArray e)) wq ∧ (∀ b : Nat, wq.heap[b]? = (W.alloc (.cells news.toArray e)).heap[b]?) ∧ wq.heap.size = W.heap.size + 1)
    (h : ∀ v' w', w'.ownsRow B e 1 v' (n + m) (xs ++ news) → Below B w0 w' → K (a.put o.dst v') w') :
    if Region.wanted o (yielded ops a.tmps) = true then Oper.wp P o a wq K Q else E := by
  have hgr : Below (W.alloc (.cells news.toArray e)).heap.size (W.alloc (.cells news.toArray e)) wq := ⟨hwq.1.os, hwq.1.tape, hwq.1.output, hwq.1.size, fun k _ => hwq.2.1 k⟩
  have hown' : wq.ownsRow B e 1 v n xs := owns_below (hown.alloc _) hgr
  refine step_append_lies (w := wq) hgd s x t ho B e i z 1 by_ ht hi hz hsize hby hzs (by decide) v n xs hs hown' ⟨W.heap.size, 0, none⟩ m m news hx (by omega) (fun j u hj => ?_) h1 hm0 h63 hbytes (by omega) _ rfl (fun g cap w' h2 h3 _ _ => h _ w' h2 ?_)
  · rw [add_at, World.cell?_of_block (w := W.alloc (.cells news.toArray e)) (hwq.2.1 _), World.cell?_alloc_mark]
    simpa using hj
  · exact ((hbel.alloc hB _).trans hwq.1).grown h3 (by omega) (fun g hg => (hown.lt g hg).1)
end
end Go.Proofs.Ytafnekilnbhhlaa.Base
