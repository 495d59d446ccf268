/- Texts that belong together: Base, Base2, Base3, Regs, Regt, Regl, Regp. -/
import Derived.Test.YtegpfgccaminkaaGreatDoorChecked
import Derived.WalkKit
import Derived.WalkSpells
import Derived.WalkLawsBesides
import Derived.Outline
import Derived.Laws.IdiomStrings
import Derived.Deep.Draws
import Derived.Deep.AppendLies
import Derived.Deep.RegionHeld3
import Derived.Deep.DrawnRows
import Derived.Laws.OwnMore
import Derived.StillTail
set_option linter.unusedSimpArgs false
set_option linter.unusedVariables false
namespace Go.Proofs.YtegpfgccaminkaaGreatDoor.Base
open Go.RowKit
theorem ret_bool {a b : Bool} (h : a = b) : Ending.returned (.bool a) = .returned (.bool b) := by rw [h]
theorem ret_int {k : IntKind} {a b : Int} (h : a = b) : Ending.returned (.int k a) = .returned (.int k b) := by rw [h]
theorem ret_str {a b : ByteArray} (h : a = b) : Ending.returned (.string a) = .returned (.string b) := by rw [h]
theorem int_eq {k : IntKind} {a b : Int} (h : a = b) : Value.int k a = .int k b := by rw [h]
theorem ret3 {a b c a' b' c' : Value} (h1 : a = a') (h2 : b = b') (h3 : c = c') : Ending.returned (.tuple #[a, b, c]) = .returned (.tuple #[a', b', c']) := by rw [h1, h2, h3]
theorem add_at (g j : Nat) : (⟨g, 0, none⟩ : Addr).add j = ⟨g, j, none⟩ := by unfold Addr.add; split <;> simp_all
theorem below_drewN {B : Nat} {a w : World} (h : Below B a w) (n : Nat) : Below B a (w.drewN n) := ⟨h.os, h.tape, h.output, h.size, h.block⟩
theorem and15 (c : UInt8) : bits .and .u8 (c.toNat : Int) 15 = (c.toNat : Int) % 16 := by
 have H : ∀ n : Fin 256, bits .and .u8 (n.val : Int) 15 = (n.val : Int) % 16 := by decide +kernel
 exact H ⟨c.toNat, c.toNat_lt⟩
theorem hid {p : Prop} (h : p) : Hid p := h
def strOf (l : List UInt8) : ByteArray := ⟨l.toArray⟩
theorem strOf_toList (s : ByteArray) : strOf s.data.toList = s := by cases s; rfl
theorem size_strOf (l : List UInt8) : (strOf l).size = l.length := by simp [strOf, ByteArray.size]
def ByteRow (w : World) (g : Nat) (t : TypeId) (L : List UInt8) : Prop :=
 ∃ C m, w.heap[g]? = some (.cells C t (m, m + 1)) ∧ L.length ≤ m ∧ m ≤ C.size ∧ ∀ j (h : j < L.length), C[j]? = some (.int .u8 (L[j].toNat : Int))
theorem ByteRow.cell {w : World} {g : Nat} {t : TypeId} {L : List UInt8} (h : ByteRow w g t L) (j : Nat) (hj : j < L.length) : w.cell? ⟨g, j, none⟩ = some (.int .u8 (L[j].toNat : Int)) := by
 obtain ⟨C, m, hh, hm, hC, hc⟩ := h
 unfold World.cell?
 rw [hh]
 simpa using hc j hj
theorem ByteRow.frozen {w : World} {g : Nat} {t : TypeId} {L : List UInt8} (h : ByteRow w g t L) (j : Nat) (hj : j < L.length) : w.frozen? ⟨g, j, none⟩ = false := by
 obtain ⟨C, m, hh, hm, hC, hc⟩ := h
 unfold World.frozen?
 rw [hh]
 simp
 omega
theorem ByteRow.set {w : World} {g : Nat} {t : TypeId} {L : List UInt8} (h : ByteRow w g t L) (j : Nat) (c : UInt8) : ByteRow (w.setCell ⟨g, j, none⟩ (.int .u8 (c.toNat : Int))) g t (L.set j c) := by
 obtain ⟨C, m, hh, hm, hC, hc⟩ := h
 refine ⟨C.setIfInBounds j (.int .u8 (c.toNat : Int)), m, ?_, by simpa using hm, by simpa using hC, fun i hi => ?_⟩
 ·simp [World.setCell, Array.getElem?_modify, hh]
 ·have hi' : i < L.length := by simpa using hi
  by_cases e : j = i
  ·subst e
   rw [Array.getElem?_setIfInBounds_self_of_lt (by omega)]
   simp
  ·rw [Array.getElem?_setIfInBounds_ne e, hc i hi']
   simp [List.getElem_set, e]
theorem ByteRow.made (w : World) (s : ByteArray) (t : TypeId) (n : Nat) (hn : s.size ≤ n) : ByteRow (w.alloc (.cells (bytesRow s n) t ((bytesRow s n).size, (bytesRow s n).size + 1))) w.heap.size t s.data.toList := by
 have hsz : s.data.size = s.size := rfl
 refine ⟨bytesRow s n, (bytesRow s n).size, heap_alloc_new w _, ?_, Nat.le_refl _, fun j hj => ?_⟩
 ·simp [bytesRow]
 ·rw [bytesRow_at s n j (by simpa using hj)]
  simp
def Rds (w : World) (A : Option Addr) (n : Nat) (xs : List Value) : Prop :=
 xs.length = n ∧ ∀ j (h : j < xs.length), ∃ b off, A = some ⟨b, off, none⟩ ∧ b < w.heap.size ∧ w.cell? ⟨b, off + j, none⟩ = some xs[j]
def bcells (L : List UInt8) : List Value := L.map fun c => .int .u8 (c.toNat : Int)
def icells (k : IntKind) (l : List Int) : List Value := l.map (Value.int k)
theorem length_bcells (L : List UInt8) : (bcells L).length = L.length := by simp [bcells]
theorem length_icells (k : IntKind) (l : List Int) : (icells k l).length = l.length := by simp [icells]
theorem bcells_append (a b : List UInt8) : bcells (a ++ b) = bcells a ++ bcells b := by simp [bcells]
theorem bcells_drop (a : List UInt8) (k : Nat) : bcells (a.drop k) = (bcells a).drop k := by simp [bcells]
theorem bcells_take (a : List UInt8) (k : Nat) : bcells (a.take k) = (bcells a).take k := by simp [bcells]
theorem icells_append (k : IntKind) (a b : List Int) : icells k (a ++ b) = icells k a ++ icells k b := by simp [icells]
theorem bcells_one (L : List UInt8) : ∀ u ∈ bcells L, u.oneCell' = true := by
 intro u hu
 simp only [bcells, List.mem_map] at hu
 obtain ⟨c, _, rfl⟩ := hu
 rfl
theorem info_u8 : (Tryz.prog.info? 5).map (fun i => (i.zero, i.size, i.bytes)) = some (some (.int .u8 0), 1, 1) := by kernel_rfl
section
variable {w w' : World} {A : Option Addr} {n : Nat} {xs : List Value}
theorem Rds.nil (A : Option Addr) : Rds w A 0 [] := ⟨rfl, fun j h => absurd h (by simp)⟩
theorem Rds.spot (h : Rds w A n xs) (hn : 0 < n) : ∃ b off, A = some ⟨b, off, none⟩ ∧ b < w.heap.size ∧ ∀ j (h : j < xs.length), w.cell? ⟨b, off + j, none⟩ = some xs[j] := by
 obtain ⟨b, off, rfl, hb, _⟩ := h.2 0 (by rw [h.1]; exact hn)
 refine ⟨b, off, rfl, hb, fun j hj => ?_⟩
 obtain ⟨b', off', e, _, hc⟩ := h.2 j hj
 injection e with e
 injection e with e1 e2
 subst e1 e2
 exact hc
theorem Rds.of_spot {b off : Nat} (hl : xs.length = n) (hb : b < w.heap.size) (h : ∀ j (h : j < xs.length), w.cell? ⟨b, off + j, none⟩ = some xs[j]) : Rds w (some ⟨b, off, none⟩) n xs :=
 ⟨hl, fun j hj => ⟨b, off, rfl, hb, h j hj⟩⟩
theorem Rds.below (h : Rds w A n xs) (hb : Below w.heap.size w w') : Rds w' A n xs :=
 ⟨h.1, fun j hj => by
  obtain ⟨b, off, rfl, hlt, hc⟩ := h.2 j hj
  exact ⟨b, off, rfl, Nat.lt_of_lt_of_le hlt hb.size, (hb.cell (p := ⟨b, off + j, none⟩) hlt).trans hc⟩⟩
theorem Rds.cut {b off : Nat} (h : Rds w (some ⟨b, off, none⟩) n xs) (k : Nat) (hk : k ≤ n) : Rds w (some ⟨b, off + k, none⟩) (n - k) (xs.drop k) :=
 ⟨by rw [List.length_drop, h.1], fun j hj => by
  have hj' : k + j < xs.length := by rw [List.length_drop] at hj; omega
  obtain ⟨b', off', e, hlt, hc⟩ := h.2 (k + j) hj'
  injection e with e
  injection e with e1 e2
  subst e1 e2
  refine ⟨b, off + k, rfl, hlt, ?_⟩
  rw [Nat.add_assoc, hc, List.getElem_drop]⟩
theorem Rds.upto {b off : Nat} (h : Rds w (some ⟨b, off, none⟩) n xs) (k : Nat) (hk : k ≤ n) : Rds w (some ⟨b, off, none⟩) k (xs.take k) :=
 ⟨by rw [List.length_take, h.1]; omega, fun j hj => by
  have hj' : j < xs.length := by rw [List.length_take] at hj; omega
  obtain ⟨b', off', e, hlt, hc⟩ := h.2 j hj'
  refine ⟨b', off', e, hlt, ?_⟩
  rw [hc, List.getElem_take]⟩
theorem Rds.byte {L : List UInt8} {b off : Nat} (h : Rds w (some ⟨b, off, none⟩) n (bcells L)) (j : Nat) (hj : j < L.length) : w.cell? ⟨b, off + j, none⟩ = some (.int .u8 (L[j].toNat : Int)) := by
 obtain ⟨b', off', e, _, hc⟩ := h.2 j (by rw [length_bcells]; exact hj)
 injection e with e
 injection e with e1 e2
 subst e1 e2
 rw [hc]
 simp [bcells]
theorem Rds.int {k : IntKind} {l : List Int} {b off : Nat} (h : Rds w (some ⟨b, off, none⟩) n (icells k l)) (j : Nat) (hj : j < l.length) : w.cell? ⟨b, off + j, none⟩ = some (.int k l[j]) := by
 obtain ⟨b', off', e, _, hc⟩ := h.2 j (by rw [length_icells]; exact hj)
 injection e with e
 injection e with e1 e2
 subst e1 e2
 rw [hc]
 simp [icells]
theorem owns_form {base : Nat} {e : TypeId} {v : Value} (h : w.ownsRow base e 1 v n xs) : ∃ A c, v = .slice A n c ∧ n ≤ c ∧ c ≤ maxLen ∧ Rds w A n xs := by
 obtain ⟨hl, h⟩ := h
 rw [Nat.mul_one] at hl
 rcases h with ⟨rfl, rfl⟩ | ⟨g, cap, cur, rfl, hb, hh, hc, hm, hs, ht⟩
 ·exact ⟨none, 0, rfl, Nat.le_refl _, Nat.zero_le _, hl, fun j hj => absurd hj (by omega)⟩
 ·refine ⟨some ⟨g, 0, none⟩, cap, rfl, hc, hm, Rds.of_spot hl (Array.getElem?_eq_some_iff.1 hh).1 fun j hj => ?_⟩
  rw [Nat.zero_add, cell_of_row w g j cur e (0, 0) hh]
  simp only [Nat.mul_one] at ht
  have : (cur.toList.take n)[j]? = some xs[j] := by rw [ht]; exact List.getElem?_eq_getElem hj
  rw [List.getElem?_take, if_pos (by omega)] at this
  simpa using this
theorem owns_below {base : Nat} {e : TypeId} {size : Nat} {v : Value} (h : w.ownsRow base e size v n xs) (hb : Below w.heap.size w w') : w'.ownsRow base e size v n xs := by
 refine ⟨h.1, ?_⟩
 rcases h.2 with hn | ⟨g, cap, cur, rfl, hg, hh, rest⟩
 ·exact .inl hn
 ·exact .inr ⟨g, cap, cur, rfl, hg, (hb.block g (Array.getElem?_eq_some_iff.1 hh).1).trans hh, rest⟩
theorem owns_base {base base' : Nat} {e : TypeId} {size : Nat} {v : Value} (h : w.ownsRow base e size v n xs) (hb : base' ≤ base) : w.ownsRow base' e size v n xs := by
 refine ⟨h.1, ?_⟩
 rcases h.2 with hn | ⟨g, cap, cur, rfl, hg, rest⟩
 ·exact .inl hn
 ·exact .inr ⟨g, cap, cur, rfl, Nat.le_trans hb hg, rest⟩
theorem run_string_of {P : Program} (src dst e : TypeId) (hs : P.underlying src = some (.slice e)) (he : P.underlying e = some (.int .u8)) (hd : P.underlying dst = some .string) (L : List UInt8) (c : Nat) (h : Rds w A n (bcells L)) :
  (convert src dst (.slice A n c)).run P w = .ok (.string (strOf L)) w := by
 have hl : L.length = n := by rw [← length_bcells]; exact h.1
 cases A with
 | none =>
  have h0 : n = 0 := by
   rcases Nat.eq_zero_or_pos n with h0 | h0
   ·exact h0
   ·obtain ⟨_, _, e, _⟩ := h.spot h0
    cases e
  subst h0
  obtain rfl : L = [] := List.eq_nil_of_length_eq_zero hl
  rw [run_convert_bytes_string w src dst e none 0 c hs he hd]
  rfl
 | some a =>
  subst hl
  exact run_convert_bytes_back w src dst e a c L hs he hd (fun j hj => by
   obtain ⟨b, off, e, _, hc⟩ := h.2 j (by rw [length_bcells]; exact hj)
   injection e with e
   subst e
   have ha : (⟨b, off, none⟩ : Addr).add j = ⟨b, off + j, none⟩ := by
    unfold Addr.add
    split <;> simp_all
   rw [ha, hc]
   simp [bcells])
end
section
variable {P : Program} {W w0 : World} {ops : Array Oper} {rest : List Oper} {o : Oper} {a : Act} {Q : Exit → Act → World → Prop}
theorem wpList_app (hgd : o.guard = none) (s x : Operand) (t : TypeId) (ho : o.op = .call { callee := .builtin .append, args := #[s, x], argTypes := #[t, t] })
  (B : Nat) (e : TypeId) (i : TypeInfo) (z : Value) (by_ : Nat) (ht : P.underlying t = some (.slice e)) (hi : P.info? e = some i) (hz : i.zero = some z) (hsize : i.size = 1) (hby : i.bytes = by_) (hzs : z.cells.size = 1)
  (v : Value) (n : Nat) (xs : List Value) (hs : a.eval s = v) (hown : W.ownsRow B e 1 v n xs) (hbel : Below B w0 W) (hB : B ≤ W.heap.size)
  (news : List Value) (m : Nat) (hm : news.length = m) (hx : a.eval x = .slice (some ⟨W.heap.size, 0, none⟩) m m) (h1 : ∀ u ∈ news, u.oneCell' = true)
  (h63 : n + m ≤ maxLen) (hbytes : (n + m) * by_ ≤ 140737488355328)
  (h : ∀ v' w', w'.ownsRow B e 1 v' (n + m) (xs ++ news) → Below B w0 w' → wpList P ops Q rest (a.put o.dst v') w') :
  wpList P ops Q (o :: rest) a (W.alloc (.cells news.toArray e)) := by
 refine wpList_append_own _ hgd s x t ho B e i z 1 by_ ht hi hz hsize hby hzs (by decide) v n xs hs (hown.alloc _) ⟨W.heap.size, 0, none⟩ m m news hx (by omega) (fun j u hj => ?_) h1 h63 hbytes (by simp; omega) (fun v' w' h2 h3 _ => h v' w' h2 ?_)
 ·rw [add_at, World.cell?_alloc_mark]
  simpa using hj
 ·exact (hbel.alloc hB _).grown h3 (by simp; omega) (fun g hg => (hown.lt g hg).1)
theorem step_app {K : Act → World → Prop} {E : Prop} (hgd : o.guard = none) (s x : Operand) (t : TypeId) (ho : o.op = .call { callee := .builtin .append, args := #[s, x], argTypes := #[t, t] })
  (B : Nat) (e : TypeId) (i : TypeInfo) (z : Value) (by_ : Nat) (ht : P.underlying t = some (.slice e)) (hi : P.info? e = some i) (hz : i.zero = some z) (hsize : i.size = 1) (hby : i.bytes = by_) (hzs : z.cells.size = 1)
  (v : Value) (n : Nat) (xs : List Value) (hs : a.eval s = v) (hown : W.ownsRow B e 1 v n xs) (hbel : Below B w0 W) (hB : B ≤ W.heap.size)
  (news : List Value) (m : Nat) (hm : news.length = m) (hm0 : 0 < m) (hx : a.eval x = .slice (some ⟨W.heap.size, 0, none⟩) m m) (h1 : ∀ u ∈ news, u.oneCell' = true)
  (h63 : n + m ≤ maxLen) (hbytes : (n + m) * by_ ≤ 140737488355328) {wq : World} (hwq : Below B (W.alloc (.cells news.toArray e)) wq ∧ (∀ b : Nat, wq.heap[b]? = (W.alloc (.cells news.toArray e)).heap[b]?) ∧ wq.heap.size = W.heap.size + 1)
  (h : ∀ v' w', w'.ownsRow B e 1 v' (n + m) (xs ++ news) → Below B w0 w' → K (a.put o.dst v') w') :
  if Region.wanted o (yielded ops a.tmps) = true then Oper.wp P o a wq K Q else E := by
 have hgr : Below (W.alloc (.cells news.toArray e)).heap.size (W.alloc (.cells news.toArray e)) wq := ⟨hwq.1.os, hwq.1.tape, hwq.1.output, hwq.1.size, fun k _ => hwq.2.1 k⟩
 have hown' : wq.ownsRow B e 1 v n xs := owns_below (hown.alloc _) hgr
 refine step_append_lies (w := wq) hgd s x t ho B e i z 1 by_ ht hi hz hsize hby hzs (by decide) v n xs hs hown' ⟨W.heap.size, 0, none⟩ m m news hx (by omega) (fun j u hj => ?_) h1 hm0 h63 hbytes (by omega) _ rfl (fun g cap w' h2 h3 _ _ => h _ w' h2 ?_)
 ·rw [add_at, World.cell?_of_block (w := W.alloc (.cells news.toArray e)) (hwq.2.1 _), World.cell?_alloc_mark]
  simpa using hj
 ·exact ((hbel.alloc hB _).trans hwq.1).grown h3 (by omega) (fun g hg => (hown.lt g hg).1)
end
end Go.Proofs.YtegpfgccaminkaaGreatDoor.Base
namespace Go.Proofs.YtegpfgccaminkaaGreatDoor.Base2
open Go.RowKit Base
theorem rds_const (w : World) (L : List UInt8) (t : TypeId) (mk : Nat × Nat) : Rds (w.alloc (.cells (bcells L).toArray t mk)) (some ⟨w.heap.size, 0, none⟩) L.length (bcells L) :=
 Rds.of_spot (length_bcells L) (by simp) (fun j hj => by
  rw [Nat.zero_add, World.cell?_alloc_mark]
  simp)
theorem rds_made (s : ByteArray) (cap : Nat) (w : World) (t : TypeId) : Rds (w.drew.alloc (.cells (bytesRow s cap) t ((bytesRow s cap).size, (bytesRow s cap).size + 1))) (some ⟨w.heap.size, 0, none⟩) s.size (bcells s.data.toList) :=
 Rds.of_spot (by rw [length_bcells]; exact Array.length_toList) (by simp) (fun j hj => by
  have hj' : j < s.data.size := by rw [length_bcells, Array.length_toList] at hj; exact hj
  rw [Nat.zero_add]
  have e : w.heap.size = w.drew.heap.size := rfl
  rw [e, World.cell?_alloc_mark, bytesRow_at s cap j hj']
  simp [bcells])
theorem str_add {P : Program} (X Y : List UInt8) (w : World) (h : X.length + Y.length ≤ 9223372036854775807) : (Op.stringOp .add (strOf X) (strOf Y)).run P w = .ok (.string (strOf (X ++ Y))) w := by
 rw [run_string_add_sum w _ _ (by rw [size_strOf, size_strOf]; exact h)]
 congr 2
theorem str_add' {P : Program} (a b : ByteArray) (w : World) (h : a.size + b.size ≤ 9223372036854775807) : (Op.stringOp .add a b).run P w = .ok (.string (strOf (a.data.toList ++ b.data.toList))) w := by
 rw [run_string_add_sum w _ _ h]
 congr 3
theorem bel {w0 w w' : World} (h : Below w0.heap.size w0 w) (hb : Below w.heap.size w w') : Below w0.heap.size w0 w' := h.trans (hb.mono h.size)
end Go.Proofs.YtegpfgccaminkaaGreatDoor.Base2
namespace Go.Proofs.YtegpfgccaminkaaGreatDoor.Base3
open Go.RowKit Base Base2
section
variable {P : Program} {W w0 : World} {ops : Array Oper} {rest : List Oper} {o : Oper} {a : Act} {Q : Exit → Act → World → Prop}
theorem run_app_nil (base : Nat) (t ty e : TypeId) (i : TypeInfo) (size c : Nat) (ht : P.underlying t = some (.slice e)) (hi : P.info? e = some i) (v : Value) (n : Nat) (xs : List Value) (hown : W.ownsRow base e size v n xs) :
  (Builtin.append_ #[t, t] ty #[v, .slice none 0 c]).run P W = .ok v W := by
 rcases hown.2 with ⟨rfl, rfl⟩ | ⟨g, cap, cur, rfl, _, _, hnc, _⟩
 ·simp [Builtin.append_, run_underlying ht, sizeOf, typeInfo, hi, Builtin.lenOf, Builtin.firstCells]
 ·simp [Builtin.append_, run_underlying ht, sizeOf, typeInfo, hi, Builtin.lenOf, Builtin.firstCells, hnc, storeCells]
theorem wpList_app_any (hgd : o.guard = none) (s x : Operand) (t : TypeId) (ho : o.op = .call { callee := .builtin .append, args := #[s, x], argTypes := #[t, t] })
  (B : Nat) (e : TypeId) (i : TypeInfo) (z : Value) (by_ : Nat) (ht : P.underlying t = some (.slice e)) (hi : P.info? e = some i) (hz : i.zero = some z) (hsize : i.size = 1) (hby : i.bytes = by_) (hzs : z.cells.size = 1)
  (v : Value) (n : Nat) (xs : List Value) (hs : a.eval s = v) (hown : W.ownsRow B e 1 v n xs) (hbel : Below B w0 W) (hB : B ≤ W.heap.size)
  (A : Option Addr) (m c : Nat) (news : List Value) (hx : a.eval x = .slice A m c) (hr : Rds W A m news) (h1 : ∀ u ∈ news, u.oneCell' = true)
  (h63 : n + m ≤ maxLen) (hbytes : (n + m) * by_ ≤ 140737488355328)
  (h : ∀ v' w', w'.ownsRow B e 1 v' (n + m) (xs ++ news) → Below B w0 w' → wpList P ops Q rest (a.put o.dst v') w') :
  wpList P ops Q (o :: rest) a W := by
 cases A with
 | none =>
  have hm : m = 0 := by
   rcases Nat.eq_zero_or_pos m with h0 | h0
   ·exact h0
   ·obtain ⟨_, _, e, _⟩ := hr.spot h0
    cases e
  subst hm
  have hn : news = [] := List.eq_nil_of_length_eq_zero hr.1
  subst hn
  have hh := h v W (by simpa using hown) hbel
  refine wpList_plain hgd fun K hK => ?_
  have hrun := run_app_nil (P := P) (W := W) B t o.type e i 1 c ht hi v n xs hown
  unfold Oper.wp
  simp [execOp, ho, resolve, invoke, builtin, hs, hx, hrun, Result.andThen]
  exact hK _ _ hh
 | some ad =>
  refine wpList_append_own _ hgd s x t ho B e i z 1 by_ ht hi hz hsize hby hzs (by decide) v n xs hs hown ad m c news hx (by rw [hr.1, Nat.mul_one]) (fun j u hj => ?_) h1 h63 hbytes hB (fun v' w' h2 h3 _ => h v' w' h2 (hbel.grown h3 hB (fun g hg => (hown.lt g hg).1)))
  obtain ⟨hj', e⟩ := List.getElem?_eq_some_iff.1 hj
  obtain ⟨b, off, e1, _, hc⟩ := hr.2 j hj'
  injection e1 with e1
  subst e1
  have ha : (⟨b, off, none⟩ : Addr).add j = ⟨b, off + j, none⟩ := by
   unfold Addr.add
   split <;> simp_all
  rw [ha, hc, e]
end
end Go.Proofs.YtegpfgccaminkaaGreatDoor.Base3
namespace Go.Proofs.YtegpfgccaminkaaGreatDoor.Regs
open Go.RowKit Base
structure Keep where
 says : Value → World → Prop
 stays : ∀ v w w', Below w.heap.size w w' → says v w → says v w'
def is (v : Value) : Keep := ⟨fun u _ => u = v, fun _ _ _ _ h => h⟩
def any : Keep := ⟨fun _ _ => True, fun _ _ _ _ h => h⟩
def row (n : Nat) (xs : List Value) : Keep := ⟨fun u w => ∃ A c, u = .slice A n c ∧ n ≤ c ∧ c ≤ maxLen ∧ Rds w A n xs, fun _ _ _ hb ⟨A, c, h1, h2, h3, h4⟩ => ⟨A, c, h1, h2, h3, h4.below hb⟩⟩
def pick : List Keep → Nat → Keep
 | [], _ => any
 | r :: _, 0 => r
 | _ :: rs, n + 1 => pick rs n
def upd (t : Nat → Value) (i : Nat) (v : Value) (k : Nat) : Value := if k = i then v else t k
def filled (t : Nat → Value) : List Oper → Nat → Act → Act
 | [], _, a => a
 | o :: os, k, a => filled t os (k + 1) (a.put o.dst (t k))
def Have (R : List Keep) (t : Nat → Value) (w : World) : List Nat → Prop
 | [] => True
 | k :: ks => (pick R k).says (t k) w ∧ Have R t w ks
section
variable {P : Program} {md : Region.Mode} {ops : Array Oper} {Q : Exit → Act → World → Prop}
def Step (P : Program) (ops : Array Oper) (Q : Exit → Act → World → Prop) (A : (Nat → Value) → Act) (w0 : World) (R : List Keep) (i : Nat) (o : Oper) (ns : List Nat) : Prop :=
 ∀ t w, Below w0.heap.size w0 w → Have R t w ns → ∀ K : Act → World → Prop, (∀ v w', Below w.heap.size w w' → (pick R i).says v w' → K (A (upd t i v)) w') →
  if Region.wanted o (yielded ops (A t).tmps) = true then Oper.wp P o (A t) w K Q else K ((A t).put o.dst undef) w
def Steps (P : Program) (ops : Array Oper) (Q : Exit → Act → World → Prop) (A : (Nat → Value) → Act) (w0 : World) (R : List Keep) : Nat → List Oper → List (List Nat) → Prop
 | _, [], _ => True
 | k, o :: os, ns => Step P ops Q A w0 R k o (ns.headD []) ∧ Steps P ops Q A w0 R (k + 1) os ns.tail
theorem Steps.at {A : (Nat → Value) → Act} {w0 : World} {R : List Keep} : ∀ (os : List Oper) (k : Nat) (ns : List (List Nat)), Steps P ops Q A w0 R k os ns → ∀ j o, os[j]? = some o → Step P ops Q A w0 R (k + j) o (ns.getD j [])
 | [], _, _, _, j, o, h => by simp at h
 | p :: os, k, ns, h, 0, o, e => by
  simp at e
  subst e
  cases ns <;> exact h.1
 | p :: os, k, ns, h, j + 1, o, e => by
  have := Steps.at os (k + 1) ns.tail h.2 j o (by simpa using e)
  rw [Nat.add_assoc, Nat.add_comm 1 j] at this
  cases ns <;> simpa using this
def needsB (md : Region.Mode) (ops : Array Oper) (ns : List (List Nat)) : Bool :=
 (List.range ops.size).all fun i => match ops[i]? with
  | none => false
  | some o => (o.after.all fun e => !Region.binds md e || decide (e.on < i)) && (ns.getD i []).all fun k => o.after.any fun e => Region.binds md e && (e.on == k || (ns.getD e.on []).contains k)
theorem needs_back {ns : List (List Nat)} (h : needsB md ops ns = true) {i : Nat} {o : Oper} (ho : ops[i]? = some o) : (∀ e ∈ o.after, Region.binds md e = true → e.on < i) ∧ ∀ k ∈ ns.getD i [], ∃ e ∈ o.after, Region.binds md e = true ∧ (e.on = k ∨ k ∈ ns.getD e.on []) := by
 have h1 := List.all_eq_true.1 h i (by simp only [List.mem_range]; exact (Array.getElem?_eq_some_iff.1 ho).1)
 simp only [ho, Bool.and_eq_true] at h1
 obtain ⟨h1, h2⟩ := h1
 constructor
 ·intro e he hb
  have := Array.all_eq_true_iff_forall_mem.1 h1 e he
  simpa [hb] using this
 ·intro k hk
  have := List.all_eq_true.1 h2 k hk
  obtain ⟨e, he, h3⟩ := Array.any_eq_true'.1 this
  simp only [Bool.and_eq_true, Bool.or_eq_true, beq_iff_eq, List.contains_iff_mem] at h3
  exact ⟨e, he, h3.1, h3.2⟩
def unl (ops : Array Oper) (listed : Array Bool) : Nat := (List.range ops.size).countP fun i => !listed.getD i true
theorem getD_of {l : Array Bool} {i : Nat} (h : i < l.size) (d d' : Bool) : l.getD i d = l.getD i d' := by simp [Array.getD, h]
structure Inv (ops : Array Oper) (w0 : World) (R : List Keep) (ns : List (List Nat)) (listed : Array Bool) (t : Nat → Value) (w : World) : Prop where
 below : Below w0.heap.size w0 w
 size : listed.size = ops.size
 held : ∀ i, listed.getD i false = true → (pick R i).says (t i) w ∧ ∀ k ∈ ns.getD i [], listed.getD k false = true
theorem have_of {R : List Keep} {t : Nat → Value} {w : World} : ∀ ks : List Nat, (∀ k ∈ ks, (pick R k).says (t k) w) → Have R t w ks
 | [], _ => trivial
 | k :: ks, h => ⟨h k (by simp), have_of ks fun j hj => h j (by simp [hj])⟩
theorem have_get {R : List Keep} {t : Nat → Value} {w : World} {n : Nat} (h : Have R t w (List.range n)) (k : Nat) (hk : k < n) : (pick R k).says (t k) w := by
 have H : ∀ ks : List Nat, Have R t w ks → ∀ k ∈ ks, (pick R k).says (t k) w := by
  intro ks
  induction ks with
  | nil => intro _ k hk; cases hk
  | cons x xs ih =>
   intro h k hk
   rcases List.mem_cons.1 hk with rfl | hk
   ·exact h.1
   ·exact ih h.2 k hk
 exact H _ h k (by simpa using hk)
theorem all_listed {ns : List (List Nat)} (hB : needsB md ops ns = true) {listed : Array Bool} (hs : listed.size = ops.size) (hr : Region.ready md ops listed = []) : ∀ n i, i < n → i < ops.size → listed.getD i false = true := by
 intro n
 induction n with
 | zero => intro i h; omega
 | succ n ih =>
  intro i hi hlt
  by_cases hn : listed.getD i false = true
  ·exact hn
  ·exfalso
   have ho : ops[i]? = some ops[i] := Array.getElem?_eq_getElem hlt
   have : i ∈ Region.ready md ops listed := mem_ready.2 ⟨by rw [getD_of (by omega) true false]; simpa using hn, _, ho, fun e he hb => by
    have := (needs_back hB ho).1 e he hb
    exact ih e.on (by omega) (by omega)⟩
   rw [hr] at this
   cases this
theorem countP_set {listed : Array Bool} {i : Nat} (hs : listed.size = ops.size) (hi : i < ops.size) (hu : listed.getD i true = false) : unl ops (listed.setIfInBounds i true) < unl ops listed := by
 unfold unl
 have key : ∀ l : List Nat, l.countP (fun j => !(listed.setIfInBounds i true).getD j true) ≤ l.countP (fun j => !listed.getD j true) ∧ (i ∈ l → l.countP (fun j => !(listed.setIfInBounds i true).getD j true) < l.countP (fun j => !listed.getD j true)) := by
  intro l
  induction l with
  | nil => simp
  | cons x l ih =>
   have hx : x = i ∨ x ≠ i := Decidable.em _
   rcases hx with rfl | hx
   ·have h1 : (listed.setIfInBounds x true).getD x true = true := by simp [Array.getD]
    rw [List.countP_cons, List.countP_cons, h1, hu]
    simp only [Bool.not_true, Bool.not_false, Bool.false_eq_true, if_true, if_false]
    have := ih.1
    exact ⟨by omega, fun _ => by omega⟩
   ·have h1 : (listed.setIfInBounds i true).getD x true = listed.getD x true := getD_set_ne true (Ne.symm hx)
    rw [List.countP_cons, List.countP_cons, h1]
    refine ⟨by omega, fun h => ?_⟩
    rcases List.mem_cons.1 h with h | h
    ·exact absurd h.symm hx
    ·have := ih.2 h
     omega
 exact (key _).2 (by simpa using hi)
theorem wpAny_rel {A : (Nat → Value) → Act} {w0 : World} {R : List Keep} {ns : List (List Nat)} (hB : needsB md ops ns = true) (steps : Steps P ops Q A w0 R 0 ops.toList ns)
  (fin : ∀ t w, Below w0.heap.size w0 w → Have R t w (List.range ops.size) → Q .normal (A t) w) :
  ∀ (fuel : Nat) (listed : Array Bool) (t : Nat → Value) (w : World), Inv ops w0 R ns listed t w → unl ops listed ≤ fuel → wpAny P md ops Q fuel listed (A t) w := by
 have done : ∀ (listed : Array Bool) (t : Nat → Value) (w : World), Inv ops w0 R ns listed t w → Region.ready md ops listed = [] → Q .normal (A t) w := fun listed t w h hr =>
  fin t w h.below (have_of _ fun k hk => (h.held k (all_listed hB h.size hr (k + 1) k (by omega) (by simpa using hk))).1)
 intro fuel
 induction fuel with
 | zero =>
  intro listed t w h hu
  have hr : Region.ready md ops listed = [] := by
   cases e : Region.ready md ops listed with
   | nil => rfl
   | cons i l =>
    have hi : i ∈ Region.ready md ops listed := by rw [e]; simp
    obtain ⟨h0, o, ho, _⟩ := mem_ready.1 hi
    have := countP_set h.size (Array.getElem?_eq_some_iff.1 ho).1 h0
    omega
  exact ⟨hr, done listed t w h hr⟩
 | succ fuel ih =>
  intro listed t w h hu
  refine ⟨done listed t w h, fun i hi => ?_⟩
  obtain ⟨h0, o, ho, hall⟩ := mem_ready.1 hi
  have hlt := (Array.getElem?_eq_some_iff.1 ho).1
  have hneed : ∀ k ∈ ns.getD i [], listed.getD k false = true := fun k hk => by
   obtain ⟨e, he, hb, hk⟩ := (needs_back hB ho).2 k hk
   rcases hk with rfl | hk
   ·exact hall e he hb
   ·exact (h.held e.on (hall e he hb)).2 k hk
  have hst := Steps.at ops.toList 0 ns steps i o (by simpa using ho)
  rw [Nat.zero_add] at hst
  refine wpOp_step ho fun K hK => hst t w h.below (have_of _ fun k hk => (h.held k (hneed k hk)).1) K fun v w' hb hv => hK _ _ (ih _ _ _ ⟨h.below.trans (hb.mono h.below.size), by simpa using h.size, fun j hj => ?_⟩ ?_)
  ·by_cases hji : j = i
   ·subst hji
    refine ⟨by simpa [upd] using hv, fun k hk => getD_set_true (hneed k hk)⟩
   ·rw [getD_set_ne false (Ne.symm hji)] at hj
    have := h.held j hj
    refine ⟨by simp only [upd, if_neg hji]; exact (pick R j).stays _ _ _ hb this.1, fun k hk => getD_set_true (this.2 k hk)⟩
  ·have := countP_set h.size hlt h0
   omega
def now (ops : List Oper) (a : Act) (k : Nat) : Value := match (ops[k]?).bind (·.dst) with | some d => a.tmps.getD d undef | none => undef
theorem put_now (a : Act) (d : Option Tmp) (v : Value) (h : ∀ x, d = some x → v = a.tmps.getD x undef) : a.put d v = a := by
 cases d with
 | none => rfl
 | some x =>
  have := h x rfl
  subst this
  unfold Act.put
  simp only
  congr 1
  apply Array.ext_getElem?
  intro i
  by_cases hi : x = i
  ·subst hi
   by_cases hx : x < a.tmps.size
   ·simp [hx]
   ·simp [hx]
  ·rw [Array.getElem?_setIfInBounds_ne hi]
theorem filled_now (a : Act) (all : List Oper) : ∀ (os : List Oper) (k : Nat), (∀ j, os[j]? = all[k + j]?) → filled (now all a) os k a = a
 | [], _, _ => rfl
 | o :: os, k, h => by
  have h0 : all[k]? = some o := by simpa using (h 0).symm
  have e : a.put o.dst (now all a k) = a := put_now a _ _ fun x hx => by unfold now; rw [h0]; simp [hx]
  show filled (now all a) os (k + 1) (a.put o.dst (now all a k)) = a
  rw [e]
  exact filled_now a all os (k + 1) fun j => by have := h (j + 1); simpa [Nat.add_assoc, Nat.add_comm 1 j] using this
theorem wp_region_rel {id : Nat} {a : Act} {w : World} {l : List Oper} (hm : P.follows .mixedOrders = true) (R : List Keep) (ns : List (List Nat)) (hB : needsB .any l.toArray ns = true)
  (steps : Steps P l.toArray Q (fun t => filled t l 0 a) w R 0 l ns)
  (fin : ∀ t w', Below w.heap.size w w' → Have R t w' (List.range l.length) → Q .normal (filled t l 0 a) w') : (Code.region id l.toArray true).wp P Q a w := by
 refine wp_region_any hm ?_
 have h := wpAny_rel (P := P) (Q := Q) (md := .any) (ops := l.toArray) (A := fun t => filled t l 0 a) (w0 := w) (R := R) (ns := ns) hB (by simpa using steps) (by simpa using fin) l.length (Array.replicate l.length false) (now l a) { w with drawn := w.drawn + 1 }
  ⟨⟨rfl, rfl, rfl, Nat.le_refl _, fun _ _ => rfl⟩, by simp, fun i hi => by
   by_cases h : i < l.length <;> simp [Array.getD, h] at hi⟩ (by unfold unl; refine Nat.le_trans List.countP_le_length ?_; simp)
 have e := filled_now a l l 0 (fun j => by simp)
 have h' : wpAny P .any l.toArray Q l.length (Array.replicate l.length false) (filled (now l a) l 0 a) { w with drawn := w.drawn + 1 } := h
 rw [e] at h'
 simpa using h'
end
end Go.Proofs.YtegpfgccaminkaaGreatDoor.Regs
namespace Go.Proofs.YtegpfgccaminkaaGreatDoor.Regs
open Go.RowKit Base
theorem ext_drop (s : ByteArray) (k n : Nat) (h : n = s.size) : s.extract k n = strOf (s.data.toList.drop k) := by
 subst h
 apply ByteArray.ext
 apply Array.ext'
 rw [ByteArray.data_extract]
 simp only [strOf, Array.toList_extract, List.extract_eq_take_drop]
 rw [List.take_of_length_le]
 rw [List.length_drop, Array.length_toList]
 exact Nat.le_refl _
theorem int_wrap {e : Int} (h0 : -9223372036854775808 ≤ e) (h1 : e ≤ 9223372036854775807) : Value.int .i64 (IntKind.i64.wrap e) = .int .i64 e := by
 rw [IntKind.wrap_i64]
 congr 1
 omega
section
variable {P : Program} {md : Region.Mode} {ops : Array Oper} {Q : Exit → Act → World → Prop}
theorem countP_set_eq {listed : Array Bool} {i : Nat} (hs : listed.size = ops.size) (hi : i < ops.size) (hu : listed.getD i true = false) : unl ops (listed.setIfInBounds i true) + 1 = unl ops listed := by
 unfold unl
 have key : ∀ l : List Nat, l.Nodup → (i ∉ l → l.countP (fun j => !(listed.setIfInBounds i true).getD j true) = l.countP (fun j => !listed.getD j true)) ∧ (i ∈ l → l.countP (fun j => !(listed.setIfInBounds i true).getD j true) + 1 = l.countP (fun j => !listed.getD j true)) := by
  intro l
  induction l with
  | nil => simp
  | cons x l ih =>
   intro hnd
   rw [List.nodup_cons] at hnd
   have hx : x = i ∨ x ≠ i := Decidable.em _
   rcases hx with rfl | hx
   ·have h1 : (listed.setIfInBounds x true).getD x true = true := by simp [Array.getD]
    rw [List.countP_cons, List.countP_cons, h1, hu]
    simp only [Bool.not_true, Bool.not_false, Bool.false_eq_true, if_true, if_false]
    have := (ih hnd.2).1 hnd.1
    exact ⟨fun h => absurd (List.mem_cons_self) h, fun _ => by omega⟩
   ·have h1 : (listed.setIfInBounds i true).getD x true = listed.getD x true := getD_set_ne true (Ne.symm hx)
    rw [List.countP_cons, List.countP_cons, h1]
    refine ⟨fun h => ?_, fun h => ?_⟩
    ·have := (ih hnd.2).1 (fun hm => h (List.mem_cons_of_mem _ hm))
     omega
    ·rcases List.mem_cons.1 h with h | h
     ·exact absurd h.symm hx
     ·have := (ih hnd.2).2 h
      omega
 exact (key _ List.nodup_range).2 (by simpa using hi)
def filledN (t : Nat → Value) : Nat → List Oper → Nat → Act → Act
 | 0, _, _, a => a
 | _ + 1, [], _, a => a
 | n + 1, o :: os, k, a => filledN t n os (k + 1) (a.put o.dst (t k))
theorem filledN_take (t : Nat → Value) : ∀ (n : Nat) (os : List Oper) (k : Nat) (a : Act), filledN t n os k a = filled t (os.take n) k a
 | 0, _, _, _ => rfl
 | _ + 1, [], _, _ => rfl
 | n + 1, o :: os, k, a => by
  show filledN t n os (k + 1) (a.put o.dst (t k)) = _
  rw [filledN_take t n os]
  rfl
def tailB (md : Region.Mode) (ops : Array Oper) (ns : List (List Nat)) (n : Nat) : Bool :=
 decide (n < ops.size) && needsB md ops ns && ((List.range n).all fun k => (ns.getD n []).contains k) &&
 ((List.range ops.size).all fun i => decide (i ≤ n) || match ops[i]? with
  | none => false
  | some o => o.after.any fun e => Region.binds md e && decide (n ≤ e.on)) &&
 Region.seqB md ops (ops.size - n) n (List.replicate n true ++ List.replicate (ops.size - n) false).toArray
structure InvT (ops : Array Oper) (w0 : World) (R : List Keep) (ns : List (List Nat)) (n : Nat) (listed : Array Bool) (t : Nat → Value) (w : World) : Prop extends Inv ops w0 R ns listed t w where
 tail : ∀ i, n ≤ i → listed.getD i false = false
theorem wpAny_rel_tail {A : (Nat → Value) → Act} {w0 : World} {R : List Keep} {ns : List (List Nat)} {n : Nat} (hB : tailB md ops ns n = true) (steps : Steps P ops Q A w0 R 0 (ops.toList.take n) ns)
  (fin : ∀ t w, Below w0.heap.size w0 w → Have R t w (List.range n) → wpList P ops Q (ops.toList.drop n) (A t) w) :
  ∀ (fuel : Nat) (listed : Array Bool) (t : Nat → Value) (w : World), InvT ops w0 R ns n listed t w → unl ops listed = fuel → wpAny P md ops Q fuel listed (A t) w := by
 unfold tailB at hB
 simp only [Bool.and_eq_true, decide_eq_true_eq] at hB
 obtain ⟨⟨⟨⟨hn, hN⟩, hall⟩, hch⟩, hseq⟩ := hB
 -- all of the head is listed: the tail, in its order
 have done : ∀ (fuel : Nat) (listed : Array Bool) (t : Nat → Value) (w : World), InvT ops w0 R ns n listed t w → unl ops listed = fuel → (∀ i, i < n → listed.getD i false = true) → wpAny P md ops Q fuel listed (A t) w := by
  intro fuel listed t w h hu hl
  have he : listed = (List.replicate n true ++ List.replicate (ops.size - n) false).toArray := by
   apply Array.ext
   ·simp [h.size]; omega
   ·intro i h1 h2
    have hsz := h.size
    simp only [List.getElem_toArray]
    by_cases hi : i < n
    ·have := hl i hi
     simp [Array.getD, h1] at this
     rw [List.getElem_append_left (by simpa using hi)]
     simpa using this
    ·have := h.tail i (by omega)
     simp [Array.getD, h1] at this
     rw [List.getElem_append_right (by simpa using hi)]
     simpa using this
  have hf : fuel = (ops.toList.drop n).length := by
   rw [← hu]
   unfold unl
   have e : ops.size = n + (ops.size - n) := by omega
   rw [e, List.range_add, List.countP_append]
   have z1 : (List.range n).countP (fun i => !listed.getD i true) = 0 := by
    rw [List.countP_eq_zero]
    intro i hi
    have hin := List.mem_range.1 hi
    rw [getD_of (by rw [h.size]; omega) true false, hl i hin]
    decide
   have z2 : ((List.range (ops.size - n)).map (n + ·)).countP (fun i => !listed.getD i true) = ((List.range (ops.size - n)).map (n + ·)).length := by
    rw [List.countP_eq_length]
    intro i hi
    obtain ⟨j, hj, rfl⟩ := List.mem_map.1 hi
    have hjn := List.mem_range.1 hj
    rw [getD_of (by rw [h.size]; omega) true false, h.tail (n + j) (by omega)]
    rfl
   rw [z1, z2]
   simp
  have hw := fin t w h.below (have_of _ fun k hk => (h.held k (hl k (by simpa using hk))).1)
  rw [hf]
  refine wpAny_of_seq (md := md) (ops.toList.drop n) n listed (A t) w (fun j => by simp [List.getElem?_drop]) ?_ hw
  rw [he]
  simpa using hseq
 intro fuel
 induction fuel with
 | zero =>
  intro listed t w h hu
  refine done 0 listed t w h hu fun i hi => ?_
  cases e : listed.getD i false with
  | true => rfl
  | false =>
   have := countP_set_eq h.size (show i < ops.size by omega) (by rw [getD_of (by rw [h.size]; omega) true false]; exact e)
   omega
 | succ fuel ih =>
  intro listed t w h hu
  by_cases hl : ∀ i, i < n → listed.getD i false = true
  ·exact done (fuel + 1) listed t w h hu hl
  have hr0 : Region.ready md ops listed ≠ [] := fun hr => hl fun i hi => all_listed hN h.size hr (i + 1) i (by omega) (by omega)
  refine ⟨fun h0 => absurd h0 hr0, fun i hi => ?_⟩
  obtain ⟨h0, o, ho, hafter⟩ := mem_ready.1 hi
  have hlt := (Array.getElem?_eq_some_iff.1 ho).1
  have hneed : ∀ k ∈ ns.getD i [], listed.getD k false = true := fun k hk => by
   obtain ⟨e, he, hb, hk⟩ := (needs_back hN ho).2 k hk
   rcases hk with rfl | hk
   ·exact hafter e he hb
   ·exact (h.held e.on (hafter e he hb)).2 k hk
  have hin : i < n := by
   rcases Nat.lt_trichotomy i n with hlt' | rfl | hgt
   ·exact hlt'
   ·exact absurd (fun k hk => hneed k (by
     have := List.all_eq_true.1 hall k (List.mem_range.2 hk)
     simpa using this)) hl
   ·have h1 := List.all_eq_true.1 hch i (List.mem_range.2 hlt)
    simp only [ho, Bool.or_eq_true, decide_eq_true_eq] at h1
    rcases h1 with h1 | h1
    ·omega
    ·obtain ⟨e, he, hb⟩ := Array.any_eq_true'.1 h1
     simp only [Bool.and_eq_true, decide_eq_true_eq] at hb
     have h2 := hafter e he hb.1
     rw [h.tail e.on hb.2] at h2
     cases h2
  have hst := Steps.at (ops.toList.take n) 0 ns steps i o (by rw [List.getElem?_take, if_pos hin]; simpa using ho)
  rw [Nat.zero_add] at hst
  refine wpOp_step ho fun K hK => hst t w h.below (have_of _ fun k hk => (h.held k (hneed k hk)).1) K fun v w' hb hv => hK _ _ (ih _ _ _ ⟨⟨h.below.trans (hb.mono h.below.size), by simpa using h.size, fun j hj => ?_⟩, fun j hj => ?_⟩ ?_)
  ·by_cases hji : j = i
   ·subst hji
    refine ⟨by simpa [upd] using hv, fun k hk => getD_set_true (hneed k hk)⟩
   ·rw [getD_set_ne false (Ne.symm hji)] at hj
    have := h.held j hj
    refine ⟨by simp only [upd, if_neg hji]; exact (pick R j).stays _ _ _ hb this.1, fun k hk => getD_set_true (this.2 k hk)⟩
  ·rw [getD_set_ne false (by omega)]
   exact h.tail j hj
  ·have := countP_set_eq h.size hlt h0
   omega
theorem wp_region_rel_tail {id : Nat} {a : Act} {w : World} {l : List Oper} (hm : P.follows .mixedOrders = true) (n : Nat) (R : List Keep) (ns : List (List Nat)) (hB : tailB .any l.toArray ns n = true)
  (steps : Steps P l.toArray Q (fun t => filledN t n l 0 a) w R 0 (l.take n) ns)
  (fin : ∀ t w', Below w.heap.size w w' → Have R t w' (List.range n) → wpList P l.toArray Q (l.drop n) (filledN t n l 0 a) w') : (Code.region id l.toArray true).wp P Q a w := by
 refine wp_region_any hm ?_
 have h := wpAny_rel_tail (P := P) (Q := Q) (md := .any) (ops := l.toArray) (A := fun t => filledN t n l 0 a) (w0 := w) (R := R) (ns := ns) (n := n) hB (by simpa using steps) (by simpa using fin) l.length (Array.replicate l.length false) (now (l.take n) a) { w with drawn := w.drawn + 1 }
  ⟨⟨⟨rfl, rfl, rfl, Nat.le_refl _, fun _ _ => rfl⟩, by simp, fun i hi => by
   by_cases h : i < l.length <;> simp [Array.getD, h] at hi⟩, fun i _ => by by_cases h : i < l.length <;> simp [Array.getD, h]⟩ (by
   unfold unl
   have : (List.range l.toArray.size).countP (fun i => !(Array.replicate l.length false).getD i true) = (List.range l.toArray.size).length := by
    rw [List.countP_eq_length]
    intro i hi
    have hi' : i < l.length := by simpa using hi
    simp [Array.getD, hi']
   rw [this]
   simp)
 have e : filledN (now (l.take n) a) n l 0 a = a := by rw [filledN_take]; exact filled_now a (l.take n) (l.take n) 0 (fun j => by simp)
 have h' : wpAny P .any l.toArray Q l.length (Array.replicate l.length false) (filledN (now (l.take n) a) n l 0 a) { w with drawn := w.drawn + 1 } := h
 rw [e] at h'
 simpa using h'
end
end Go.Proofs.YtegpfgccaminkaaGreatDoor.Regs
namespace Go.Proofs.YtegpfgccaminkaaGreatDoor.Regs
open Go.RowKit Base
def whn (c : Bool) (k : Keep) : Keep := ⟨fun u w => (c = true → k.says u w) ∧ (c = false → u = undef), fun _ _ _ hb h => ⟨fun hc => k.stays _ _ _ hb (h.1 hc), h.2⟩⟩
section
variable {P : Program} {ops : Array Oper} {Q : Exit → Act → World → Prop}
def StepL (P : Program) (ops : Array Oper) (Q : Exit → Act → World → Prop) (l : List Oper) (a : Act) (w0 : World) (R : List Keep) (i : Nat) (o : Oper) (ns : List Nat) : Prop :=
 ∀ t w, Below w0.heap.size w0 w → Have R t w ns → ∀ K : Act → World → Prop, (∀ v w', Below w.heap.size w w' → (pick R i).says v w' → K ((filledN t i l 0 a).put o.dst v) w') →
  if Region.wanted o (yielded ops (filledN t i l 0 a).tmps) = true then Oper.wp P o (filledN t i l 0 a) w K Q else K ((filledN t i l 0 a).put o.dst undef) w
def StepsL (P : Program) (ops : Array Oper) (Q : Exit → Act → World → Prop) (l : List Oper) (a : Act) (w0 : World) (R : List Keep) : Nat → List Oper → List (List Nat) → Prop
 | _, [], _ => True
 | k, o :: os, ns => StepL P ops Q l a w0 R k o (ns.headD []) ∧ StepsL P ops Q l a w0 R (k + 1) os ns.tail
theorem filledN_congr (t t' : Nat → Value) : ∀ (n : Nat) (os : List Oper) (k : Nat) (a : Act), (∀ j, k ≤ j → j < k + n → t j = t' j) → filledN t n os k a = filledN t' n os k a
 | 0, _, _, _, _ => rfl
 | _ + 1, [], _, _, _ => rfl
 | n + 1, o :: os, k, a, h => by
  show filledN t n os (k + 1) (a.put o.dst (t k)) = filledN t' n os (k + 1) (a.put o.dst (t' k))
  rw [h k (Nat.le_refl _) (by omega), filledN_congr t t' n os (k + 1) _ fun j h1 h2 => h j (by omega) (by omega)]
theorem filledN_succ (t : Nat → Value) : ∀ (n : Nat) (os : List Oper) (k : Nat) (a : Act) (o : Oper), os[n]? = some o → filledN t (n + 1) os k a = (filledN t n os k a).put o.dst (t (k + n))
 | 0, [], _, _, _, h => by simp at h
 | 0, p :: os, k, a, o, h => by
  simp at h
  subst h
  rfl
 | n + 1, [], _, _, _, h => by simp at h
 | n + 1, p :: os, k, a, o, h => by
  show filledN t (n + 1) os (k + 1) (a.put p.dst (t k)) = _
  rw [filledN_succ t n os (k + 1) _ o (by simpa using h), show k + 1 + n = k + (n + 1) by omega]
  rfl
def backB (ns : List (List Nat)) : Bool := (List.range ns.length).all fun i => (ns.getD i []).all fun k => decide (k < i)
theorem have_sub {R : List Keep} {t : Nat → Value} {w : World} {n : Nat} (h : Have R t w (List.range n)) (ks : List Nat) (hk : ∀ k ∈ ks, k < n) : Have R t w ks :=
 have_of ks fun k hk' => have_get h k (hk k hk')
theorem have_upd {R : List Keep} {t : Nat → Value} {w w' : World} {n : Nat} {v : Value} (h : Have R t w (List.range n)) (hb : Below w.heap.size w w') (hv : (pick R n).says v w') : Have R (upd t n v) w' (List.range (n + 1)) :=
 have_of _ fun k hk => by
  have hk := List.mem_range.1 hk
  by_cases e : k = n
  ·subst e; simpa [upd] using hv
  ·have := have_get h k (by omega)
   simp only [upd, if_neg e]
   exact (pick R k).stays _ _ _ hb this
theorem wpList_rel {l : List Oper} {a : Act} {w0 : World} {R : List Keep}
  (fin : ∀ t w, Below w0.heap.size w0 w → Have R t w (List.range l.length) → Q .normal (filledN t l.length l 0 a) w) :
  ∀ (os : List Oper) (k : Nat) (ns : List (List Nat)), (∀ j, os[j]? = l[k + j]?) → k + os.length = l.length → (∀ i, ∀ x ∈ ns.getD i [], x < k + i) → StepsL P ops Q l a w0 R k os ns →
   ∀ t w, Below w0.heap.size w0 w → Have R t w (List.range k) → wpList P ops Q os (filledN t k l 0 a) w
 | [], k, ns, _, hk, _, _, t, w, hb, hh => by
  have : k = l.length := by simpa using hk
  subst this
  exact fin t w hb hh
 | o :: os, k, ns, he, hk, hn, hs, t, w, hb, hh => by
  have h0 : l[k]? = some o := by simpa using (he 0).symm
  have hns : ∀ x ∈ ns.headD [], x < k := fun x hx => by
   have := hn 0 x (by cases ns with | nil => cases hx | cons a b => exact hx)
   simpa using this
  have := hs.1 t w hb (have_sub hh _ hns) (wpList P ops Q os) fun v w' hb' hv => by
   have ih := wpList_rel fin os (k + 1) ns.tail (fun j => by have := he (j + 1); simpa [Nat.add_assoc, Nat.add_comm 1 j] using this) (by simp at hk; omega)
    (fun i x hx => by
     have := hn (i + 1) x (by cases ns with | nil => cases hx | cons a b => exact hx)
     omega) hs.2 (upd t k v) w' (hb.trans (hb'.mono hb.size)) (have_upd hh hb' hv)
   rw [filledN_succ _ k l 0 a o h0, filledN_congr (upd t k v) t k l 0 a (fun j _ h2 => by simp [upd]; omega)] at ih
   simpa [upd] using ih
  unfold wpList
  split
  ·rename_i hw
   rw [if_pos hw] at this
   exact .inl this
  ·rename_i hw
   rw [if_neg hw] at this
   exact this
theorem wpList_seq {l : List Oper} {a : Act} {w : World} (R : List Keep) (ns : List (List Nat)) (hB : backB ns = true)
  (steps : StepsL P ops Q l a w R 0 l ns)
  (fin : ∀ t w', Below w.heap.size w w' → Have R t w' (List.range l.length) → Q .normal (filledN t l.length l 0 a) w') : wpList P ops Q l a w := by
 refine wpList_rel (ops := ops) (l := l) fin l 0 ns (fun j => by simp) (by simp) (fun i x hx => ?_) steps (fun _ => undef) w (Below.refl _ _) trivial
 by_cases hi : i < ns.length
 ·have := List.all_eq_true.1 hB i (List.mem_range.2 hi)
  have := List.all_eq_true.1 this x hx
  simpa using this
 ·rw [List.getD_eq_getElem?_getD, List.getElem?_eq_none (by omega)] at hx
  cases hx
theorem wp_region_seq {id : Nat} {a : Act} {w : World} {l : List Oper} (R : List Keep) (ns : List (List Nat)) (hB : backB ns = true)
  (steps : StepsL P l.toArray Q l a w R 0 l ns)
  (fin : ∀ t w', Below w.heap.size w w' → Have R t w' (List.range l.length) → Q .normal (filledN t l.length l 0 a) w') : (Code.region id l.toArray false).wp P Q a w :=
 wp_region_lit (wpList_seq R ns hB steps fin)
end
end Go.Proofs.YtegpfgccaminkaaGreatDoor.Regs
namespace Go.Proofs.YtegpfgccaminkaaGreatDoor.Regs
open Go.RowKit Base
section
variable {P : Program} {md : Region.Mode} {ops : Array Oper} {Q : Exit → Act → World → Prop}
def tailPB (md : Region.Mode) (ops : Array Oper) (ns : List (List Nat)) (n : Nat) (pre : List Nat) : Bool :=
 decide (n < ops.size) && needsB md ops ns && ((List.range n).all fun k => pre.contains k || (ns.getD n []).contains k) &&
 ((List.range ops.size).all fun i => decide (i ≤ n) || match ops[i]? with
  | none => false
  | some o => o.after.any fun e => Region.binds md e && decide (n ≤ e.on)) &&
 Region.seqB md ops (ops.size - n) n (List.replicate n true ++ List.replicate (ops.size - n) false).toArray
theorem wpAny_pre_tail {A : (Nat → Value) → Act} {w0 : World} {R : List Keep} {ns : List (List Nat)} {n : Nat} {pre : List Nat} (hB : tailPB md ops ns n pre = true) (steps : Steps P ops Q A w0 R 0 (ops.toList.take n) ns)
  (fin : ∀ t w, Below w0.heap.size w0 w → Have R t w (List.range n) → wpList P ops Q (ops.toList.drop n) (A t) w) :
  ∀ (fuel : Nat) (listed : Array Bool) (t : Nat → Value) (w : World), InvT ops w0 R ns n listed t w → (∀ k ∈ pre, listed.getD k false = true) → unl ops listed = fuel → wpAny P md ops Q fuel listed (A t) w := by
 unfold tailPB at hB
 simp only [Bool.and_eq_true, decide_eq_true_eq] at hB
 obtain ⟨⟨⟨⟨hn, hN⟩, hall⟩, hch⟩, hseq⟩ := hB
 -- all of the head is listed: the tail, in its order
 have done : ∀ (fuel : Nat) (listed : Array Bool) (t : Nat → Value) (w : World), InvT ops w0 R ns n listed t w → unl ops listed = fuel → (∀ i, i < n → listed.getD i false = true) → wpAny P md ops Q fuel listed (A t) w := by
  intro fuel listed t w h hu hl
  have he : listed = (List.replicate n true ++ List.replicate (ops.size - n) false).toArray := by
   apply Array.ext
   ·simp [h.size]; omega
   ·intro i h1 h2
    have hsz := h.size
    simp only [List.getElem_toArray]
    by_cases hi : i < n
    ·have := hl i hi
     simp [Array.getD, h1] at this
     rw [List.getElem_append_left (by simpa using hi)]
     simpa using this
    ·have := h.tail i (by omega)
     simp [Array.getD, h1] at this
     rw [List.getElem_append_right (by simpa using hi)]
     simpa using this
  have hf : fuel = (ops.toList.drop n).length := by
   rw [← hu]
   unfold unl
   have e : ops.size = n + (ops.size - n) := by omega
   rw [e, List.range_add, List.countP_append]
   have z1 : (List.range n).countP (fun i => !listed.getD i true) = 0 := by
    rw [List.countP_eq_zero]
    intro i hi
    have hin := List.mem_range.1 hi
    rw [getD_of (by rw [h.size]; omega) true false, hl i hin]
    decide
   have z2 : ((List.range (ops.size - n)).map (n + ·)).countP (fun i => !listed.getD i true) = ((List.range (ops.size - n)).map (n + ·)).length := by
    rw [List.countP_eq_length]
    intro i hi
    obtain ⟨j, hj, rfl⟩ := List.mem_map.1 hi
    have hjn := List.mem_range.1 hj
    rw [getD_of (by rw [h.size]; omega) true false, h.tail (n + j) (by omega)]
    rfl
   rw [z1, z2]
   simp
  have hw := fin t w h.below (have_of _ fun k hk => (h.held k (hl k (by simpa using hk))).1)
  rw [hf]
  refine wpAny_of_seq (md := md) (ops.toList.drop n) n listed (A t) w (fun j => by simp [List.getElem?_drop]) ?_ hw
  rw [he]
  simpa using hseq
 intro fuel
 induction fuel with
 | zero =>
  intro listed t w h _ hu
  refine done 0 listed t w h hu fun i hi => ?_
  cases e : listed.getD i false with
  | true => rfl
  | false =>
   have := countP_set_eq h.size (show i < ops.size by omega) (by rw [getD_of (by rw [h.size]; omega) true false]; exact e)
   omega
 | succ fuel ih =>
  intro listed t w h hpre hu
  by_cases hl : ∀ i, i < n → listed.getD i false = true
  ·exact done (fuel + 1) listed t w h hu hl
  have hr0 : Region.ready md ops listed ≠ [] := fun hr => hl fun i hi => all_listed hN h.size hr (i + 1) i (by omega) (by omega)
  refine ⟨fun h0 => absurd h0 hr0, fun i hi => ?_⟩
  obtain ⟨h0, o, ho, hafter⟩ := mem_ready.1 hi
  have hlt := (Array.getElem?_eq_some_iff.1 ho).1
  have hneed : ∀ k ∈ ns.getD i [], listed.getD k false = true := fun k hk => by
   obtain ⟨e, he, hb, hk⟩ := (needs_back hN ho).2 k hk
   rcases hk with rfl | hk
   ·exact hafter e he hb
   ·exact (h.held e.on (hafter e he hb)).2 k hk
  have hin : i < n := by
   rcases Nat.lt_trichotomy i n with hlt' | rfl | hgt
   ·exact hlt'
   ·exact absurd (fun k hk => by
     have h1 := List.all_eq_true.1 hall k (List.mem_range.2 hk)
     simp only [Bool.or_eq_true, List.contains_iff_mem] at h1
     exact h1.elim (fun h1 => hpre k h1) (fun h1 => hneed k h1)) hl
   ·have h1 := List.all_eq_true.1 hch i (List.mem_range.2 hlt)
    simp only [ho, Bool.or_eq_true, decide_eq_true_eq] at h1
    rcases h1 with h1 | h1
    ·omega
    ·obtain ⟨e, he, hb⟩ := Array.any_eq_true'.1 h1
     simp only [Bool.and_eq_true, decide_eq_true_eq] at hb
     have h2 := hafter e he hb.1
     rw [h.tail e.on hb.2] at h2
     cases h2
  have hst := Steps.at (ops.toList.take n) 0 ns steps i o (by rw [List.getElem?_take, if_pos hin]; simpa using ho)
  rw [Nat.zero_add] at hst
  refine wpOp_step ho fun K hK => hst t w h.below (have_of _ fun k hk => (h.held k (hneed k hk)).1) K fun v w' hb hv => hK _ _ (ih _ _ _ ⟨⟨h.below.trans (hb.mono h.below.size), by simpa using h.size, fun j hj => ?_⟩, fun j hj => ?_⟩ (fun k hk => getD_set_true (hpre k hk)) ?_)
  ·by_cases hji : j = i
   ·subst hji
    refine ⟨by simpa [upd] using hv, fun k hk => getD_set_true (hneed k hk)⟩
   ·rw [getD_set_ne false (Ne.symm hji)] at hj
    have := h.held j hj
    refine ⟨by simp only [upd, if_neg hji]; exact (pick R j).stays _ _ _ hb this.1, fun k hk => getD_set_true (this.2 k hk)⟩
  ·rw [getD_set_ne false (by omega)]
   exact h.tail j hj
  ·have := countP_set_eq h.size hlt h0
   omega
def startB (k : Nat) (listed : Array Bool) (ns : List (List Nat)) (n : Nat) (pre : List Nat) : Bool :=
 decide (listed.size = k) && ((List.range k).all fun i => listed.getD i false == pre.contains i) && (pre.all fun i => decide (i < n) && (ns.getD i []).all fun j => pre.contains j)
theorem wpAny_go {l : List Oper} {a : Act} {w : World} (n : Nat) (R : List Keep) (ns : List (List Nat)) (pre : List Nat) {listed : Array Bool} {fuel : Nat} (hB : tailPB .any l.toArray ns n pre = true) (hS : startB l.length listed ns n pre = true) (hF : unl l.toArray listed = fuel)
  (h0 : ∀ k ∈ pre, (pick R k).says (now (l.take n) a k) w)
  (steps : Steps P l.toArray Q (fun t => filledN t n l 0 a) w R 0 (l.take n) ns)
  (fin : ∀ t w', Below w.heap.size w w' → Have R t w' (List.range n) → wpList P l.toArray Q (l.drop n) (filledN t n l 0 a) w') : wpAny P .any l.toArray Q fuel listed a w := by
 unfold startB at hS
 simp only [Bool.and_eq_true, decide_eq_true_eq] at hS
 obtain ⟨⟨hsz, hl⟩, hp⟩ := hS
 have hin : ∀ i, listed.getD i false = pre.contains i := fun i => by
  by_cases hi : i < l.length
  ·have := List.all_eq_true.1 hl i (List.mem_range.2 hi)
   simpa using this
  ·have h1 : listed.getD i false = false := by simp [Array.getD, hsz, hi]
   have h2 : pre.contains i = false := by
    cases e : pre.contains i with
    | false => rfl
    | true =>
     have := List.all_eq_true.1 hp i (by simpa using e)
     simp only [Bool.and_eq_true, decide_eq_true_eq] at this
     have hn : n < l.toArray.size := by
      unfold tailPB at hB
      simp only [Bool.and_eq_true, decide_eq_true_eq] at hB
      exact hB.1.1.1.1
     simp at hn
     omega
   rw [h1, h2]
 have h := wpAny_pre_tail (P := P) (Q := Q) (md := .any) (ops := l.toArray) (A := fun t => filledN t n l 0 a) (w0 := w) (R := R) (ns := ns) (n := n) (pre := pre) hB (by simpa using steps) (by simpa using fin) fuel listed (now (l.take n) a) w
  ⟨⟨Below.refl _ _, by simpa using hsz, fun i hi => by
   rw [hin] at hi
   have hm : i ∈ pre := by simpa using hi
   have := List.all_eq_true.1 hp i hm
   simp only [Bool.and_eq_true, decide_eq_true_eq] at this
   exact ⟨h0 i hm, fun k hk => by rw [hin]; exact List.all_eq_true.1 this.2 k hk⟩⟩, fun i hi => by
    rw [hin]
    cases e : pre.contains i with
    | false => rfl
    | true =>
     have := List.all_eq_true.1 hp i (by simpa using e)
     simp only [Bool.and_eq_true, decide_eq_true_eq] at this
     omega⟩ (fun k hk => by rw [hin]; simpa using hk) hF
 have e : filledN (now (l.take n) a) n l 0 a = a := by rw [filledN_take]; exact filled_now a (l.take n) (l.take n) 0 (fun j => by simp)
 have h' : wpAny P .any l.toArray Q fuel listed (filledN (now (l.take n) a) n l 0 a) w := h
 rwa [e] at h'
end
end Go.Proofs.YtegpfgccaminkaaGreatDoor.Regs
