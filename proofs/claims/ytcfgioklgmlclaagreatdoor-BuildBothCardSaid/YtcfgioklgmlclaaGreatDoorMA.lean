/- Texts that belong together: Base, eX, nO, aP, uf, fZ, Regt, fE, AP, uy, UtfD, Regg, Open, oW, Qe, Regl, aan. -/
import Derived.Test.YtcfgioklgmlclaaGreatDoorChecked
import Derived.WalkKit
import Derived.WalkSpells
import Derived.WalkLawsBesides
import Derived.Outline
import Derived.Laws.IdiomStrings
import Derived.Deep.Draws
import Derived.Deep.AppendLies
import Derived.Deep.RegionHeld3
import Derived.Deep.DrawnRows
import Derived.Lib.SplitLaws
import Derived.Lib.LastIndexByte
import Derived.Laws.OwnMore
import Derived.StillTail
import Derived.Deep.QuietTactic
import Derived.BigQuiet
import Derived.ProofKit
import Derived.OpenShut
import Derived.ShutString
import Derived.ChangeOld
import Derived.Below
import Derived.SliceStrings
import Derived.SizedLaws
import Derived.Laws.IdiomArrays
import Derived.Lib.SmallJoins
set_option linter.unusedSimpArgs false
set_option linter.unusedVariables false
set_option maxRecDepth 100000
set_option maxHeartbeats 64000000
namespace Go.Proofs.YtcfgioklgmlclaaGreatDoor.Base
open Go.RowKit
theorem aB {a b : Bool} (h : a = b) : Ending.returned (.bool a) = .returned (.bool b) := by rw [h]
theorem jW {k : IntKind} {a b : Int} (h : a = b) : Ending.returned (.int k a) = .returned (.int k b) := by rw [h]
theorem int_eq {k : IntKind} {a b : Int} (h : a = b) : Value.int k a = .int k b := by rw [h]
theorem fF {a b : Bool} (h : a = b) : Value.bool a = .bool b := by rw [h]
theorem nR {a b a' b' : Value} (h1 : a = a') (h2 : b = b') : Ending.returned (.tuple #[a, b]) = .returned (.tuple #[a', b']) := by rw [h1, h2]
theorem ret3 {a b c a' b' c' : Value} (h1 : a = a') (h2 : b = b') (h3 : c = c') : Ending.returned (.tuple #[a, b, c]) = .returned (.tuple #[a', b', c']) := by rw [h1, h2, h3]
theorem NI (g j : Nat) : (⟨g, 0, none⟩ : Addr).add j = ⟨g, j, none⟩ := by unfold Addr.add; split <;> simp_all
theorem below_drewN {B : Nat} {a w : World} (h : Below B a w) (n : Nat) : Below B a (w.drewN n) := ⟨h.os, h.tape, h.output, h.size, h.block⟩
theorem QG (c : UInt8) : bits .and .u8 (c.toNat : Int) 15 = (c.toNat : Int) % 16 := by
 have H : ∀ n : Fin 256, bits .and .u8 (n.val : Int) 15 = (n.val : Int) % 16 := by decide +kernel
 exact H ⟨c.toNat, c.toNat_lt⟩
theorem hid {p : Prop} (h : p) : Hid p := h
def strOf (l : List UInt8) : ByteArray := ⟨l.toArray⟩
theorem ay (s : ByteArray) : strOf s.data.toList = s := by cases s; rfl
theorem ah (l : List UInt8) : (strOf l).size = l.length := by simp [strOf, ByteArray.size]
def mJ (w : World) (g : Nat) (t : TypeId) (L : List UInt8) : Prop :=
 ∃ C m, w.heap[g]? = some (.cells C t (m, m + 1)) ∧ L.length ≤ m ∧ m ≤ C.size ∧ ∀ j (h : j < L.length), C[j]? = some (.int .u8 (L[j].toNat : Int))
theorem mJ.cell {w : World} {g : Nat} {t : TypeId} {L : List UInt8} (h : mJ w g t L) (j : Nat) (hj : j < L.length) : w.cell? ⟨g, j, none⟩ = some (.int .u8 (L[j].toNat : Int)) := by
 obtain ⟨C, m, hh, hm, hC, hc⟩ := h
 unfold World.cell?
 rw [hh]
 simpa using hc j hj
theorem mJ.frozen {w : World} {g : Nat} {t : TypeId} {L : List UInt8} (h : mJ w g t L) (j : Nat) (hj : j < L.length) : w.frozen? ⟨g, j, none⟩ = false := by
 obtain ⟨C, m, hh, hm, hC, hc⟩ := h
 unfold World.frozen?
 rw [hh]
 simp
 omega
theorem mJ.set {w : World} {g : Nat} {t : TypeId} {L : List UInt8} (h : mJ w g t L) (j : Nat) (c : UInt8) : mJ (w.setCell ⟨g, j, none⟩ (.int .u8 (c.toNat : Int))) g t (L.set j c) := by
 obtain ⟨C, m, hh, hm, hC, hc⟩ := h
 refine ⟨C.setIfInBounds j (.int .u8 (c.toNat : Int)), m, ?_, by simpa using hm, by simpa using hC, fun i hi => ?_⟩
 ·simp [World.setCell, Array.getElem?_modify, hh]
 ·have hi' : i < L.length := by simpa using hi
  by_cases e : j = i
  ·subst e
   rw [Array.getElem?_setIfInBounds_self_of_lt (by omega)]
   simp
  ·rw [Array.getElem?_setIfInBounds_ne e, hc i hi']
   simp [List.getElem_set, e]
theorem mJ.made (w : World) (s : ByteArray) (t : TypeId) (n : Nat) (hn : s.size ≤ n) : mJ (w.alloc (.cells (bytesRow s n) t ((bytesRow s n).size, (bytesRow s n).size + 1))) w.heap.size t s.data.toList := by
 have hsz : s.data.size = s.size := rfl
 refine ⟨bytesRow s n, (bytesRow s n).size, heap_alloc_new w _, ?_, Nat.le_refl _, fun j hj => ?_⟩
 ·simp [bytesRow]
 ·rw [bytesRow_at s n j (by simpa using hj)]
  simp
def dS (w : World) (A : Option Addr) (n : Nat) (xs : List Value) : Prop :=
 xs.length = n ∧ ∀ j (h : j < xs.length), ∃ b off, A = some ⟨b, off, none⟩ ∧ b < w.heap.size ∧ w.cell? ⟨b, off + j, none⟩ = some xs[j]
def ak (L : List UInt8) : List Value := L.map fun c => .int .u8 (c.toNat : Int)
def jk (k : IntKind) (l : List Int) : List Value := l.map (Value.int k)
theorem bF (L : List UInt8) : (ak L).length = L.length := by simp [ak]
theorem lg (k : IntKind) (l : List Int) : (jk k l).length = l.length := by simp [jk]
theorem aX (a b : List UInt8) : ak (a ++ b) = ak a ++ ak b := by simp [ak]
theorem lV (a : List UInt8) (k : Nat) : ak (a.drop k) = (ak a).drop k := by simp [ak]
theorem rV (a : List UInt8) (k : Nat) : ak (a.take k) = (ak a).take k := by simp [ak]
theorem gJ (k : IntKind) (a b : List Int) : jk k (a ++ b) = jk k a ++ jk k b := by simp [jk]
theorem vT (L : List UInt8) : ∀ u ∈ ak L, u.oneCell' = true := by
 intro u hu
 simp only [ak, List.mem_map] at hu
 obtain ⟨c, _, rfl⟩ := hu
 rfl
theorem jU : (Tryz.prog.info? 5).map (fun i => (i.zero, i.size, i.bytes)) = some (some (.int .u8 0), 1, 1) := by kernel_rfl
section
variable {w w' : World} {A : Option Addr} {n : Nat} {xs : List Value}
theorem dS.nil (A : Option Addr) : dS w A 0 [] := ⟨rfl, fun j h => absurd h (by simp)⟩
theorem dS.spot (h : dS w A n xs) (hn : 0 < n) : ∃ b off, A = some ⟨b, off, none⟩ ∧ b < w.heap.size ∧ ∀ j (h : j < xs.length), w.cell? ⟨b, off + j, none⟩ = some xs[j] := by
 obtain ⟨b, off, rfl, hb, _⟩ := h.2 0 (by rw [h.1]; exact hn)
 refine ⟨b, off, rfl, hb, fun j hj => ?_⟩
 obtain ⟨b', off', e, _, hc⟩ := h.2 j hj
 injection e with e
 injection e with e1 e2
 subst e1 e2
 exact hc
theorem dS.oN {b off : Nat} (hl : xs.length = n) (hb : b < w.heap.size) (h : ∀ j (h : j < xs.length), w.cell? ⟨b, off + j, none⟩ = some xs[j]) : dS w (some ⟨b, off, none⟩) n xs :=
 ⟨hl, fun j hj => ⟨b, off, rfl, hb, h j hj⟩⟩
theorem dS.below (h : dS w A n xs) (hb : Below w.heap.size w w') : dS w' A n xs :=
 ⟨h.1, fun j hj => by
  obtain ⟨b, off, rfl, hlt, hc⟩ := h.2 j hj
  exact ⟨b, off, rfl, Nat.lt_of_lt_of_le hlt hb.size, (hb.cell (p := ⟨b, off + j, none⟩) hlt).trans hc⟩⟩
theorem dS.cut {b off : Nat} (h : dS w (some ⟨b, off, none⟩) n xs) (k : Nat) (hk : k ≤ n) : dS w (some ⟨b, off + k, none⟩) (n - k) (xs.drop k) :=
 ⟨by rw [List.length_drop, h.1], fun j hj => by
  have hj' : k + j < xs.length := by rw [List.length_drop] at hj; omega
  obtain ⟨b', off', e, hlt, hc⟩ := h.2 (k + j) hj'
  injection e with e
  injection e with e1 e2
  subst e1 e2
  refine ⟨b, off + k, rfl, hlt, ?_⟩
  rw [Nat.add_assoc, hc, List.getElem_drop]⟩
theorem dS.upto {b off : Nat} (h : dS w (some ⟨b, off, none⟩) n xs) (k : Nat) (hk : k ≤ n) : dS w (some ⟨b, off, none⟩) k (xs.take k) :=
 ⟨by rw [List.length_take, h.1]; omega, fun j hj => by
  have hj' : j < xs.length := by rw [List.length_take] at hj; omega
  obtain ⟨b', off', e, hlt, hc⟩ := h.2 j hj'
  refine ⟨b', off', e, hlt, ?_⟩
  rw [hc, List.getElem_take]⟩
theorem dS.byte {L : List UInt8} {b off : Nat} (h : dS w (some ⟨b, off, none⟩) n (ak L)) (j : Nat) (hj : j < L.length) : w.cell? ⟨b, off + j, none⟩ = some (.int .u8 (L[j].toNat : Int)) := by
 obtain ⟨b', off', e, _, hc⟩ := h.2 j (by rw [bF]; exact hj)
 injection e with e
 injection e with e1 e2
 subst e1 e2
 rw [hc]
 simp [ak]
theorem dS.int {k : IntKind} {l : List Int} {b off : Nat} (h : dS w (some ⟨b, off, none⟩) n (jk k l)) (j : Nat) (hj : j < l.length) : w.cell? ⟨b, off + j, none⟩ = some (.int k l[j]) := by
 obtain ⟨b', off', e, _, hc⟩ := h.2 j (by rw [lg]; exact hj)
 injection e with e
 injection e with e1 e2
 subst e1 e2
 rw [hc]
 simp [jk]
theorem bZ {base : Nat} {e : TypeId} {v : Value} (h : w.ownsRow base e 1 v n xs) : ∃ A c, v = .slice A n c ∧ n ≤ c ∧ c ≤ maxLen ∧ dS w A n xs := by
 obtain ⟨hl, h⟩ := h
 rw [Nat.mul_one] at hl
 rcases h with ⟨rfl, rfl⟩ | ⟨g, cap, cur, rfl, hb, hh, hc, hm, hs, ht⟩
 ·exact ⟨none, 0, rfl, Nat.le_refl _, Nat.zero_le _, hl, fun j hj => absurd hj (by omega)⟩
 ·refine ⟨some ⟨g, 0, none⟩, cap, rfl, hc, hm, dS.oN hl (Array.getElem?_eq_some_iff.1 hh).1 fun j hj => ?_⟩
  rw [Nat.zero_add, cell_of_row w g j cur e (0, 0) hh]
  simp only [Nat.mul_one] at ht
  have : (cur.toList.take n)[j]? = some xs[j] := by rw [ht]; exact List.getElem?_eq_getElem hj
  rw [List.getElem?_take, if_pos (by omega)] at this
  simpa using this
theorem aI {base : Nat} {e : TypeId} {size : Nat} {v : Value} (h : w.ownsRow base e size v n xs) (hb : Below w.heap.size w w') : w'.ownsRow base e size v n xs := by
 refine ⟨h.1, ?_⟩
 rcases h.2 with hn | ⟨g, cap, cur, rfl, hg, hh, rest⟩
 ·exact .inl hn
 ·exact .inr ⟨g, cap, cur, rfl, hg, (hb.block g (Array.getElem?_eq_some_iff.1 hh).1).trans hh, rest⟩
theorem aF {base base' : Nat} {e : TypeId} {size : Nat} {v : Value} (h : w.ownsRow base e size v n xs) (hb : base' ≤ base) : w.ownsRow base' e size v n xs := by
 refine ⟨h.1, ?_⟩
 rcases h.2 with hn | ⟨g, cap, cur, rfl, hg, rest⟩
 ·exact .inl hn
 ·exact .inr ⟨g, cap, cur, rfl, Nat.le_trans hb hg, rest⟩
theorem aQ {P : Program} (src dst e : TypeId) (hs : P.underlying src = some (.slice e)) (he : P.underlying e = some (.int .u8)) (hd : P.underlying dst = some .string) (L : List UInt8) (c : Nat) (h : dS w A n (ak L)) :
  (convert src dst (.slice A n c)).run P w = .ok (.string (strOf L)) w := by
 have hl : L.length = n := by rw [← bF]; exact h.1
 cases A with
 | none =>
  have h0 : n = 0 := by
   rcases Nat.eq_zero_or_pos n with h0 | h0
   ·exact h0
   ·obtain ⟨_, _, e, _⟩ := h.spot h0
    cases e
  subst h0
  obtain rfl : L = [] := List.eq_nil_of_length_eq_zero hl
  rw [run_convert_bytes_string w src dst e none 0 c hs he hd]
  rfl
 | some a =>
  subst hl
  exact run_convert_bytes_back w src dst e a c L hs he hd (fun j hj => by
   obtain ⟨b, off, e, _, hc⟩ := h.2 j (by rw [bF]; exact hj)
   injection e with e
   subst e
   have ha : (⟨b, off, none⟩ : Addr).add j = ⟨b, off + j, none⟩ := by
    unfold Addr.add
    split <;> simp_all
   rw [ha, hc]
   simp [ak])
end
section
variable {P : Program} {W w0 : World} {ops : Array Oper} {rest : List Oper} {o : Oper} {a : Act} {Q : Exit → Act → World → Prop}
theorem bC (hgd : o.guard = none) (s x : Operand) (t : TypeId) (ho : o.op = .call { callee := .builtin .append, args := #[s, x], argTypes := #[t, t] })
  (B : Nat) (e : TypeId) (i : TypeInfo) (z : Value) (by_ : Nat) (ht : P.underlying t = some (.slice e)) (hi : P.info? e = some i) (hz : i.zero = some z) (hsize : i.size = 1) (hby : i.bytes = by_) (hzs : z.cells.size = 1)
  (v : Value) (n : Nat) (xs : List Value) (hs : a.eval s = v) (hown : W.ownsRow B e 1 v n xs) (hbel : Below B w0 W) (hB : B ≤ W.heap.size)
  (news : List Value) (m : Nat) (hm : news.length = m) (hx : a.eval x = .slice (some ⟨W.heap.size, 0, none⟩) m m) (h1 : ∀ u ∈ news, u.oneCell' = true)
  (h63 : n + m ≤ maxLen) (hbytes : (n + m) * by_ ≤ 140737488355328)
  (h : ∀ v' w', w'.ownsRow B e 1 v' (n + m) (xs ++ news) → Below B w0 w' → wpList P ops Q rest (a.put o.dst v') w') :
  wpList P ops Q (o :: rest) a (W.alloc (.cells news.toArray e)) := by
 refine wpList_append_own _ hgd s x t ho B e i z 1 by_ ht hi hz hsize hby hzs (by decide) v n xs hs (hown.alloc _) ⟨W.heap.size, 0, none⟩ m m news hx (by omega) (fun j u hj => ?_) h1 h63 hbytes (by simp; omega) (fun v' w' h2 h3 _ => h v' w' h2 ?_)
 ·rw [NI, World.cell?_alloc_mark]
  simpa using hj
 ·exact (hbel.alloc hB _).grown h3 (by simp; omega) (fun g hg => (hown.lt g hg).1)
theorem Tf {K : Act → World → Prop} {E : Prop} (hgd : o.guard = none) (s x : Operand) (t : TypeId) (ho : o.op = .call { callee := .builtin .append, args := #[s, x], argTypes := #[t, t] })
  (B : Nat) (e : TypeId) (i : TypeInfo) (z : Value) (by_ : Nat) (ht : P.underlying t = some (.slice e)) (hi : P.info? e = some i) (hz : i.zero = some z) (hsize : i.size = 1) (hby : i.bytes = by_) (hzs : z.cells.size = 1)
  (v : Value) (n : Nat) (xs : List Value) (hs : a.eval s = v) (hown : W.ownsRow B e 1 v n xs) (hbel : Below B w0 W) (hB : B ≤ W.heap.size)
  (news : List Value) (m : Nat) (hm : news.length = m) (hm0 : 0 < m) (hx : a.eval x = .slice (some ⟨W.heap.size, 0, none⟩) m m) (h1 : ∀ u ∈ news, u.oneCell' = true)
  (h63 : n + m ≤ maxLen) (hbytes : (n + m) * by_ ≤ 140737488355328) {wq : World} (hwq : Below B (W.alloc (.cells news.toArray e)) wq ∧ (∀ b : Nat, wq.heap[b]? = (W.alloc (.cells news.toArray e)).heap[b]?) ∧ wq.heap.size = W.heap.size + 1)
  (h : ∀ v' w', w'.ownsRow B e 1 v' (n + m) (xs ++ news) → Below B w0 w' → K (a.put o.dst v') w') :
  if Region.wanted o (yielded ops a.tmps) = true then Oper.wp P o a wq K Q else E := by
 have hgr : Below (W.alloc (.cells news.toArray e)).heap.size (W.alloc (.cells news.toArray e)) wq := ⟨hwq.1.os, hwq.1.tape, hwq.1.output, hwq.1.size, fun k _ => hwq.2.1 k⟩
 have hown' : wq.ownsRow B e 1 v n xs := aI (hown.alloc _) hgr
 refine step_append_lies (w := wq) hgd s x t ho B e i z 1 by_ ht hi hz hsize hby hzs (by decide) v n xs hs hown' ⟨W.heap.size, 0, none⟩ m m news hx (by omega) (fun j u hj => ?_) h1 hm0 h63 hbytes (by omega) _ rfl (fun g cap w' h2 h3 _ _ => h _ w' h2 ?_)
 ·rw [NI, World.cell?_of_block (w := W.alloc (.cells news.toArray e)) (hwq.2.1 _), World.cell?_alloc_mark]
  simpa using hj
 ·exact ((hbel.alloc hB _).trans hwq.1).grown h3 (by omega) (fun g hg => (hown.lt g hg).1)
end
end Go.Proofs.YtcfgioklgmlclaaGreatDoor.Base
namespace Go.Proofs.YtcfgioklgmlclaaGreatDoor.eX
open Go.RowKit Base
def letter (c : Int) : Bool := decide (65 ≤ c ∧ c ≤ 90 ∨ 97 ≤ c ∧ c ≤ 122)
def digit (c : Int) : Bool := decide (48 ≤ c ∧ c ≤ 57)
def hex (c : Int) : Int := if 48 ≤ c ∧ c ≤ 57 then c - 48 else if 97 ≤ c ∧ c ≤ 102 then c - 87 else if 65 ≤ c ∧ c ≤ 70 then c - 55 else -1
theorem fB (c : Int) (w : World) : Calls Tryz.prog 134 #[.int .u8 c] w fun e w' => e = .returned (.bool (letter c)) ∧ w = w' := by
 go_enter Tryz.func134, Tryz.ntmps134
 go_wp2
 all_goals
  go_ret
  exact ⟨aB (by unfold letter; rw [Bool.eq_iff_iff]; simp; omega), rfl⟩
theorem ji (c : Int) (w : World) : Calls Tryz.prog 135 #[.int .u8 c] w fun e w' => e = .returned (.bool (digit c)) ∧ w = w' := by
 go_enter Tryz.func135, Tryz.ntmps135
 go_wp2
 all_goals
  go_ret
  exact ⟨aB (by unfold digit; rw [Bool.eq_iff_iff]; simp; omega), rfl⟩
theorem kL (c : Int) (w : World) (h0 : 0 ≤ c) (h1 : c ≤ 255) : Calls Tryz.prog 123 #[.int .u8 c] w fun e w' => e = .returned (.int .i64 (hex c)) ∧ w = w' := by
 go_enter Tryz.func123, Tryz.ntmps123
 go_wp2
 all_goals
  go_ret
  exact ⟨jW (by unfold hex; (repeat' split) <;> omega), rfl⟩
end Go.Proofs.YtcfgioklgmlclaaGreatDoor.eX
namespace Go.Proofs.YtcfgioklgmlclaaGreatDoor.nO
open Go.RowKit Base eX
theorem Bc (c : UInt8) : -1 ≤ hex c.toNat ∧ hex c.toNat ≤ 15 := by
 have H : ∀ n : Fin 256, -1 ≤ hex (n.val : Int) ∧ hex (n.val : Int) ≤ 15 := by decide +kernel
 exact H ⟨c.toNat, c.toNat_lt⟩
def ny (b : Nat) (c : UInt8) : Bool := decide (0 ≤ hex c.toNat) && decide (hex c.toNat < b)
def gW (b : Nat) (L : List UInt8) : Bool := L.all (ny b)
def dv (c : UInt8) : Nat := (hex c.toNat).toNat
def val (b : Nat) (L : List UInt8) : Nat := L.foldl (fun n c => n * b + dv c) 0
theorem jK (b : Nat) (L : List UInt8) (c : UInt8) : val b (L ++ [c]) = val b L * b + dv c := by simp [val]
def BU : List UInt8 → Nat × List UInt8
 | [] => (10, [])
 | [a] => (10, [a])
 | a :: x :: r => if a = 48 then (if x = 120 ∨ x = 88 then (16, r) else (8, x :: r)) else (10, a :: x :: r)
def num (L : List UInt8) : Option Nat := if L = [] then none else if gW (BU L).1 (BU L).2 = true then some (val (BU L).1 (BU L).2) else none
def sat (n : Nat) : Nat := min n 4294967296
theorem yX (v b d : Nat) (hb : 1 ≤ b) : min (sat v * b + d) 4294967296 = sat (v * b + d) := by
 unfold sat
 by_cases h : v ≤ 4294967296
 ·rw [Nat.min_eq_left h]
 ·rw [Nat.min_eq_right (show 4294967296 ≤ v by omega)]
  have h1 : 4294967296 ≤ 4294967296 * b := Nat.le_mul_of_pos_right _ hb
  have h2 : 4294967296 * b ≤ v * b := Nat.mul_le_mul_right _ (by omega)
  omega
theorem La (c : UInt8) : dv c ≤ 15 := by have := Bc c; unfold dv; omega
def dN : List UInt8 → List (List UInt8)
 | [] => [[]]
 | c :: L => if c = 46 then [] :: dN L else match dN L with
  | [] => [[c]]
  | x :: r => (c :: x) :: r
theorem wQ : ∀ L : List UInt8, dN L ≠ []
 | [] => by simp [dN]
 | c :: L => by
  unfold dN
  split
  ·simp
  ·split <;> simp
def oO (L : List UInt8) : List UInt8 := Lib.trimSuffix L [46]
theorem Ry (L : List UInt8) : (dN L).length ≤ L.length + 1 := by
 induction L with
 | nil => simp [dN]
 | cons c L ih =>
  unfold dN
  split
  ·simp; omega
  ·split
   ·simp
   ·rename_i h; rw [h] at ih; simp at ih ⊢; omega
theorem qG : ∀ (L : List UInt8), ∀ x ∈ dN L, x.length ≤ L.length
 | [], x, h => by simp [dN] at h; subst h; simp
 | c :: L, x, h => by
  unfold dN at h
  split at h
  ·rcases List.mem_cons.1 h with rfl | h
   ·simp
   ·have := qG L x h; simp; omega
  ·split at h
   ·simp at h; subst h; simp
   ·rename_i y r e
    rcases List.mem_cons.1 h with rfl | h
    ·have := qG L y (by rw [e]; simp); simp; omega
    ·have := qG L x (by rw [e]; simp [h]); simp; omega
theorem PD (L : List UInt8) : (oO L).length ≤ L.length := by
 unfold oO Lib.trimSuffix
 split
 ·rw [List.length_take]; omega
 ·exact Nat.le_refl _
def uz : Nat → Nat → List (List UInt8) → Option Nat
 | _, acc, [] => some acc
 | most, acc, [p] => match num p with
  | some v => if v < most then some (acc + v) else none
  | none => none
 | most, acc, p :: q :: r => match num p with
  | some v => if v ≤ 255 then uz (most / 256) (acc + v * (most / 256)) (q :: r) else none
  | none => none
def OM (L : List UInt8) : Option Nat := if (dN (oO L)).length ≤ 4 then uz 4294967296 0 (dN (oO L)) else none
def lst (L : List UInt8) : List UInt8 := ((dN L).getLast?).getD []
def ends (L : List UInt8) : Bool := (num (lst (oO L))).isSome || (decide (lst (oO L) ≠ []) && gW 10 (lst (oO L)))
theorem KY (c : UInt8) : eX.digit c.toNat = ny 10 c := by
 have H : ∀ n : Fin 256, eX.digit (n.val : Int) = (decide (0 ≤ hex (n.val : Int)) && decide (hex (n.val : Int) < (10 : Nat))) := by decide +kernel
 exact H ⟨c.toNat, c.toNat_lt⟩
theorem YG (s : ByteArray) : s.data.toList.drop (Lib.lastIndexByte s 46 + 1).toNat = lst s.data.toList ∧ -1 ≤ Lib.lastIndexByte s 46 ∧ Lib.lastIndexByte s 46 < s.size := by
 have hb : ∀ j (h : j < s.data.toList.length), s.data[j]! = s.data.toList[j] := fun j h => by
  rw [getElem!_pos s.data j (by simpa using h)]
  simp
 have DF : ∀ M : List UInt8, (∀ c ∈ M, c ≠ 46) → dN M = [M] := by
  intro M
  induction M with
  | nil => intro _; rfl
  | cons c M ih =>
   intro h
   rw [dN, if_neg (h c (by simp)), ih fun d hd => h d (by simp [hd])]
 have behind : ∀ (A M : List UInt8), (∀ c ∈ M, c ≠ 46) → lst (A ++ 46 :: M) = M := by
  intro A M hM
  induction A with
  | nil =>
   unfold lst
   rw [List.nil_append, dN, if_pos rfl, DF M hM]
   rfl
  | cons c A ih =>
   have hne := wQ (A ++ 46 :: M)
   unfold lst at ih ⊢
   rw [List.cons_append, dN]
   split
   ·rw [List.getLast?_cons_of_ne_nil hne]; exact ih
   ·cases h : dN (A ++ 46 :: M) with
    | nil => exact absurd h hne
    | cons x r =>
     rw [h] at ih
     cases r with
     | nil =>
      exfalso
      have : 2 ≤ (dN (A ++ 46 :: M)).length := by
       clear ih h hne
       induction A with
       | nil => rw [List.nil_append, dN, if_pos rfl, DF M hM]; simp
       | cons c A ih => 
        rw [List.cons_append, dN]
        split
        ·simp; omega
        ·split
         ·rename_i e; rw [e] at ih; simp at ih
         ·rename_i e; rw [e] at ih; simpa using ih
      rw [h] at this
      simp at this
     | cons y r' => simpa using ih
 have hsz : s.data.toList.length = s.size := Array.length_toList
 rcases Lib.lastIndexByte_spec s 46 with ⟨h1, h2⟩ | ⟨i, hi, h1, h2, h3⟩
 ·rw [h1]
  refine ⟨?_, by omega, by omega⟩
  show s.data.toList.drop 0 = _
  rw [List.drop_zero]
  unfold lst
  rw [DF]
  ·rfl
  ·intro c hc
   obtain ⟨j, hj, rfl⟩ := List.getElem_of_mem hc
   have := h2 j (by omega)
   rw [hb j hj] at this
   intro e
   rw [e] at this
   exact this rfl
 ·rw [h1]
  refine ⟨?_, by omega, by omega⟩
  have hil : i < s.data.toList.length := by omega
  have e46 : s.data.toList[i] = 46 := by
   rw [hb i hil] at h2
   exact UInt8.toNat_inj.1 (by show _ = 46; omega)
  have e : s.data.toList = s.data.toList.take i ++ 46 :: s.data.toList.drop (i + 1) := by
   conv => lhs; rw [← List.take_append_drop i s.data.toList, List.drop_eq_getElem_cons hil, e46]
  have hM : ∀ c ∈ s.data.toList.drop (i + 1), c ≠ 46 := by
   intro c hc
   obtain ⟨j, hj, rfl⟩ := List.getElem_of_mem hc
   rw [List.length_drop] at hj
   rw [List.getElem_drop]
   have := h3 (i + 1 + j) (by omega) (by omega)
   rw [hb _ (by omega)] at this
   intro e
   rw [e] at this
   exact this rfl
  have ht : ((i : Int) + 1).toNat = i + 1 := by omega
  rw [ht]
  conv => rhs; rw [e]
  rw [behind _ _ hM]
end Go.Proofs.YtcfgioklgmlclaaGreatDoor.nO
namespace Go.Proofs.YtcfgioklgmlclaaGreatDoor.aP
open Go.RowKit Base
theorem vg (w : World) (L : List UInt8) (t : TypeId) (mk : Nat × Nat) : dS (w.alloc (.cells (ak L).toArray t mk)) (some ⟨w.heap.size, 0, none⟩) L.length (ak L) :=
 dS.oN (bF L) (by simp) (fun j hj => by
  rw [Nat.zero_add, World.cell?_alloc_mark]
  simp)
theorem iy (s : ByteArray) (cap : Nat) (w : World) (t : TypeId) : dS (w.drew.alloc (.cells (bytesRow s cap) t ((bytesRow s cap).size, (bytesRow s cap).size + 1))) (some ⟨w.heap.size, 0, none⟩) s.size (ak s.data.toList) :=
 dS.oN (by rw [bF]; exact Array.length_toList) (by simp) (fun j hj => by
  have hj' : j < s.data.size := by rw [bF, Array.length_toList] at hj; exact hj
  rw [Nat.zero_add]
  have e : w.heap.size = w.drew.heap.size := rfl
  rw [e, World.cell?_alloc_mark, bytesRow_at s cap j hj']
  simp [ak])
theorem gK {P : Program} (X Y : List UInt8) (w : World) (h : X.length + Y.length ≤ 9223372036854775807) : (Op.stringOp .add (strOf X) (strOf Y)).run P w = .ok (.string (strOf (X ++ Y))) w := by
 rw [run_string_add_sum w _ _ (by rw [ah, ah]; exact h)]
 congr 2
theorem bf {P : Program} (a b : ByteArray) (w : World) (h : a.size + b.size ≤ 9223372036854775807) : (Op.stringOp .add a b).run P w = .ok (.string (strOf (a.data.toList ++ b.data.toList))) w := by
 rw [run_string_add_sum w _ _ h]
 congr 3
theorem bel {w0 w w' : World} (h : Below w0.heap.size w0 w) (hb : Below w.heap.size w w') : Below w0.heap.size w0 w' := h.trans (hb.mono h.size)
theorem qN {w : World} {A : Option Addr} {n : Nat} {xs : List Value} (h : dS w A n xs) : dS w.drew A n xs := h
theorem CV {w0 w w' : World} (h : Below w0.heap.size w0 w) (hb : Below w.drew.heap.size w.drew w') : Below w0.heap.size w0 w' := h.drew.trans (hb.mono h.size)
end Go.Proofs.YtcfgioklgmlclaaGreatDoor.aP
namespace Go.Proofs.YtcfgioklgmlclaaGreatDoor.uf
open Go.RowKit Base aP
section
variable {P : Program} {W w0 : World} {ops : Array Oper} {rest : List Oper} {o : Oper} {a : Act} {Q : Exit → Act → World → Prop}
theorem SG (base : Nat) (t ty e : TypeId) (i : TypeInfo) (size c : Nat) (ht : P.underlying t = some (.slice e)) (hi : P.info? e = some i) (v : Value) (n : Nat) (xs : List Value) (hown : W.ownsRow base e size v n xs) :
  (Builtin.append_ #[t, t] ty #[v, .slice none 0 c]).run P W = .ok v W := by
 rcases hown.2 with ⟨rfl, rfl⟩ | ⟨g, cap, cur, rfl, _, _, hnc, _⟩
 ·simp [Builtin.append_, run_underlying ht, sizeOf, typeInfo, hi, Builtin.lenOf, Builtin.firstCells]
 ·simp [Builtin.append_, run_underlying ht, sizeOf, typeInfo, hi, Builtin.lenOf, Builtin.firstCells, hnc, storeCells]
theorem nK (hgd : o.guard = none) (s x : Operand) (t : TypeId) (ho : o.op = .call { callee := .builtin .append, args := #[s, x], argTypes := #[t, t] })
  (B : Nat) (e : TypeId) (i : TypeInfo) (z : Value) (by_ : Nat) (ht : P.underlying t = some (.slice e)) (hi : P.info? e = some i) (hz : i.zero = some z) (hsize : i.size = 1) (hby : i.bytes = by_) (hzs : z.cells.size = 1)
  (v : Value) (n : Nat) (xs : List Value) (hs : a.eval s = v) (hown : W.ownsRow B e 1 v n xs) (hbel : Below B w0 W) (hB : B ≤ W.heap.size)
  (A : Option Addr) (m c : Nat) (news : List Value) (hx : a.eval x = .slice A m c) (hr : dS W A m news) (h1 : ∀ u ∈ news, u.oneCell' = true)
  (h63 : n + m ≤ maxLen) (hbytes : (n + m) * by_ ≤ 140737488355328)
  (h : ∀ v' w', w'.ownsRow B e 1 v' (n + m) (xs ++ news) → Below B w0 w' → wpList P ops Q rest (a.put o.dst v') w') :
  wpList P ops Q (o :: rest) a W := by
 cases A with
 | none =>
  have hm : m = 0 := by
   rcases Nat.eq_zero_or_pos m with h0 | h0
   ·exact h0
   ·obtain ⟨_, _, e, _⟩ := hr.spot h0
    cases e
  subst hm
  have hn : news = [] := List.eq_nil_of_length_eq_zero hr.1
  subst hn
  have hh := h v W (by simpa using hown) hbel
  refine wpList_plain hgd fun K hK => ?_
  have hrun := SG (P := P) (W := W) B t o.type e i 1 c ht hi v n xs hown
  unfold Oper.wp
  simp [execOp, ho, resolve, invoke, builtin, hs, hx, hrun, Result.andThen]
  exact hK _ _ hh
 | some ad =>
  refine wpList_append_own _ hgd s x t ho B e i z 1 by_ ht hi hz hsize hby hzs (by decide) v n xs hs hown ad m c news hx (by rw [hr.1, Nat.mul_one]) (fun j u hj => ?_) h1 h63 hbytes hB (fun v' w' h2 h3 _ => h v' w' h2 (hbel.grown h3 hB (fun g hg => (hown.lt g hg).1)))
  obtain ⟨hj', e⟩ := List.getElem?_eq_some_iff.1 hj
  obtain ⟨b, off, e1, _, hc⟩ := hr.2 j hj'
  injection e1 with e1
  subst e1
  have ha : (⟨b, off, none⟩ : Addr).add j = ⟨b, off + j, none⟩ := by
   unfold Addr.add
   split <;> simp_all
  rw [ha, hc, e]
end
end Go.Proofs.YtcfgioklgmlclaaGreatDoor.uf
namespace Go.Proofs.YtcfgioklgmlclaaGreatDoor.fZ
open Go.RowKit Base
structure Keep where
 says : Value → World → Prop
 stays : ∀ v w w', Below w.heap.size w w' → says v w → says v w'
def is (v : Value) : Keep := ⟨fun u _ => u = v, fun _ _ _ _ h => h⟩
def any : Keep := ⟨fun _ _ => True, fun _ _ _ _ h => h⟩
def row (n : Nat) (xs : List Value) : Keep := ⟨fun u w => ∃ A c, u = .slice A n c ∧ n ≤ c ∧ c ≤ maxLen ∧ dS w A n xs, fun _ _ _ hb ⟨A, c, h1, h2, h3, h4⟩ => ⟨A, c, h1, h2, h3, h4.below hb⟩⟩
def pick : List Keep → Nat → Keep
 | [], _ => any
 | r :: _, 0 => r
 | _ :: rs, n + 1 => pick rs n
def upd (t : Nat → Value) (i : Nat) (v : Value) (k : Nat) : Value := if k = i then v else t k
def filled (t : Nat → Value) : List Oper → Nat → Act → Act
 | [], _, a => a
 | o :: os, k, a => filled t os (k + 1) (a.put o.dst (t k))
def Have (R : List Keep) (t : Nat → Value) (w : World) : List Nat → Prop
 | [] => True
 | k :: ks => (pick R k).says (t k) w ∧ Have R t w ks
section
variable {P : Program} {md : Region.Mode} {ops : Array Oper} {Q : Exit → Act → World → Prop}
def Step (P : Program) (ops : Array Oper) (Q : Exit → Act → World → Prop) (A : (Nat → Value) → Act) (w0 : World) (R : List Keep) (i : Nat) (o : Oper) (ns : List Nat) : Prop :=
 ∀ t w, Below w0.heap.size w0 w → Have R t w ns → ∀ K : Act → World → Prop, (∀ v w', Below w.heap.size w w' → (pick R i).says v w' → K (A (upd t i v)) w') →
  if Region.wanted o (yielded ops (A t).tmps) = true then Oper.wp P o (A t) w K Q else K ((A t).put o.dst undef) w
def Steps (P : Program) (ops : Array Oper) (Q : Exit → Act → World → Prop) (A : (Nat → Value) → Act) (w0 : World) (R : List Keep) : Nat → List Oper → List (List Nat) → Prop
 | _, [], _ => True
 | k, o :: os, ns => Step P ops Q A w0 R k o (ns.headD []) ∧ Steps P ops Q A w0 R (k + 1) os ns.tail
theorem Steps.at {A : (Nat → Value) → Act} {w0 : World} {R : List Keep} : ∀ (os : List Oper) (k : Nat) (ns : List (List Nat)), Steps P ops Q A w0 R k os ns → ∀ j o, os[j]? = some o → Step P ops Q A w0 R (k + j) o (ns.getD j [])
 | [], _, _, _, j, o, h => by simp at h
 | p :: os, k, ns, h, 0, o, e => by
  simp at e
  subst e
  cases ns <;> exact h.1
 | p :: os, k, ns, h, j + 1, o, e => by
  have := Steps.at os (k + 1) ns.tail h.2 j o (by simpa using e)
  rw [Nat.add_assoc, Nat.add_comm 1 j] at this
  cases ns <;> simpa using this
def Bo (md : Region.Mode) (ops : Array Oper) (ns : List (List Nat)) : Bool :=
 (List.range ops.size).all fun i => match ops[i]? with
  | none => false
  | some o => (o.after.all fun e => !Region.binds md e || decide (e.on < i)) && (ns.getD i []).all fun k => o.after.any fun e => Region.binds md e && (e.on == k || (ns.getD e.on []).contains k)
theorem wE {ns : List (List Nat)} (h : Bo md ops ns = true) {i : Nat} {o : Oper} (ho : ops[i]? = some o) : (∀ e ∈ o.after, Region.binds md e = true → e.on < i) ∧ ∀ k ∈ ns.getD i [], ∃ e ∈ o.after, Region.binds md e = true ∧ (e.on = k ∨ k ∈ ns.getD e.on []) := by
 have h1 := List.all_eq_true.1 h i (by simp only [List.mem_range]; exact (Array.getElem?_eq_some_iff.1 ho).1)
 simp only [ho, Bool.and_eq_true] at h1
 obtain ⟨h1, h2⟩ := h1
 constructor
 ·intro e he hb
  have := Array.all_eq_true_iff_forall_mem.1 h1 e he
  simpa [hb] using this
 ·intro k hk
  have := List.all_eq_true.1 h2 k hk
  obtain ⟨e, he, h3⟩ := Array.any_eq_true'.1 this
  simp only [Bool.and_eq_true, Bool.or_eq_true, beq_iff_eq, List.contains_iff_mem] at h3
  exact ⟨e, he, h3.1, h3.2⟩
def XW (ops : Array Oper) (listed : Array Bool) : Nat := (List.range ops.size).countP fun i => !listed.getD i true
theorem Dv {l : Array Bool} {i : Nat} (h : i < l.size) (d d' : Bool) : l.getD i d = l.getD i d' := by simp [Array.getD, h]
structure Inv (ops : Array Oper) (w0 : World) (R : List Keep) (ns : List (List Nat)) (listed : Array Bool) (t : Nat → Value) (w : World) : Prop where
 below : Below w0.heap.size w0 w
 size : listed.size = ops.size
 held : ∀ i, listed.getD i false = true → (pick R i).says (t i) w ∧ ∀ k ∈ ns.getD i [], listed.getD k false = true
theorem qh {R : List Keep} {t : Nat → Value} {w : World} : ∀ ks : List Nat, (∀ k ∈ ks, (pick R k).says (t k) w) → Have R t w ks
 | [], _ => trivial
 | k :: ks, h => ⟨h k (by simp), qh ks fun j hj => h j (by simp [hj])⟩
theorem aS {R : List Keep} {t : Nat → Value} {w : World} {n : Nat} (h : Have R t w (List.range n)) (k : Nat) (hk : k < n) : (pick R k).says (t k) w := by
 have H : ∀ ks : List Nat, Have R t w ks → ∀ k ∈ ks, (pick R k).says (t k) w := by
  intro ks
  induction ks with
  | nil => intro _ k hk; cases hk
  | cons x xs ih =>
   intro h k hk
   rcases List.mem_cons.1 hk with rfl | hk
   ·exact h.1
   ·exact ih h.2 k hk
 exact H _ h k (by simpa using hk)
theorem vP {ns : List (List Nat)} (hB : Bo md ops ns = true) {listed : Array Bool} (hs : listed.size = ops.size) (hr : Region.ready md ops listed = []) : ∀ n i, i < n → i < ops.size → listed.getD i false = true := by
 intro n
 induction n with
 | zero => intro i h; omega
 | succ n ih =>
  intro i hi hlt
  by_cases hn : listed.getD i false = true
  ·exact hn
  ·exfalso
   have ho : ops[i]? = some ops[i] := Array.getElem?_eq_getElem hlt
   have : i ∈ Region.ready md ops listed := mem_ready.2 ⟨by rw [Dv (by omega) true false]; simpa using hn, _, ho, fun e he hb => by
    have := (wE hB ho).1 e he hb
    exact ih e.on (by omega) (by omega)⟩
   rw [hr] at this
   cases this
theorem countP_set {listed : Array Bool} {i : Nat} (hs : listed.size = ops.size) (hi : i < ops.size) (hu : listed.getD i true = false) : XW ops (listed.setIfInBounds i true) < XW ops listed := by
 unfold XW
 have key : ∀ l : List Nat, l.countP (fun j => !(listed.setIfInBounds i true).getD j true) ≤ l.countP (fun j => !listed.getD j true) ∧ (i ∈ l → l.countP (fun j => !(listed.setIfInBounds i true).getD j true) < l.countP (fun j => !listed.getD j true)) := by
  intro l
  induction l with
  | nil => simp
  | cons x l ih =>
   have hx : x = i ∨ x ≠ i := Decidable.em _
   rcases hx with rfl | hx
   ·have h1 : (listed.setIfInBounds x true).getD x true = true := by simp [Array.getD]
    rw [List.countP_cons, List.countP_cons, h1, hu]
    simp only [Bool.not_true, Bool.not_false, Bool.false_eq_true, if_true, if_false]
    have := ih.1
    exact ⟨by omega, fun _ => by omega⟩
   ·have h1 : (listed.setIfInBounds i true).getD x true = listed.getD x true := getD_set_ne true (Ne.symm hx)
    rw [List.countP_cons, List.countP_cons, h1]
    refine ⟨by omega, fun h => ?_⟩
    rcases List.mem_cons.1 h with h | h
    ·exact absurd h.symm hx
    ·have := ih.2 h
     omega
 exact (key _).2 (by simpa using hi)
theorem aac {A : (Nat → Value) → Act} {w0 : World} {R : List Keep} {ns : List (List Nat)} (hB : Bo md ops ns = true) (steps : Steps P ops Q A w0 R 0 ops.toList ns)
  (fin : ∀ t w, Below w0.heap.size w0 w → Have R t w (List.range ops.size) → Q .normal (A t) w) :
  ∀ (fuel : Nat) (listed : Array Bool) (t : Nat → Value) (w : World), Inv ops w0 R ns listed t w → XW ops listed ≤ fuel → wpAny P md ops Q fuel listed (A t) w := by
 have done : ∀ (listed : Array Bool) (t : Nat → Value) (w : World), Inv ops w0 R ns listed t w → Region.ready md ops listed = [] → Q .normal (A t) w := fun listed t w h hr =>
  fin t w h.below (qh _ fun k hk => (h.held k (vP hB h.size hr (k + 1) k (by omega) (by simpa using hk))).1)
 intro fuel
 induction fuel with
 | zero =>
  intro listed t w h hu
  have hr : Region.ready md ops listed = [] := by
   cases e : Region.ready md ops listed with
   | nil => rfl
   | cons i l =>
    have hi : i ∈ Region.ready md ops listed := by rw [e]; simp
    obtain ⟨h0, o, ho, _⟩ := mem_ready.1 hi
    have := countP_set h.size (Array.getElem?_eq_some_iff.1 ho).1 h0
    omega
  exact ⟨hr, done listed t w h hr⟩
 | succ fuel ih =>
  intro listed t w h hu
  refine ⟨done listed t w h, fun i hi => ?_⟩
  obtain ⟨h0, o, ho, hall⟩ := mem_ready.1 hi
  have hlt := (Array.getElem?_eq_some_iff.1 ho).1
  have Ac : ∀ k ∈ ns.getD i [], listed.getD k false = true := fun k hk => by
   obtain ⟨e, he, hb, hk⟩ := (wE hB ho).2 k hk
   rcases hk with rfl | hk
   ·exact hall e he hb
   ·exact (h.held e.on (hall e he hb)).2 k hk
  have hst := Steps.at ops.toList 0 ns steps i o (by simpa using ho)
  rw [Nat.zero_add] at hst
  refine wpOp_step ho fun K hK => hst t w h.below (qh _ fun k hk => (h.held k (Ac k hk)).1) K fun v w' hb hv => hK _ _ (ih _ _ _ ⟨h.below.trans (hb.mono h.below.size), by simpa using h.size, fun j hj => ?_⟩ ?_)
  ·by_cases hji : j = i
   ·subst hji
    refine ⟨by simpa [upd] using hv, fun k hk => getD_set_true (Ac k hk)⟩
   ·rw [getD_set_ne false (Ne.symm hji)] at hj
    have := h.held j hj
    refine ⟨by simp only [upd, if_neg hji]; exact (pick R j).stays _ _ _ hb this.1, fun k hk => getD_set_true (this.2 k hk)⟩
  ·have := countP_set h.size hlt h0
   omega
def now (ops : List Oper) (a : Act) (k : Nat) : Value := match (ops[k]?).bind (·.dst) with | some d => a.tmps.getD d undef | none => undef
theorem put_now (a : Act) (d : Option Tmp) (v : Value) (h : ∀ x, d = some x → v = a.tmps.getD x undef) : a.put d v = a := by
 cases d with
 | none => rfl
 | some x =>
  have := h x rfl
  subst this
  unfold Act.put
  simp only
  congr 1
  apply Array.ext_getElem?
  intro i
  by_cases hi : x = i
  ·subst hi
   by_cases hx : x < a.tmps.size
   ·simp [hx]
   ·simp [hx]
  ·rw [Array.getElem?_setIfInBounds_ne hi]
theorem wo (a : Act) (all : List Oper) : ∀ (os : List Oper) (k : Nat), (∀ j, os[j]? = all[k + j]?) → filled (now all a) os k a = a
 | [], _, _ => rfl
 | o :: os, k, h => by
  have h0 : all[k]? = some o := by simpa using (h 0).symm
  have e : a.put o.dst (now all a k) = a := put_now a _ _ fun x hx => by unfold now; rw [h0]; simp [hx]
  show filled (now all a) os (k + 1) (a.put o.dst (now all a k)) = a
  rw [e]
  exact wo a all os (k + 1) fun j => by have := h (j + 1); simpa [Nat.add_assoc, Nat.add_comm 1 j] using this
theorem dY {id : Nat} {a : Act} {w : World} {l : List Oper} (hm : P.follows .mixedOrders = true) (R : List Keep) (ns : List (List Nat)) (hB : Bo .any l.toArray ns = true)
  (steps : Steps P l.toArray Q (fun t => filled t l 0 a) w R 0 l ns)
  (fin : ∀ t w', Below w.heap.size w w' → Have R t w' (List.range l.length) → Q .normal (filled t l 0 a) w') : (Code.region id l.toArray true).wp P Q a w := by
 refine wp_region_any hm ?_
 have h := aac (P := P) (Q := Q) (md := .any) (ops := l.toArray) (A := fun t => filled t l 0 a) (w0 := w) (R := R) (ns := ns) hB (by simpa using steps) (by simpa using fin) l.length (Array.replicate l.length false) (now l a) { w with drawn := w.drawn + 1 }
  ⟨⟨rfl, rfl, rfl, Nat.le_refl _, fun _ _ => rfl⟩, by simp, fun i hi => by
   by_cases h : i < l.length <;> simp [Array.getD, h] at hi⟩ (by unfold XW; refine Nat.le_trans List.countP_le_length ?_; simp)
 have e := wo a l l 0 (fun j => by simp)
 have h' : wpAny P .any l.toArray Q l.length (Array.replicate l.length false) (filled (now l a) l 0 a) { w with drawn := w.drawn + 1 } := h
 rw [e] at h'
 simpa using h'
end
end Go.Proofs.YtcfgioklgmlclaaGreatDoor.fZ
namespace Go.Proofs.YtcfgioklgmlclaaGreatDoor.fZ
open Go.RowKit Base
theorem ext_take (s : ByteArray) (k : Nat) : s.extract 0 k = strOf (s.data.toList.take k) := by
 apply ByteArray.ext
 apply Array.ext'
 rw [ByteArray.data_extract]
 simp [strOf, Array.toList_extract, List.extract_eq_take_drop]
theorem ext_drop (s : ByteArray) (k n : Nat) (h : n = s.size) : s.extract k n = strOf (s.data.toList.drop k) := by
 subst h
 apply ByteArray.ext
 apply Array.ext'
 rw [ByteArray.data_extract]
 simp only [strOf, Array.toList_extract, List.extract_eq_take_drop]
 rw [List.take_of_length_le]
 rw [List.length_drop, Array.length_toList]
 exact Nat.le_refl _
theorem iU {e : Int} (h0 : -9223372036854775808 ≤ e) (h1 : e ≤ 9223372036854775807) : Value.int .i64 (IntKind.i64.wrap e) = .int .i64 e := by
 rw [IntKind.wrap_i64]
 congr 1
 omega
section
variable {P : Program} {md : Region.Mode} {ops : Array Oper} {Q : Exit → Act → World → Prop}
theorem zY {listed : Array Bool} {i : Nat} (hs : listed.size = ops.size) (hi : i < ops.size) (hu : listed.getD i true = false) : XW ops (listed.setIfInBounds i true) + 1 = XW ops listed := by
 unfold XW
 have key : ∀ l : List Nat, l.Nodup → (i ∉ l → l.countP (fun j => !(listed.setIfInBounds i true).getD j true) = l.countP (fun j => !listed.getD j true)) ∧ (i ∈ l → l.countP (fun j => !(listed.setIfInBounds i true).getD j true) + 1 = l.countP (fun j => !listed.getD j true)) := by
  intro l
  induction l with
  | nil => simp
  | cons x l ih =>
   intro hnd
   rw [List.nodup_cons] at hnd
   have hx : x = i ∨ x ≠ i := Decidable.em _
   rcases hx with rfl | hx
   ·have h1 : (listed.setIfInBounds x true).getD x true = true := by simp [Array.getD]
    rw [List.countP_cons, List.countP_cons, h1, hu]
    simp only [Bool.not_true, Bool.not_false, Bool.false_eq_true, if_true, if_false]
    have := (ih hnd.2).1 hnd.1
    exact ⟨fun h => absurd (List.mem_cons_self) h, fun _ => by omega⟩
   ·have h1 : (listed.setIfInBounds i true).getD x true = listed.getD x true := getD_set_ne true (Ne.symm hx)
    rw [List.countP_cons, List.countP_cons, h1]
    refine ⟨fun h => ?_, fun h => ?_⟩
    ·have := (ih hnd.2).1 (fun hm => h (List.mem_cons_of_mem _ hm))
     omega
    ·rcases List.mem_cons.1 h with h | h
     ·exact absurd h.symm hx
     ·have := (ih hnd.2).2 h
      omega
 exact (key _ List.nodup_range).2 (by simpa using hi)
def bH (t : Nat → Value) : Nat → List Oper → Nat → Act → Act
 | 0, _, _, a => a
 | _ + 1, [], _, a => a
 | n + 1, o :: os, k, a => bH t n os (k + 1) (a.put o.dst (t k))
theorem Dt (t : Nat → Value) : ∀ (n : Nat) (os : List Oper) (k : Nat) (a : Act), bH t n os k a = filled t (os.take n) k a
 | 0, _, _, _ => rfl
 | _ + 1, [], _, _ => rfl
 | n + 1, o :: os, k, a => by
  show bH t n os (k + 1) (a.put o.dst (t k)) = _
  rw [Dt t n os]
  rfl
def adY (md : Region.Mode) (ops : Array Oper) (ns : List (List Nat)) (n : Nat) : Bool :=
 decide (n < ops.size) && Bo md ops ns && ((List.range n).all fun k => (ns.getD n []).contains k) &&
 ((List.range ops.size).all fun i => decide (i ≤ n) || match ops[i]? with
  | none => false
  | some o => o.after.any fun e => Region.binds md e && decide (n ≤ e.on)) &&
 Region.seqB md ops (ops.size - n) n (List.replicate n true ++ List.replicate (ops.size - n) false).toArray
structure InvT (ops : Array Oper) (w0 : World) (R : List Keep) (ns : List (List Nat)) (n : Nat) (listed : Array Bool) (t : Nat → Value) (w : World) : Prop extends Inv ops w0 R ns listed t w where
 tail : ∀ i, n ≤ i → listed.getD i false = false
theorem JQ {A : (Nat → Value) → Act} {w0 : World} {R : List Keep} {ns : List (List Nat)} {n : Nat} (hB : adY md ops ns n = true) (steps : Steps P ops Q A w0 R 0 (ops.toList.take n) ns)
  (fin : ∀ t w, Below w0.heap.size w0 w → Have R t w (List.range n) → wpList P ops Q (ops.toList.drop n) (A t) w) :
  ∀ (fuel : Nat) (listed : Array Bool) (t : Nat → Value) (w : World), InvT ops w0 R ns n listed t w → XW ops listed = fuel → wpAny P md ops Q fuel listed (A t) w := by
 unfold adY at hB
 simp only [Bool.and_eq_true, decide_eq_true_eq] at hB
 obtain ⟨⟨⟨⟨hn, hN⟩, hall⟩, hch⟩, hseq⟩ := hB
 -- all of the head is listed: the tail, in its order
 have done : ∀ (fuel : Nat) (listed : Array Bool) (t : Nat → Value) (w : World), InvT ops w0 R ns n listed t w → XW ops listed = fuel → (∀ i, i < n → listed.getD i false = true) → wpAny P md ops Q fuel listed (A t) w := by
  intro fuel listed t w h hu hl
  have he : listed = (List.replicate n true ++ List.replicate (ops.size - n) false).toArray := by
   apply Array.ext
   ·simp [h.size]; omega
   ·intro i h1 h2
    have hsz := h.size
    simp only [List.getElem_toArray]
    by_cases hi : i < n
    ·have := hl i hi
     simp [Array.getD, h1] at this
     rw [List.getElem_append_left (by simpa using hi)]
     simpa using this
    ·have := h.tail i (by omega)
     simp [Array.getD, h1] at this
     rw [List.getElem_append_right (by simpa using hi)]
     simpa using this
  have hf : fuel = (ops.toList.drop n).length := by
   rw [← hu]
   unfold XW
   have e : ops.size = n + (ops.size - n) := by omega
   rw [e, List.range_add, List.countP_append]
   have z1 : (List.range n).countP (fun i => !listed.getD i true) = 0 := by
    rw [List.countP_eq_zero]
    intro i hi
    have hin := List.mem_range.1 hi
    rw [Dv (by rw [h.size]; omega) true false, hl i hin]
    decide
   have z2 : ((List.range (ops.size - n)).map (n + ·)).countP (fun i => !listed.getD i true) = ((List.range (ops.size - n)).map (n + ·)).length := by
    rw [List.countP_eq_length]
    intro i hi
    obtain ⟨j, hj, rfl⟩ := List.mem_map.1 hi
    have hjn := List.mem_range.1 hj
    rw [Dv (by rw [h.size]; omega) true false, h.tail (n + j) (by omega)]
    rfl
   rw [z1, z2]
   simp
  have hw := fin t w h.below (qh _ fun k hk => (h.held k (hl k (by simpa using hk))).1)
  rw [hf]
  refine wpAny_of_seq (md := md) (ops.toList.drop n) n listed (A t) w (fun j => by simp [List.getElem?_drop]) ?_ hw
  rw [he]
  simpa using hseq
 intro fuel
 induction fuel with
 | zero =>
  intro listed t w h hu
  refine done 0 listed t w h hu fun i hi => ?_
  cases e : listed.getD i false with
  | true => rfl
  | false =>
   have := zY h.size (show i < ops.size by omega) (by rw [Dv (by rw [h.size]; omega) true false]; exact e)
   omega
 | succ fuel ih =>
  intro listed t w h hu
  by_cases hl : ∀ i, i < n → listed.getD i false = true
  ·exact done (fuel + 1) listed t w h hu hl
  have hr0 : Region.ready md ops listed ≠ [] := fun hr => hl fun i hi => vP hN h.size hr (i + 1) i (by omega) (by omega)
  refine ⟨fun h0 => absurd h0 hr0, fun i hi => ?_⟩
  obtain ⟨h0, o, ho, hafter⟩ := mem_ready.1 hi
  have hlt := (Array.getElem?_eq_some_iff.1 ho).1
  have Ac : ∀ k ∈ ns.getD i [], listed.getD k false = true := fun k hk => by
   obtain ⟨e, he, hb, hk⟩ := (wE hN ho).2 k hk
   rcases hk with rfl | hk
   ·exact hafter e he hb
   ·exact (h.held e.on (hafter e he hb)).2 k hk
  have hin : i < n := by
   rcases Nat.lt_trichotomy i n with hlt' | rfl | hgt
   ·exact hlt'
   ·exact absurd (fun k hk => Ac k (by
     have := List.all_eq_true.1 hall k (List.mem_range.2 hk)
     simpa using this)) hl
   ·have h1 := List.all_eq_true.1 hch i (List.mem_range.2 hlt)
    simp only [ho, Bool.or_eq_true, decide_eq_true_eq] at h1
    rcases h1 with h1 | h1
    ·omega
    ·obtain ⟨e, he, hb⟩ := Array.any_eq_true'.1 h1
     simp only [Bool.and_eq_true, decide_eq_true_eq] at hb
     have h2 := hafter e he hb.1
     rw [h.tail e.on hb.2] at h2
     cases h2
  have hst := Steps.at (ops.toList.take n) 0 ns steps i o (by rw [List.getElem?_take, if_pos hin]; simpa using ho)
  rw [Nat.zero_add] at hst
  refine wpOp_step ho fun K hK => hst t w h.below (qh _ fun k hk => (h.held k (Ac k hk)).1) K fun v w' hb hv => hK _ _ (ih _ _ _ ⟨⟨h.below.trans (hb.mono h.below.size), by simpa using h.size, fun j hj => ?_⟩, fun j hj => ?_⟩ ?_)
  ·by_cases hji : j = i
   ·subst hji
    refine ⟨by simpa [upd] using hv, fun k hk => getD_set_true (Ac k hk)⟩
   ·rw [getD_set_ne false (Ne.symm hji)] at hj
    have := h.held j hj
    refine ⟨by simp only [upd, if_neg hji]; exact (pick R j).stays _ _ _ hb this.1, fun k hk => getD_set_true (this.2 k hk)⟩
  ·rw [getD_set_ne false (by omega)]
   exact h.tail j hj
  ·have := zY h.size hlt h0
   omega
theorem dG {id : Nat} {a : Act} {w : World} {l : List Oper} (hm : P.follows .mixedOrders = true) (n : Nat) (R : List Keep) (ns : List (List Nat)) (hB : adY .any l.toArray ns n = true)
  (steps : Steps P l.toArray Q (fun t => bH t n l 0 a) w R 0 (l.take n) ns)
  (fin : ∀ t w', Below w.heap.size w w' → Have R t w' (List.range n) → wpList P l.toArray Q (l.drop n) (bH t n l 0 a) w') : (Code.region id l.toArray true).wp P Q a w := by
 refine wp_region_any hm ?_
 have h := JQ (P := P) (Q := Q) (md := .any) (ops := l.toArray) (A := fun t => bH t n l 0 a) (w0 := w) (R := R) (ns := ns) (n := n) hB (by simpa using steps) (by simpa using fin) l.length (Array.replicate l.length false) (now (l.take n) a) { w with drawn := w.drawn + 1 }
  ⟨⟨⟨rfl, rfl, rfl, Nat.le_refl _, fun _ _ => rfl⟩, by simp, fun i hi => by
   by_cases h : i < l.length <;> simp [Array.getD, h] at hi⟩, fun i _ => by by_cases h : i < l.length <;> simp [Array.getD, h]⟩ (by
   unfold XW
   have : (List.range l.toArray.size).countP (fun i => !(Array.replicate l.length false).getD i true) = (List.range l.toArray.size).length := by
    rw [List.countP_eq_length]
    intro i hi
    have hi' : i < l.length := by simpa using hi
    simp [Array.getD, hi']
   rw [this]
   simp)
 have e : bH (now (l.take n) a) n l 0 a = a := by rw [Dt]; exact wo a (l.take n) (l.take n) 0 (fun j => by simp)
 have h' : wpAny P .any l.toArray Q l.length (Array.replicate l.length false) (bH (now (l.take n) a) n l 0 a) { w with drawn := w.drawn + 1 } := h
 rw [e] at h'
 simpa using h'
end
end Go.Proofs.YtcfgioklgmlclaaGreatDoor.fZ
namespace Go.Proofs.YtcfgioklgmlclaaGreatDoor.fE
open Go.RowKit Base
def low (c : UInt8) : UInt8 := if 65 ≤ c.toNat ∧ c.toNat ≤ 90 then c + 32 else c
def lower (l : List UInt8) : List UInt8 := l.map low
def sG (l : List UInt8) (k : Nat) : List UInt8 := (l.take k).map low ++ l.drop k
theorem nC (l : List UInt8) (k : Nat) : (sG l k).length = l.length := by simp [sG]; omega
theorem LP (l : List UInt8) (k : Nat) (h : k < l.length) : (sG l k)[k]'(by rw [nC]; exact h) = l[k] := by
 have : k ≤ l.length := by omega
 simp [sG, List.getElem_append, this, Nat.min_eq_left this]
theorem IL (l : List UInt8) (k : Nat) (h : k < l.length) : sG l (k + 1) = (sG l k).set k (low l[k]) := by
 unfold sG
 apply List.ext_getElem
 ·simp; omega
 ·intro i h1 h2
  simp only [List.getElem_append, List.getElem_set, List.length_map, List.length_take, List.getElem_map, List.getElem_take, List.getElem_drop]
  by_cases a : i < k
  ·rw [dif_pos (by omega), if_neg (by omega), dif_pos (by omega)]
  ·by_cases b : i = k
   ·subst b
    rw [dif_pos (by omega), if_pos rfl]
   ·rw [dif_neg (by omega), if_neg (by omega), dif_neg (by omega)]
    congr 1
    omega
theorem Zk (l : List UInt8) : sG l l.length = lower l := by simp [sG, lower]
theorem Ve (l : List UInt8) : sG l 0 = l := by simp [sG]
theorem Xr (c : UInt8) (h1 : 65 ≤ (c.toNat : Int)) (h2 : (c.toNat : Int) ≤ 90) : ((low c).toNat : Int) = (c.toNat : Int) + 32 := by
 unfold low; rw [if_pos (by omega)]; simp [UInt8.toNat_add]; omega
theorem acX (c : UInt8) (h : ¬ (65 ≤ (c.toNat : Int) ∧ (c.toNat : Int) ≤ 90)) : low c = c := by
 unfold low; rw [if_neg (by omega)]
theorem set_self {l : List UInt8} {k : Nat} (h : k < l.length) (c : UInt8) (e : l[k] = c) : l.set k c = l := by subst e; simp
theorem gq (s : ByteArray) (w : World) (hs : s.size ≤ maxLen) : Calls Tryz.prog 75 #[.string s] w fun e w' => e = .returned (.string (strOf (lower s.data.toList))) ∧ Below w.heap.size w w' := by
 unfold maxLen at hs
 have hcv := fun (w : World) s => run_bytes_of_string (P := Tryz.prog) w 9 30 5 s Tryz.underlying9 Tryz.underlying30 Tryz.underlying5
 have FW : Hid (s.size ≤ grownCap w s.size 0 5) := grownCap_ge w s.size 0 5
 go_enter Tryz.func75, Tryz.ntmps75
 go_wp2
 clear hcv
 go_loopw [4, 5, 10] (fun _ _ i wr => ∃ k : Nat, k ≤ s.size ∧ i = .int .i64 k ∧ mJ wr w.heap.size 5 (sG s.data.toList k) ∧ Below w.heap.size w wr) (fun _ _ i _ => s.size - (intOf i).toNat)
 case atStart => exact ⟨0, Nat.zero_le _, rfl, (by rw [Ve]; exact mJ.made w s 5 _ FW.out), ((Below.refl _ _).alloc (Nat.le_refl _) _).drew⟩
 case round =>
  obtain ⟨k, hk, rfl, hrow, hbel⟩ := hrel
  by_cases hlt : k < s.size
  ·obtain ⟨c, hcs⟩ : ∃ c : UInt8, c = s.data.toList[k] := ⟨_, rfl⟩
   have hc : wr.cell? ⟨w.heap.size, k, none⟩ = some (.int .u8 (c.toNat : Int)) := by
    rw [hcs, hrow.cell k (by rw [nC]; exact hlt)]
    simp only [LP s.data.toList k hlt]
   have hf := hrow.frozen k (by rw [nC]; exact hlt)
   have HC := hid hcs
   clear hcs
   have HR := hid hrow
   clear hrow
   by_cases hA : 65 ≤ (c.toNat : Int) ∧ (c.toNat : Int) ≤ 90
   ·obtain ⟨hA1, hA2⟩ := hA
    go_wp2
    go_roundw
    case rel => exact ⟨k + 1, by omega, by go_num, by
     have := HR.out.set k (low c)
     rw [Xr c hA1 hA2] at this
     rw [IL s.data.toList k hlt, ← HC.out]
     exact this, hbel.setCell (Nat.le_refl _) _⟩
    case measure => simp [intOf]; omega
   ·have hlow := acX c hA
    have HL := hid hlow
    clear hlow
    go_wp2
    all_goals
     go_roundw
     case rel => exact ⟨k + 1, by omega, by go_num, by
      rw [IL s.data.toList k hlt, ← HC.out, HL.out, set_self (by rw [nC]; exact hlt) c (by rw [LP _ _ hlt, HC.out])]
      exact HR.out, hbel⟩
     case measure => simp [intOf]; omega
  ·obtain rfl : k = s.size := by omega
   have hback := run_convert_bytes_back (P := Tryz.prog) wr 30 9 5 ⟨w.heap.size, 0, none⟩ (grownCap w s.size 0 5) (sG s.data.toList s.size) Tryz.underlying30 Tryz.underlying5 Tryz.underlying9 (fun j hj => by
    have := hrow.cell j hj
    rw [NI]; exact this)
   rw [nC, show s.data.toList.length = s.size from Array.length_toList, show sG s.data.toList s.size = lower s.data.toList from Zk _] at hback
   go_wp2
   go_ret
   exact ⟨rfl, hbel⟩
end Go.Proofs.YtcfgioklgmlclaaGreatDoor.fE
namespace Go.Proofs.YtcfgioklgmlclaaGreatDoor.AP
open Go.RowKit Base eX fE
theorem fB (c : Int) (w : World) : Calls Tryz.prog 130 #[.int .u8 c] w fun e w' => e = .returned (.bool (letter c)) ∧ w = w' := by
 go_enter Tryz.func130, Tryz.ntmps130
 go_wp2
 all_goals
  go_ret
  exact ⟨aB (by unfold letter; rw [Bool.eq_iff_iff]; simp; omega), rfl⟩
theorem ji (c : Int) (w : World) : Calls Tryz.prog 131 #[.int .u8 c] w fun e w' => e = .returned (.bool (digit c)) ∧ w = w' := by
 go_enter Tryz.func131, Tryz.ntmps131
 go_wp2
 all_goals
  go_ret
  exact ⟨aB (by unfold digit; rw [Bool.eq_iff_iff]; simp; omega), rfl⟩
def ru (k : Nat) : Int := if k < 10 then 48 + k else 87 + k
def hit (c : Int) (k : Nat) : Prop := ru k = c ∨ 9 < k ∧ ru k - 32 = c
theorem Xi (c : Int) (k : Nat) (hk : k < 16) (h : hit c k) : hex c = k := by
 unfold hit ru at h
 unfold hex
 split at h <;> (repeat' split) <;> omega
theorem acp (c : Int) (h : ∀ j, j < 16 → ¬ hit c j) : hex c = -1 := by
 unfold hex
 split
 ·rename_i h1
  refine absurd ?_ (h (c - 48).toNat (by omega))
  unfold hit ru
  rw [if_pos (by omega)]
  omega
 ·split
  ·rename_i h1
   refine absurd ?_ (h (c - 87).toNat (by omega))
   unfold hit ru
   rw [if_neg (by omega)]
   omega
  ·split
   ·rename_i h1
    refine absurd ?_ (h (c - 55).toNat (by omega))
    unfold hit ru
    rw [if_neg (by omega)]
    omega
   ·rfl
def aaN (c : Int) (k : Nat) : Prop := ∀ j, j < k → ¬ hit c j
theorem N9 (k : Nat) (h : k < (⟨#[48, 49, 50, 51, 52, 53, 54, 55, 56, 57, 97, 98, 99, 100, 101, 102]⟩ : ByteArray).size) : (((⟨#[48, 49, 50, 51, 52, 53, 54, 55, 56, 57, 97, 98, 99, 100, 101, 102]⟩ : ByteArray)[k]'h).toNat : Int) = ru k := by
 have h' : k < 16 := h
 have hcase : k = 0 ∨ k = 1 ∨ k = 2 ∨ k = 3 ∨ k = 4 ∨ k = 5 ∨ k = 6 ∨ k = 7 ∨ k = 8 ∨ k = 9 ∨ k = 10 ∨ k = 11 ∨ k = 12 ∨ k = 13 ∨ k = 14 ∨ k = 15 := by omega
 rcases hcase with rfl | rfl | rfl | rfl | rfl | rfl | rfl | rfl | rfl | rfl | rfl | rfl | rfl | rfl | rfl | rfl <;> rfl
theorem dig_lo (k : Nat) (h : k < 16) : 48 ≤ ru k ∧ ru k ≤ 102 ∧ (9 < k → 97 ≤ ru k) := by
 unfold ru
 split <;> omega
theorem kL (c : Int) (w : World) : Calls Tryz.prog 83 #[.int .u8 c] w fun e w' => e = .returned (.int .i64 (hex c)) ∧ w = w' := by
 go_enter Tryz.func83, Tryz.ntmps83
 go_wp2
 go_loop [4] (fun i => ∃ k : Nat, k ≤ 16 ∧ i = .int .i64 k ∧ aaN c k) (fun i => 16 - (intOf i).toNat)
 case atStart => exact ⟨0, by omega, rfl, fun j hj => absurd hj (by omega)⟩
 case round =>
  obtain ⟨k, hk, rfl, hno⟩ := hrel
  have HN := hid hno
  clear hno
  by_cases h16 : k < 16
  ·have hx := N9 k h16
   obtain ⟨b1, b2, b3⟩ := dig_lo k h16
   obtain ⟨d, hd⟩ : ∃ d, d = ru k := ⟨_, rfl⟩
   rw [← hd] at hx b1 b2 b3
   have HD := hid hd
   clear hd
   by_cases e1 : d = c
   ·have HE : Hid (hex c = k) := Xi c k h16 (.inl (by rw [← HD.out]; exact e1))
    have e1' : (d == c) = true := by simpa using e1
    clear e1
    go_wp2
    go_ret
    rw [HE.out]
    exact ⟨rfl, rfl⟩
   ·have e1' : (d == c) = false := by simpa using e1
    by_cases h9 : 9 < k
    ·have b4 := b3 h9
     by_cases e2 : d - 32 = c
     ·have HE : Hid (hex c = k) := Xi c k h16 (.inr ⟨h9, by rw [← HD.out]; exact e2⟩)
      have e2' : (d - 32 == c) = true := by simpa using e2
      clear e1 e2 b3
      go_wp2
      go_ret
      rw [HE.out]
      exact ⟨rfl, rfl⟩
     ·have HE : Hid (aaN c (k + 1)) := fun j hj => by
       by_cases e : j = k
       ·subst e
        rintro (h | ⟨_, h⟩)
        ·exact e1 (by rw [HD.out]; exact h)
        ·exact e2 (by rw [HD.out]; exact h)
       ·exact HN.out j (by omega)
      have e2' : (d - 32 == c) = false := by simpa using e2
      clear e1 e2 b3
      go_wp2
      go_round
      case rel => exact ⟨k + 1, by omega, by go_num, HE.out⟩
      case measure => simp [intOf]; omega
    ·have HE : Hid (aaN c (k + 1)) := fun j hj => by
      by_cases e : j = k
      ·subst e
       rintro (h | ⟨h, _⟩)
       ·exact e1 (by rw [HD.out]; exact h)
       ·exact h9 h
      ·exact HN.out j (by omega)
     clear e1 b3
     go_wp2
     go_round
     case rel => exact ⟨k + 1, by omega, by go_num, HE.out⟩
     case measure => simp [intOf]; omega
  ·obtain rfl : k = 16 := by omega
   have HE : Hid (hex c = -1) := acp c HN.out
   go_wp2
   go_ret
   rw [HE.out]
   exact ⟨rfl, rfl⟩
theorem gq (s : ByteArray) (w : World) (hs : s.size ≤ 1073741824) : Calls Tryz.prog 39 #[.string s] w fun e w' => e = .returned (.string (strOf (lower s.data.toList))) ∧ Below w.heap.size w w' := by
 obtain ⟨i0, hi, hz0, hz1, hz2⟩ := info_parts jU
 have hl : s.data.toList.length = s.size := Array.length_toList
 have HL := hid hl
 clear hl
 go_enter Tryz.func39, Tryz.ntmps39
 go_wp2
 go_loopw [3, 8] (fun v vk wr => ∃ k : Nat, k ≤ s.size ∧ vk = .int .i64 k ∧ wr.ownsRow w.heap.size 5 1 v k (ak (lower (s.data.toList.take k))) ∧ Below w.heap.size w wr) (fun _ vk _ => s.size - (intOf vk).toNat)
 case atStart => exact ⟨0, Nat.zero_le _, rfl, World.ownsRow_nil _ _ _ _, Below.refl _ _⟩
 case round =>
  obtain ⟨k, hk, rfl, hown, hbel⟩ := hrel
  by_cases hlt : k < s.size
  ·obtain ⟨c, hc⟩ : ∃ c, s[k] = c := ⟨_, rfl⟩
   have HS : Hid (ak (lower (s.data.toList.take (k + 1))) = ak (lower (s.data.toList.take k)) ++ [.int .u8 ((low c).toNat : Int)]) := by
    rw [← hc, List.take_succ_eq_append_getElem (by rw [HL.out]; exact hlt)]
    simp [lower, ak]
    rfl
   by_cases hA : 65 ≤ (c.toNat : Int) ∧ (c.toNat : Int) ≤ 90
   ·obtain ⟨hA1, hA2⟩ := hA
    have HC := hid (Xr c hA1 hA2)
    go_wp2_with (at_builtin; refine wpList_append_own _ rfl _ _ 30 rfl w.heap.size 5 i0 (.int .u8 0) 1 1 Tryz.underlying30 hi hz0 hz1 hz2 rfl (by decide) _ _ _ rfl (hown.alloc _) ⟨wr.heap.size, 0, none⟩ 1 1 [.int .u8 ((c.toNat : Int) + 32)] rfl rfl ?c1 ?c2 ?c3 ?c4 ?c5 ?_)
    case c1 => exact cell_one_new _ _ _
    case c2 => intro u hu; simp at hu; subst hu; rfl
    case c3 => unfold maxLen; omega
    case c4 => omega
    case c5 => have := hbel.size; simp; omega
    intro v' w2 hown2 hg2 _
    have gG : Below w.heap.size w w2 := (hbel.alloc hbel.size _).grown hg2 (by have := hbel.size; simp; omega) (fun g hg => (hown.lt g hg).1)
    clear hown hbel hg2
    go_wp2
    go_roundw
    case rel => exact ⟨k + 1, by omega, by go_num, by rw [HS.out, HC.out]; exact hown2, gG⟩
    case measure => simp [intOf]; omega
   ·have HC := hid (acX c hA)
    go_wp2_with (at_builtin; refine wpList_append_own _ rfl _ _ 30 rfl w.heap.size 5 i0 (.int .u8 0) 1 1 Tryz.underlying30 hi hz0 hz1 hz2 rfl (by decide) _ _ _ rfl (hown.alloc _) ⟨wr.heap.size, 0, none⟩ 1 1 [.int .u8 (c.toNat : Int)] rfl rfl (cell_one_new _ _ _) (by intro u hu; simp at hu; subst hu; rfl) (by unfold maxLen; omega) (by omega) (by have := hbel.size; simp; omega) ?_)
    all_goals
     intro v' w2 hown2 hg2 _
     have gG : Below w.heap.size w w2 := (hbel.alloc hbel.size _).grown hg2 (by have := hbel.size; simp; omega) (fun g hg => (hown.lt g hg).1)
     clear hown hbel hg2
     go_wp2
     go_roundw
     case rel => exact ⟨k + 1, by omega, by go_num, by rw [HS.out, HC.out]; exact hown2, gG⟩
     case measure => simp [intOf]; omega
  ·obtain rfl : k = s.size := by omega
   obtain ⟨A, c, rfl, _, _, hrd⟩ := bZ hown
   have hst := aQ 30 9 5 Tryz.underlying30 Tryz.underlying5 Tryz.underlying9 _ c hrd
   have HE : Hid (s.data.toList.take s.size = s.data.toList) := by
    rw [← HL.out]; exact List.take_length
   rw [HE.out] at hst
   go_wp2
   go_ret
   exact ⟨rfl, hbel⟩
end Go.Proofs.YtcfgioklgmlclaaGreatDoor.AP
namespace Go.Proofs.YtcfgioklgmlclaaGreatDoor.uy
open Go.RowKit Base
def size (c : Int) : Int := if c ≤ 127 then 1 else if 194 ≤ c ∧ c ≤ 223 then 2 else if 224 ≤ c ∧ c ≤ 239 then 3 else if 240 ≤ c ∧ c ≤ 244 then 4 else 0
def lo (c : Int) : Int := if c ≤ 193 ∨ 245 ≤ c then 0 else if c = 224 then 160 else if c = 240 then 144 else 128
def hi (c : Int) : Int := if c ≤ 193 ∨ 245 ≤ c then 0 else if c = 237 then 159 else if c = 244 then 143 else 191
theorem lead_any (c : Int) (w : World) : Calls Tryz.prog 180 #[.int .u8 c] w fun e w' => e = .returned (.tuple #[.int .i64 (size c), .int .u8 (lo c), .int .u8 (hi c)]) ∧ w = w' := by
 go_enter Tryz.func180, Tryz.ntmps180
 go_wp2
 all_goals
  try simp only [beq_iff_eq, beq_eq_false_iff_ne, ne_eq] at *
  go_ret3
  exact ⟨ret3 (int_eq (by unfold size; (repeat' split) <;> omega)) (int_eq (by unfold lo; (repeat' split) <;> omega)) (int_eq (by unfold hi; (repeat' split) <;> omega)), rfl⟩
theorem adD (b off n cap : Nat) (c : Int) (w : World) (hc : w.cell? ⟨b, off, none⟩ = some (.int .u8 c)) (h0 : 0 < n) (h1 : 0 ≤ c) (h2 : c ≤ 127) :
  Calls Tryz.prog 137 #[.slice (some ⟨b, off, none⟩) n cap] w fun e w' => e = .returned (.tuple #[.int .i32 c, .int .i64 1, .bool true]) ∧ w = w' := by
 have hs : size c = 1 := by unfold size; (repeat' split) <;> omega
 have HS := hid hs
 clear hs
 have hp : (0 : Int) < (n : Int) := by omega
 go_enter Tryz.func137, Tryz.ntmps137
 go_wp2_with (go_at_call 180; refine (lead_any _ _).mono ?_; rintro e w' ⟨rfl, rfl⟩; rw [HS.out])
 go_ret3
 exact ⟨rfl, rfl⟩
theorem Zz (b off n cap : Nat) (c : Int) (w : World) (hc : w.cell? ⟨b, off, none⟩ = some (.int .u8 c)) (h0 : 0 < n) (h1 : (128 ≤ c ∧ c ≤ 193) ∨ 245 ≤ c) :
  Calls Tryz.prog 137 #[.slice (some ⟨b, off, none⟩) n cap] w fun e w' => e = .returned (.tuple #[.int .i32 65533, .int .i64 1, .bool false]) ∧ w = w' := by
 have hs : size c = 0 := by unfold size; (repeat' split) <;> omega
 have HS := hid hs
 clear hs
 have hp : (0 : Int) < (n : Int) := by omega
 go_enter Tryz.func137, Tryz.ntmps137
 go_wp2_with (go_at_call 180; refine (lead_any _ _).mono ?_; rintro e w' ⟨rfl, rfl⟩; rw [HS.out])
 go_ret3
 exact ⟨rfl, rfl⟩
def tail : Nat → Nat → Int → Int → Int → List UInt8 → Int × Int × Bool
 | 0, k, _, _, r, _ => (r, k, true)
 | _ + 1, k, _, _, _, [] => (65533, k, false)
 | m + 1, k, l, h, r, c :: t => if (c.toNat : Int) < l ∨ h < (c.toNat : Int) then (65533, k, false) else tail m (k + 1) 128 191 (r * 64 + (c.toNat : Int) % 64) t
def room : Nat → Int
 | 0 => 0
 | 1 => 32
 | 2 => 2048
 | 3 => 131072
 | _ => 8388608
theorem qB (k : Nat) (h0 : 1 ≤ k) (h1 : k ≤ 3) : room (k + 1) = room k * 64 ∧ room k ≤ 131072 := by
 match k, h0, h1 with
 | 1, _, _ => decide
 | 2, _, _ => decide
 | 3, _, _ => decide
theorem read_2 (b off cap : Nat) (L : List UInt8) (c : Int) (w : World) (hc : w.cell? ⟨b, off, none⟩ = some (.int .u8 c)) (hL : ∀ j (h : j < L.length), w.cell? ⟨b, off + j, none⟩ = some (.int .u8 (L[j].toNat : Int)))
  (hm : L.length ≤ maxLen) (h0 : 0 < L.length) (h1 : 194 ≤ c) (h2 : c ≤ 223) (R : Int × Int × Bool) (hR : R = tail 1 1 (lo c) (hi c) (c % 32) (L.drop 1)) :
  Calls Tryz.prog 137 #[.slice (some ⟨b, off, none⟩) L.length cap] w fun e w' => e = .returned (.tuple #[.int .i32 R.1, .int .i64 R.2.1, .bool R.2.2]) ∧ Below w.heap.size w w' := by
 have hs : size c = 2 := by unfold size; (repeat' split) <;> omega
 have HS := hid hs
 clear hs
 unfold maxLen at hm
 have hp : (0 : Int) < (L.length : Int) := by omega
 have HL := hid hL
 clear hL
 have HR := hid hR
 clear hR
 have hr0 : 0 ≤ c % 32 ∧ c % 32 < 32 := by omega
 go_enter Tryz.func137, Tryz.ntmps137
 go_wp2_with (go_at_call 180; refine (lead_any _ _).mono ?_; rintro e w' ⟨rfl, rfl⟩; rw [HS.out])
 go_quiet (fail)
 go_wp2
 go_loop [6, 7, 8, 9] (fun vl vh vr vk => ∃ (k : Nat) (l h r : Int), 1 ≤ k ∧ k ≤ 2 ∧ k ≤ L.length ∧ vk = .int .i64 k ∧ vl = .int .u8 l ∧ vh = .int .u8 h ∧ vr = .int .i32 r ∧ 0 ≤ r ∧ r < room k ∧ Hid (R = tail (2 - k) k l h r (L.drop k))) (fun _ _ _ vk => 2 - (intOf vk).toNat)
 case atStart => exact ⟨1, lo c, hi c, c % 32, by omega, by omega, by omega, rfl, rfl, rfl, rfl, hr0.1, hr0.2, HR⟩
 case round =>
  obtain ⟨k, l, h, r, hk1, hk2, hkn, rfl, rfl, rfl, rfl, hr1, hr2, HT⟩ := hrel
  by_cases hlt : k < 2
  ·obtain ⟨hb1, hb2⟩ := qB k hk1 (by omega)
   have HB := hid hb1
   clear hb1
   have hr3 : r < 131072 := by omega
   have es : 2 - k = (2 - (k + 1)) + 1 := by omega
   have HT2 : Hid (R = tail ((2 - (k + 1)) + 1) k l h r (L.drop k)) := by rw [← es]; exact HT
   clear es HT
   by_cases hn : k < L.length
   ·obtain ⟨x, hx⟩ : ∃ x, x = L[k] := ⟨_, rfl⟩
    have hcell : w.cell? ⟨b, off + k, none⟩ = some (.int .u8 (x.toNat : Int)) := by rw [hx]; exact HL.out k hn
    have HT3 : Hid (R = tail ((2 - (k + 1)) + 1) k l h r (x :: L.drop (k + 1))) := by
     have hd : L.drop k = x :: L.drop (k + 1) := by rw [hx]; exact List.drop_eq_getElem_cons hn
     rw [← hd]; exact HT2
    clear HT2 hx
    have hx2 : (x.toNat : Int) < 256 := by have := x.toNat_lt; omega
    have hne : ((k : Int) == (L.length : Int)) = false := by simp; omega
    by_cases ht : (x.toNat : Int) < l ∨ h < (x.toNat : Int)
    ·have HT4 : Hid (R = (65533, (k : Int), false)) := by
      have e := HT3.out
      rw [tail, if_pos ht] at e
      exact e
     clear HT3
     go_wp2
     all_goals
      go_ret3
      rw [HT4.out]
      exact ⟨rfl, Base.below_drewN (Below.refl _ _) _⟩
    ·have HT4 : Hid (R = tail (2 - (k + 1)) (k + 1) 128 191 (r * 64 + (x.toNat : Int) % 64) (L.drop (k + 1))) := by
      have e := HT3.out
      rw [tail, if_neg ht] at e
      exact e
     clear HT3
     have ht1 : l ≤ (x.toNat : Int) := by omega
     have ht2 : (x.toNat : Int) ≤ h := by omega
     clear ht
     go_wp2
     go_round
     case rel => exact ⟨k + 1, 128, 191, r * 64 + (x.toNat : Int) % 64, by omega, by omega, by omega, by go_num, rfl, rfl, rfl, by omega, by rw [HB.out]; omega, HT4⟩
     case measure => simp [intOf]; omega
   ·obtain rfl : k = L.length := by omega
    have HT4 : Hid (R = (65533, (L.length : Int), false)) := by
     have e := HT2.out
     rw [List.drop_length, tail] at e
     exact e
    clear HT2
    go_wp2
    go_ret3
    rw [HT4.out]
    exact ⟨rfl, Base.below_drewN (Below.refl _ _) _⟩
  ·obtain rfl : k = 2 := by omega
   have HT4 : Hid (R = (r, 2, true)) := by
    have e := HT.out
    rw [Nat.sub_self, tail] at e
    exact e
   clear HT
   go_wp2
   go_ret3
   rw [HT4.out]
   exact ⟨rfl, Base.below_drewN (Below.refl _ _) _⟩
theorem read_3 (b off cap : Nat) (L : List UInt8) (c : Int) (w : World) (hc : w.cell? ⟨b, off, none⟩ = some (.int .u8 c)) (hL : ∀ j (h : j < L.length), w.cell? ⟨b, off + j, none⟩ = some (.int .u8 (L[j].toNat : Int)))
  (hm : L.length ≤ maxLen) (h0 : 0 < L.length) (h1 : 224 ≤ c) (h2 : c ≤ 239) (R : Int × Int × Bool) (hR : R = tail 2 1 (lo c) (hi c) (c % 16) (L.drop 1)) :
  Calls Tryz.prog 137 #[.slice (some ⟨b, off, none⟩) L.length cap] w fun e w' => e = .returned (.tuple #[.int .i32 R.1, .int .i64 R.2.1, .bool R.2.2]) ∧ Below w.heap.size w w' := by
 have hs : size c = 3 := by unfold size; (repeat' split) <;> omega
 have HS := hid hs
 clear hs
 unfold maxLen at hm
 have hp : (0 : Int) < (L.length : Int) := by omega
 have HL := hid hL
 clear hL
 have HR := hid hR
 clear hR
 have hr0 : 0 ≤ c % 16 ∧ c % 16 < 32 := by omega
 go_enter Tryz.func137, Tryz.ntmps137
 go_wp2_with (go_at_call 180; refine (lead_any _ _).mono ?_; rintro e w' ⟨rfl, rfl⟩; rw [HS.out])
 go_quiet (fail)
 go_wp2
 go_loop [6, 7, 8, 9] (fun vl vh vr vk => ∃ (k : Nat) (l h r : Int), 1 ≤ k ∧ k ≤ 3 ∧ k ≤ L.length ∧ vk = .int .i64 k ∧ vl = .int .u8 l ∧ vh = .int .u8 h ∧ vr = .int .i32 r ∧ 0 ≤ r ∧ r < room k ∧ Hid (R = tail (3 - k) k l h r (L.drop k))) (fun _ _ _ vk => 3 - (intOf vk).toNat)
 case atStart => exact ⟨1, lo c, hi c, c % 16, by omega, by omega, by omega, rfl, rfl, rfl, rfl, hr0.1, hr0.2, HR⟩
 case round =>
  obtain ⟨k, l, h, r, hk1, hk2, hkn, rfl, rfl, rfl, rfl, hr1, hr2, HT⟩ := hrel
  by_cases hlt : k < 3
  ·obtain ⟨hb1, hb2⟩ := qB k hk1 (by omega)
   have HB := hid hb1
   clear hb1
   have hr3 : r < 131072 := by omega
   have es : 3 - k = (3 - (k + 1)) + 1 := by omega
   have HT2 : Hid (R = tail ((3 - (k + 1)) + 1) k l h r (L.drop k)) := by rw [← es]; exact HT
   clear es HT
   by_cases hn : k < L.length
   ·obtain ⟨x, hx⟩ : ∃ x, x = L[k] := ⟨_, rfl⟩
    have hcell : w.cell? ⟨b, off + k, none⟩ = some (.int .u8 (x.toNat : Int)) := by rw [hx]; exact HL.out k hn
    have HT3 : Hid (R = tail ((3 - (k + 1)) + 1) k l h r (x :: L.drop (k + 1))) := by
     have hd : L.drop k = x :: L.drop (k + 1) := by rw [hx]; exact List.drop_eq_getElem_cons hn
     rw [← hd]; exact HT2
    clear HT2 hx
    have hx2 : (x.toNat : Int) < 256 := by have := x.toNat_lt; omega
    have hne : ((k : Int) == (L.length : Int)) = false := by simp; omega
    by_cases ht : (x.toNat : Int) < l ∨ h < (x.toNat : Int)
    ·have HT4 : Hid (R = (65533, (k : Int), false)) := by
      have e := HT3.out
      rw [tail, if_pos ht] at e
      exact e
     clear HT3
     go_wp2
     all_goals
      go_ret3
      rw [HT4.out]
      exact ⟨rfl, Base.below_drewN (Below.refl _ _) _⟩
    ·have HT4 : Hid (R = tail (3 - (k + 1)) (k + 1) 128 191 (r * 64 + (x.toNat : Int) % 64) (L.drop (k + 1))) := by
      have e := HT3.out
      rw [tail, if_neg ht] at e
      exact e
     clear HT3
     have ht1 : l ≤ (x.toNat : Int) := by omega
     have ht2 : (x.toNat : Int) ≤ h := by omega
     clear ht
     go_wp2
     go_round
     case rel => exact ⟨k + 1, 128, 191, r * 64 + (x.toNat : Int) % 64, by omega, by omega, by omega, by go_num, rfl, rfl, rfl, by omega, by rw [HB.out]; omega, HT4⟩
     case measure => simp [intOf]; omega
   ·obtain rfl : k = L.length := by omega
    have HT4 : Hid (R = (65533, (L.length : Int), false)) := by
     have e := HT2.out
     rw [List.drop_length, tail] at e
     exact e
    clear HT2
    go_wp2
    go_ret3
    rw [HT4.out]
    exact ⟨rfl, Base.below_drewN (Below.refl _ _) _⟩
  ·obtain rfl : k = 3 := by omega
   have HT4 : Hid (R = (r, 3, true)) := by
    have e := HT.out
    rw [Nat.sub_self, tail] at e
    exact e
   clear HT
   go_wp2
   go_ret3
   rw [HT4.out]
   exact ⟨rfl, Base.below_drewN (Below.refl _ _) _⟩
theorem read_4 (b off cap : Nat) (L : List UInt8) (c : Int) (w : World) (hc : w.cell? ⟨b, off, none⟩ = some (.int .u8 c)) (hL : ∀ j (h : j < L.length), w.cell? ⟨b, off + j, none⟩ = some (.int .u8 (L[j].toNat : Int)))
  (hm : L.length ≤ maxLen) (h0 : 0 < L.length) (h1 : 240 ≤ c) (h2 : c ≤ 244) (R : Int × Int × Bool) (hR : R = tail 3 1 (lo c) (hi c) (c % 8) (L.drop 1)) :
  Calls Tryz.prog 137 #[.slice (some ⟨b, off, none⟩) L.length cap] w fun e w' => e = .returned (.tuple #[.int .i32 R.1, .int .i64 R.2.1, .bool R.2.2]) ∧ Below w.heap.size w w' := by
 have hs : size c = 4 := by unfold size; (repeat' split) <;> omega
 have HS := hid hs
 clear hs
 unfold maxLen at hm
 have hp : (0 : Int) < (L.length : Int) := by omega
 have HL := hid hL
 clear hL
 have HR := hid hR
 clear hR
 have hr0 : 0 ≤ c % 8 ∧ c % 8 < 32 := by omega
 go_enter Tryz.func137, Tryz.ntmps137
 go_wp2_with (go_at_call 180; refine (lead_any _ _).mono ?_; rintro e w' ⟨rfl, rfl⟩; rw [HS.out])
 go_quiet (fail)
 go_wp2
 go_loop [6, 7, 8, 9] (fun vl vh vr vk => ∃ (k : Nat) (l h r : Int), 1 ≤ k ∧ k ≤ 4 ∧ k ≤ L.length ∧ vk = .int .i64 k ∧ vl = .int .u8 l ∧ vh = .int .u8 h ∧ vr = .int .i32 r ∧ 0 ≤ r ∧ r < room k ∧ Hid (R = tail (4 - k) k l h r (L.drop k))) (fun _ _ _ vk => 4 - (intOf vk).toNat)
 case atStart => exact ⟨1, lo c, hi c, c % 8, by omega, by omega, by omega, rfl, rfl, rfl, rfl, hr0.1, hr0.2, HR⟩
 case round =>
  obtain ⟨k, l, h, r, hk1, hk2, hkn, rfl, rfl, rfl, rfl, hr1, hr2, HT⟩ := hrel
  by_cases hlt : k < 4
  ·obtain ⟨hb1, hb2⟩ := qB k hk1 (by omega)
   have HB := hid hb1
   clear hb1
   have hr3 : r < 131072 := by omega
   have es : 4 - k = (4 - (k + 1)) + 1 := by omega
   have HT2 : Hid (R = tail ((4 - (k + 1)) + 1) k l h r (L.drop k)) := by rw [← es]; exact HT
   clear es HT
   by_cases hn : k < L.length
   ·obtain ⟨x, hx⟩ : ∃ x, x = L[k] := ⟨_, rfl⟩
    have hcell : w.cell? ⟨b, off + k, none⟩ = some (.int .u8 (x.toNat : Int)) := by rw [hx]; exact HL.out k hn
    have HT3 : Hid (R = tail ((4 - (k + 1)) + 1) k l h r (x :: L.drop (k + 1))) := by
     have hd : L.drop k = x :: L.drop (k + 1) := by rw [hx]; exact List.drop_eq_getElem_cons hn
     rw [← hd]; exact HT2
    clear HT2 hx
    have hx2 : (x.toNat : Int) < 256 := by have := x.toNat_lt; omega
    have hne : ((k : Int) == (L.length : Int)) = false := by simp; omega
    by_cases ht : (x.toNat : Int) < l ∨ h < (x.toNat : Int)
    ·have HT4 : Hid (R = (65533, (k : Int), false)) := by
      have e := HT3.out
      rw [tail, if_pos ht] at e
      exact e
     clear HT3
     go_wp2
     all_goals
      go_ret3
      rw [HT4.out]
      exact ⟨rfl, Base.below_drewN (Below.refl _ _) _⟩
    ·have HT4 : Hid (R = tail (4 - (k + 1)) (k + 1) 128 191 (r * 64 + (x.toNat : Int) % 64) (L.drop (k + 1))) := by
      have e := HT3.out
      rw [tail, if_neg ht] at e
      exact e
     clear HT3
     have ht1 : l ≤ (x.toNat : Int) := by omega
     have ht2 : (x.toNat : Int) ≤ h := by omega
     clear ht
     go_wp2
     go_round
     case rel => exact ⟨k + 1, 128, 191, r * 64 + (x.toNat : Int) % 64, by omega, by omega, by omega, by go_num, rfl, rfl, rfl, by omega, by rw [HB.out]; omega, HT4⟩
     case measure => simp [intOf]; omega
   ·obtain rfl : k = L.length := by omega
    have HT4 : Hid (R = (65533, (L.length : Int), false)) := by
     have e := HT2.out
     rw [List.drop_length, tail] at e
     exact e
    clear HT2
    go_wp2
    go_ret3
    rw [HT4.out]
    exact ⟨rfl, Base.below_drewN (Below.refl _ _) _⟩
  ·obtain rfl : k = 4 := by omega
   have HT4 : Hid (R = (r, 4, true)) := by
    have e := HT.out
    rw [Nat.sub_self, tail] at e
    exact e
   clear HT
   go_wp2
   go_ret3
   rw [HT4.out]
   exact ⟨rfl, Base.below_drewN (Below.refl _ _) _⟩
end Go.Proofs.YtcfgioklgmlclaaGreatDoor.uy
namespace Go.Proofs.YtcfgioklgmlclaaGreatDoor.uy
open Go.RowKit Base
def rd : List UInt8 → Int × Int × Bool
 | [] => (65533, 1, false)
 | x :: t =>
  let c : Int := x.toNat
  if c ≤ 127 then (c, 1, true) else if c ≤ 193 ∨ 245 ≤ c then (65533, 1, false) else if c ≤ 223 then tail 1 1 (lo c) (hi c) (c % 32) t else if c ≤ 239 then tail 2 1 (lo c) (hi c) (c % 16) t else tail 3 1 (lo c) (hi c) (c % 8) t
theorem Sr (b off n cap : Nat) (L : List UInt8) (w : World) (h : dS w (some ⟨b, off, none⟩) n (ak L)) (hm : n ≤ maxLen) (h0 : 0 < n) (R : Int × Int × Bool) (hR : R = rd L) :
  Calls Tryz.prog 137 #[.slice (some ⟨b, off, none⟩) n cap] w fun e w' => e = .returned (.tuple #[.int .i32 R.1, .int .i64 R.2.1, .bool R.2.2]) ∧ Below w.heap.size w w' := by
 have hl : L.length = n := by rw [← bF]; exact h.1
 subst hl
 obtain ⟨x, t, rfl⟩ : ∃ x t, L = x :: t := by
  cases L with
  | nil => simp at h0
  | cons x t => exact ⟨x, t, rfl⟩
 have hc : w.cell? ⟨b, off, none⟩ = some (.int .u8 (x.toNat : Int)) := by
  have := h.byte 0 (by simp)
  rw [Nat.add_zero] at this
  exact this
 have hL : ∀ j (hj : j < (x :: t).length), w.cell? ⟨b, off + j, none⟩ = some (.int .u8 ((x :: t)[j].toNat : Int)) := fun j hj => h.byte j hj
 have hx : (x.toNat : Int) < 256 := by have := x.toNat_lt; omega
 by_cases h1 : (x.toNat : Int) ≤ 127
 ·rw [rd, if_pos h1] at hR
  subst hR
  exact (adD b off _ cap _ w hc h0 (by omega) h1).mono fun e w' ⟨he, hw⟩ => ⟨he, hw ▸ Below.refl _ _⟩
 by_cases h2 : (x.toNat : Int) ≤ 193 ∨ 245 ≤ (x.toNat : Int)
 ·rw [rd, if_neg h1, if_pos h2] at hR
  subst hR
  exact (Zz b off _ cap _ w hc h0 (by omega)).mono fun e w' ⟨he, hw⟩ => ⟨he, hw ▸ Below.refl _ _⟩
 by_cases h3 : (x.toNat : Int) ≤ 223
 ·rw [rd, if_neg h1, if_neg h2, if_pos h3] at hR
  exact read_2 b off cap _ _ w hc hL hm h0 (by omega) (by omega) R hR
 by_cases h4 : (x.toNat : Int) ≤ 239
 ·rw [rd, if_neg h1, if_neg h2, if_neg h3, if_pos h4] at hR
  exact read_3 b off cap _ _ w hc hL hm h0 (by omega) (by omega) R hR
 ·rw [rd, if_neg h1, if_neg h2, if_neg h3, if_neg h4] at hR
  exact read_4 b off cap _ _ w hc hL hm h0 (by omega) (by omega) R hR
theorem tail_size : ∀ (m k : Nat) (l h r : Int) (t : List UInt8), (k : Int) ≤ (tail m k l h r t).2.1 ∧ (tail m k l h r t).2.1 ≤ k + t.length
 | 0, k, _, _, _, t => by simp [tail]; omega
 | m + 1, k, l, h, r, [] => by simp [tail]
 | m + 1, k, l, h, r, c :: t => by
  rw [tail]
  split
  ·simp; omega
  ·have := tail_size m (k + 1) 128 191 (r * 64 + (c.toNat : Int) % 64) t
   simp only [List.length_cons]
   omega
theorem lF (x : UInt8) (t : List UInt8) : 1 ≤ (rd (x :: t)).2.1 ∧ (rd (x :: t)).2.1 ≤ (t.length : Int) + 1 := by
 simp only [rd]
 (repeat' split)
 ·simp; omega
 ·simp; omega
 ·have := tail_size 1 1 (lo x.toNat) (hi x.toNat) (x.toNat % 32) t; omega
 ·have := tail_size 2 1 (lo x.toNat) (hi x.toNat) (x.toNat % 16) t; omega
 ·have := tail_size 3 1 (lo x.toNat) (hi x.toNat) (x.toNat % 8) t; omega
def tJ : Nat → List UInt8 → List Int
 | 0, _ => []
 | _ + 1, [] => []
 | n + 1, x :: t => (rd (x :: t)).1 :: tJ n ((x :: t).drop (rd (x :: t)).2.1.toNat)
def dec (L : List UInt8) : List Int := tJ L.length L
theorem qp : ∀ (n m : Nat) (L : List UInt8), L.length ≤ n → L.length ≤ m → tJ n L = tJ m L
 | 0, 0, _, _, _ => rfl
 | 0, m + 1, [], _, _ => rfl
 | 0, _ + 1, _ :: _, h, _ => by simp at h
 | n + 1, 0, [], _, _ => rfl
 | _ + 1, 0, _ :: _, _, h => by simp at h
 | _ + 1, _ + 1, [], _, _ => rfl
 | n + 1, m + 1, x :: t, h1, h2 => by
  have hs := lF x t
  simp only [List.length_cons] at h1 h2
  rw [tJ, tJ, qp n m _ (by simp; omega) (by simp; omega)]
theorem kK : dec [] = [] := rfl
theorem gV (x : UInt8) (t : List UInt8) : dec (x :: t) = (rd (x :: t)).1 :: dec ((x :: t).drop (rd (x :: t)).2.1.toNat) := by
 have hs := lF x t
 unfold dec
 rw [List.length_cons, tJ, qp _ _ _ (by simp; omega) (Nat.le_refl _)]
theorem H8 (L : List UInt8) (k : Nat) (h : k < L.length) :
  dec (L.drop k) = (rd (L.drop k)).1 :: dec (L.drop (k + (rd (L.drop k)).2.1.toNat)) ∧ 1 ≤ (rd (L.drop k)).2.1 ∧ (rd (L.drop k)).2.1 ≤ (L.length : Int) - k := by
 obtain ⟨x, t, ht⟩ : ∃ x t, L.drop k = x :: t := by
  cases e : L.drop k with
  | nil => simp at e; omega
  | cons x t => exact ⟨x, t, rfl⟩
 have hs := lF x t
 have hl : (L.drop k).length = L.length - k := List.length_drop
 rw [ht, List.length_cons] at hl
 refine ⟨?_, ?_, ?_⟩
 ·rw [ht, gV, ← ht, List.drop_drop]
 ·rw [ht]; exact hs.1
 ·rw [ht]; omega
theorem info21 : (Tryz.prog.info? 21).map (fun i => (i.zero, i.size, i.bytes)) = some (some (.int .i32 0), 1, 4) := by kernel_rfl
theorem decode_any (A : Option Addr) (n cap : Nat) (L : List UInt8) (w : World) (h : dS w A n (ak L)) (hm : n ≤ 1073741824) (hcap : n ≤ cap) :
  Calls Tryz.prog 91 #[.slice A n cap] w fun e w' => ∃ v, e = .returned v ∧ w'.ownsRow w.heap.size 21 1 v (dec L).length (jk .i32 (dec L)) ∧ Below w.heap.size w w' := by
 have hl : L.length = n := by rw [← bF]; exact h.1
 have HL := hid hl
 clear hl
 obtain ⟨i0, hi, hz0, hz1, hz2⟩ := info_parts info21
 have HH := hid h
 clear h
 go_enter Tryz.func91, Tryz.ntmps91
 go_wp2
 go_loopw [3, 4] (fun v vk wr => ∃ (k : Nat) (acc : List Int), k ≤ n ∧ acc.length ≤ k ∧ vk = .int .i64 k ∧ wr.ownsRow w.heap.size 21 1 v acc.length (jk .i32 acc) ∧ Below w.heap.size w wr ∧ Hid (acc ++ dec (L.drop k) = dec L)) (fun _ vk _ => n - (intOf vk).toNat)
 case atStart => exact ⟨0, [], Nat.zero_le _, Nat.le_refl _, rfl, World.ownsRow_nil _ _ _ _, Below.refl _ _, rfl⟩
 case round =>
  obtain ⟨k, acc, hk, hacc, rfl, hown, hbel, HT⟩ := hrel
  by_cases hlt : k < n
  ·obtain ⟨b, off, rfl, hb, _⟩ := (HH.out).spot (by omega)
   have hcut : Hid (dS wr (some ⟨b, off + k, none⟩) (n - k) (ak (L.drop k))) := by
    rw [lV]
    exact (HH.out.cut k hk).below hbel
   have hne : ¬ cap = k := by omega
   obtain ⟨hd1, hd2, hd3⟩ := H8 L k (by rw [HL.out]; exact hlt)
   obtain ⟨R, hR⟩ : ∃ R, R = rd (L.drop k) := ⟨_, rfl⟩
   rw [← hR] at hd1 hd2 hd3
   rw [HL.out] at hd3
   have HD := hid hd1
   have HR := hid hR
   clear hd1 hR
   go_wp2_with fail
   refine (Sr b (off + k) (n - k) (cap - k) (L.drop k) _ hcut.out (by unfold maxLen; omega) (by omega) R HR.out).mono ?_
   rintro e w1 ⟨rfl, hb1⟩
   have hown1 := aI hown hb1
   have gB := hbel.trans (hb1.mono hbel.size)
   clear hown hbel
   go_wp2_with (at_builtin; refine wpList_append_own _ rfl _ _ 109 rfl w.heap.size 21 i0 (.int .i32 0) 1 4 Tryz.underlying109 hi hz0 hz1 hz2 rfl (by decide) _ _ _ rfl (hown1.alloc _) ⟨w1.heap.size, 0, none⟩ 1 1 [.int .i32 R.1] rfl rfl ?c1 ?c2 ?c3 ?c4 ?c5 ?_)
   case c1 => exact cell_one_new _ _ _
   case c2 => intro u hu; simp at hu; subst hu; rfl
   case c3 => unfold maxLen; omega
   case c4 => omega
   case c5 => have := gB.size; simp; omega
   intro v' w2 hown2 hg2 _
   have gG : Below w.heap.size w w2 := (gB.alloc gB.size _).grown hg2 (by have := gB.size; simp; omega) (fun g hg => (hown1.lt g hg).1)
   clear hown1 gB hg2
   go_wp2
   go_roundw
   case rel => exact ⟨k + R.2.1.toNat, acc ++ [R.1], by omega, by simp; omega, by rw [show ((k + R.2.1.toNat : Nat) : Int) = (k : Int) + R.2.1 by omega], by rw [gJ, List.length_append]; exact hown2, gG, by
     have := HT.out
     rw [HD.out] at this
     rw [List.append_assoc]
     exact this⟩
   case measure => simp [intOf]; omega
  ·obtain rfl : k = n := by omega
   have HE : Hid (acc = dec L) := by
    have e := HT.out
    rw [← HL.out, List.drop_length, kK, List.append_nil] at e
    exact e
   go_wp2
   go_ret
   exact ⟨_, rfl, by rw [← HE.out]; exact hown, hbel⟩
def Wn : Nat → List UInt8 → Bool
 | 0, _ => true
 | _ + 1, [] => true
 | n + 1, x :: t => (rd (x :: t)).2.2 && Wn n ((x :: t).drop (rd (x :: t)).2.1.toNat)
def val (L : List UInt8) : Bool := Wn L.length L
theorem MP : ∀ (n m : Nat) (L : List UInt8), L.length ≤ n → L.length ≤ m → Wn n L = Wn m L
 | 0, 0, _, _, _ => rfl
 | 0, m + 1, [], _, _ => rfl
 | 0, _ + 1, _ :: _, h, _ => by simp at h
 | n + 1, 0, [], _, _ => rfl
 | _ + 1, 0, _ :: _, _, h => by simp at h
 | _ + 1, _ + 1, [], _, _ => rfl
 | n + 1, m + 1, x :: t, h1, h2 => by
  have hs := lF x t
  simp only [List.length_cons] at h1 h2
  rw [Wn, Wn, MP n m _ (by simp; omega) (by simp; omega)]
theorem Ec (x : UInt8) (t : List UInt8) : val (x :: t) = ((rd (x :: t)).2.2 && val ((x :: t).drop (rd (x :: t)).2.1.toNat)) := by
 have hs := lF x t
 unfold val
 rw [List.length_cons, Wn, MP _ _ _ (by simp; omega) (Nat.le_refl _)]
theorem TG (L : List UInt8) (k : Nat) (h : k < L.length) : val (L.drop k) = ((rd (L.drop k)).2.2 && val (L.drop (k + (rd (L.drop k)).2.1.toNat))) := by
 obtain ⟨x, t, ht⟩ : ∃ x t, L.drop k = x :: t := by
  cases e : L.drop k with
  | nil => simp at e; omega
  | cons x t => exact ⟨x, t, rfl⟩
 rw [ht, Ec, ← ht, List.drop_drop]
theorem iP (A : Option Addr) (n cap : Nat) (L : List UInt8) (w : World) (h : dS w A n (ak L)) (hm : n ≤ 1073741824) (hcap : n ≤ cap) :
  Calls Tryz.prog 162 #[.slice A n cap] w fun e w' => e = .returned (.bool (val L)) ∧ Below w.heap.size w w' := by
 have hl : L.length = n := by rw [← bF]; exact h.1
 have HL := hid hl
 clear hl
 have HH := hid h
 clear h
 go_enter Tryz.func162, Tryz.ntmps162
 go_wp2
 go_loopw [3] (fun vk wr => ∃ (k : Nat), k ≤ n ∧ vk = .int .i64 k ∧ Below w.heap.size w wr ∧ Hid (val (L.drop k) = val L)) (fun vk _ => n - (intOf vk).toNat)
 case atStart => exact ⟨0, Nat.zero_le _, rfl, Below.refl _ _, rfl⟩
 case round =>
  obtain ⟨k, hk, rfl, hbel, HT⟩ := hrel
  by_cases hlt : k < n
  ·obtain ⟨b, off, rfl, hb, _⟩ := (HH.out).spot (by omega)
   have hcut : Hid (dS wr (some ⟨b, off + k, none⟩) (n - k) (ak (L.drop k))) := by
    rw [lV]
    exact (HH.out.cut k hk).below hbel
   have hne : ¬ cap = k := by omega
   obtain ⟨_, hd2, hd3⟩ := H8 L k (by rw [HL.out]; exact hlt)
   have hd1 := TG L k (by rw [HL.out]; exact hlt)
   obtain ⟨R, hR⟩ : ∃ R, R = rd (L.drop k) := ⟨_, rfl⟩
   rw [← hR] at hd1 hd2 hd3
   rw [HL.out] at hd3
   have HD := hid hd1
   have HR := hid hR
   clear hd1 hR
   go_wp2_with fail
   refine (Sr b (off + k) (n - k) (cap - k) (L.drop k) _ hcut.out (by unfold maxLen; omega) (by omega) R HR.out).mono ?_
   rintro e w1 ⟨rfl, hb1⟩
   have gB := hbel.trans (hb1.mono hbel.size)
   clear hbel
   cases hw : R.2.2
   ·have HV : Hid (val L = false) := by
     have e := HT.out
     rw [HD.out, hw] at e
     exact e.symm
    go_wp2
    go_ret
    rw [HV.out]
    exact ⟨rfl, gB⟩
   ·have HV : Hid (val (L.drop (k + R.2.1.toNat)) = val L) := by
     have e := HT.out
     rw [HD.out, hw, Bool.true_and] at e
     exact e
    go_wp2
    go_roundw
    case rel => exact ⟨k + R.2.1.toNat, by omega, by rw [show ((k + R.2.1.toNat : Nat) : Int) = (k : Int) + R.2.1 by omega], gB, HV⟩
    case measure => simp [intOf]; omega
  ·obtain rfl : k = n := by omega
   have HE : Hid (val L = true) := by
    have e := HT.out
    rw [← HL.out, List.drop_length] at e
    exact e.symm
   go_wp2
   go_ret
   rw [HE.out]
   exact ⟨rfl, hbel⟩
end Go.Proofs.YtcfgioklgmlclaaGreatDoor.uy
namespace Go.Proofs.YtcfgioklgmlclaaGreatDoor.Open
open Go.ChangeShapes Go.WideShapes Go.ChangeAt Go.RowKit Base
theorem uZ {w : World} {x : Addr} {n : Nat} {xs : List Value} (hl : xs.length = n) (hc : ∀ i (h : i < xs.length), w.cell? (x.add i) = some xs[i]) : dS w (some x) n xs := by
 refine ⟨hl, fun j hj => ?_⟩
 have h0 := hc 0 (by omega)
 have hs : x.spot = none := by
  have := World.cell?_spot h0
  simpa [Addr.add] using this
 obtain ⟨b, off, sp⟩ := x
 obtain rfl : sp = none := hs
 have hb := World.block_lt_of_cell? w _ h0
 have ha : (⟨b, off, none⟩ : Addr).add j = ⟨b, off + j, none⟩ := by
  unfold Addr.add
  split <;> simp_all
 have hb' : b < w.heap.size := by simpa [Addr.add] using hb
 exact ⟨b, off, rfl, hb', by rw [← ha]; exact hc j hj⟩
variable {P : Program} {w : World} {H : Type} {enc : TypeId × Value → H} {base : Nat} {spare : Nat → Bool} {held : Bool}
theorem of_ints {t e : TypeId} {k : IntKind} {fuel : Nat} {a : Option Addr} {len cap : Nat} {x : DataW H × List MemPlace} (ht : P.underlying t = some (.slice e)) (he : P.underlying e = some (.int k)) (hc : P.cellsOf e = 1)
  (h : DataW.trod enc P w base (fun _ => true) held fuel t (Value.slice a len cap).cells.toList = some x) :
  ∃ l : List Int, dS w a len (jk k l) ∧ len ≤ cap ∧ cap ≤ maxLen ∧ ∀ z ∈ l, (Lit.int k z).wf = true := by
 rcases open_ints ht he hc h with ⟨hcs, _⟩ | ⟨x, l, c, zs, hcs, _, hl, hm, hz, _, hcell, hwz⟩
 ·simp [Value.cells] at hcs
  obtain ⟨rfl, rfl, rfl⟩ := hcs
  exact ⟨[], dS.nil _, Nat.le_refl _, Nat.zero_le _, by simp⟩
 ·simp [Value.cells] at hcs
  obtain ⟨rfl, rfl, rfl⟩ := hcs
  have hz' : zs.length = cap := by simpa using hz
  refine ⟨zs.take len, uZ (by rw [lg, List.length_take]; omega) (fun i hi => ?_), hl, hm, fun z hz => hwz z (List.mem_of_mem_take hz)⟩
  rw [lg, List.length_take] at hi
  rw [hcell i (by omega)]
  simp [jk, List.getD, List.getElem?_eq_getElem (show i < zs.length by omega)]
theorem abV {t e : TypeId} {fuel : Nat} {a : Option Addr} {len cap : Nat} {x : DataW H × List MemPlace} (ht : P.underlying t = some (.slice e)) (he : P.underlying e = some (.int .u8)) (hc : P.cellsOf e = 1)
  (h : DataW.trod enc P w base (fun _ => true) held fuel t (Value.slice a len cap).cells.toList = some x) :
  ∃ L : List UInt8, dS w a len (ak L) ∧ len ≤ cap ∧ cap ≤ maxLen := by
 obtain ⟨l, hr, hl, hm, hw⟩ := of_ints ht he hc h
 refine ⟨l.map fun z => UInt8.ofNat z.toNat, ?_, hl, hm⟩
 have e : ak (l.map fun z => UInt8.ofNat z.toNat) = jk .u8 l := by
  unfold ak jk
  rw [List.map_map]
  refine List.map_congr_left fun z hz => ?_
  obtain ⟨h0, h1⟩ := bounds_u8 (hw z hz)
  simp only [Function.comp]
  congr 1
  simp
  omega
 rw [e]
 exact hr
theorem of_strings {t e : TypeId} {fuel : Nat} {a : Option Addr} {len cap : Nat} {x : DataW H × List MemPlace} (ht : P.underlying t = some (.slice e)) (he : P.underlying e = some .string) (hc : P.cellsOf e = 1)
  (h : DataW.trod enc P w base (fun _ => true) held fuel t (Value.slice a len cap).cells.toList = some x) :
  ∃ l : List ByteArray, dS w a len (l.map Value.string) ∧ len ≤ cap ∧ cap ≤ maxLen ∧ ∀ s ∈ l, s.size ≤ maxLen := by
 rcases open_strings ht he hc h with ⟨hcs, _⟩ | ⟨x, l, c, ss, hcs, _, hl, hm, hz, _, hcell, hwz⟩
 ·simp [Value.cells] at hcs
  obtain ⟨rfl, rfl, rfl⟩ := hcs
  exact ⟨[], dS.nil _, Nat.le_refl _, Nat.zero_le _, by simp⟩
 ·simp [Value.cells] at hcs
  obtain ⟨rfl, rfl, rfl⟩ := hcs
  have hz' : ss.length = cap := by simpa using hz
  refine ⟨ss.take len, uZ (by rw [List.length_map, List.length_take]; omega) (fun i hi => ?_), hl, hm, fun z hz => hwz z (List.mem_of_mem_take hz)⟩
  rw [List.length_map, List.length_take] at hi
  rw [hcell i (by omega)]
  simp [List.getD, List.getElem?_eq_getElem (show i < ss.length by omega)]
end Go.Proofs.YtcfgioklgmlclaaGreatDoor.Open
namespace Go.Proofs.YtcfgioklgmlclaaGreatDoor.oW
open Go.ChangeShapes Go.WideShapes Go.ChangeAt Go.RowKit Base
variable {P : Program} {w : World} {H : Type} {enc : TypeId × Value → H} {base : Nat} {held : Bool}
theorem Ht {t e : TypeId} {k : IntKind} {fuel : Nat} {a : Option Addr} {len cap : Nat} {x : DataW H × List MemPlace} (ht : P.underlying t = some (.slice e)) (he : P.underlying e = some (.int k)) (hc : P.cellsOf e = 1)
  (h : DataW.trod enc P w base (fun _ => true) held fuel t (Value.slice a len cap).cells.toList = some x) :
  cap = 0 ∨ ∃ es sp, x.1 = .slice es sp ∧ es.length + sp.length = cap := by
 rcases open_ints ht he hc h with ⟨hcs, _⟩ | ⟨_, l, c, zs, hcs, _, hl, hm, hz, rfl, _, _⟩
 ·simp [Value.cells] at hcs
  exact .inl hcs.2.2
 ·simp [Value.cells] at hcs
  obtain ⟨rfl, rfl, rfl⟩ := hcs
  have hz' : zs.length = cap := by simpa using hz
  refine .inr ⟨_, _, rfl, ?_⟩
  simp only [lits, List.length_map, List.length_take, List.length_drop]
  omega
theorem reach {ts : List TypeId} {ds : List (DataW H)} (hsz : (DataW.weightsEach P ts ds).all (· ≤ reachBytes) = true) {j : Nat} {t e : TypeId} {k : IntKind} {b fuel : Nat} {a : Option Addr} {len cap : Nat} {x : DataW H × List MemPlace}
  (htj : ts[j]? = some t) (hdj : ds[j]? = some x.1) (ht : P.underlying t = some (.slice e)) (he : P.underlying e = some (.int k)) (hc : P.cellsOf e = 1) (hb : P.bytesOf e = b)
  (h : DataW.trod enc P w base (fun _ => true) held fuel t (Value.slice a len cap).cells.toList = some x) : cap * b ≤ 140737488351232 := by
 rcases Ht ht he hc h with rfl | ⟨es, sp, e1, hl⟩
 ·simp
 ·have := sized_slice hsz htj (hdj.trans (congrArg some e1)) ht
  rw [hl, hb] at this
  exact this
theorem eu {ts : List TypeId} {ds : List (DataW H)} (hsz : (DataW.weightsEach P ts ds).all (· ≤ reachBytes) = true) {i : Nat} {t : TypeId} {fs : Array Field} {parts : List (DataW H)} (hti : ts[i]? = some t) (hdi : ds[i]? = some (.agg parts)) (hu : P.underlying t = some (.struct fs))
  {j : Nat} {ft : TypeId} {bytes : List UInt8} (hf : (fs.toList.map (·.type))[j]? = some ft) (hp : parts[j]? = some (.lit (.string bytes))) : bytes.length ≤ reachBytes := by
 have := List.all_eq_true.1 hsz _ (DataW.weights_mem_each hti hdi bytes.length (by
  simp only [DataW.weights, hu]
  exact DataW.weights_mem_each hf hp _ (by simp [DataW.weights])))
 simpa using this
end Go.Proofs.YtcfgioklgmlclaaGreatDoor.oW
namespace Go.Proofs.YtcfgioklgmlclaaGreatDoor.Qe
open Go.Joins Go.Deep Go.ChangeShapes Go.WideShapes Go.ChangeAt Go.RowKit Base
variable {P : Program} {w : World} {H : Type} {enc : TypeId × Value → H} {base : Nat} {held : Bool} {spare : Nat → Bool}
theorem pF {r : Reach} {b0 : Nat} {t : TypeId} {fs : Array Field} {v : Value} {d : DataW H} {p : List MemPlace} (hs : P.underlying t = some (.struct fs)) (hone : oneCellFields P fs = true) (hC : P.cellsOf t = fs.size)
  (hv : Value.okWide P w r b0 t v) (h : DataW.Trod enc P w base spare held t v d p) :
  ∃ (l : List Value) (ys : List (DataW H × List MemPlace)) (n : Nat), v = .agg ⟨l⟩ ∧ d = .agg (ys.map (·.1)) ∧ p = ys.flatMap (·.2) ∧ l.length = fs.size ∧ ys.length = fs.size ∧
   ∀ (j : Nat) (f : Field), fs[j]? = some f → ∀ c : Value, l[j]? = some c → DataW.trod enc P w base spare held n f.type [c] = ys[j]? := by
 obtain ⟨⟨l⟩, rfl, hsz⟩ := okWide_struct hs hv
 obtain ⟨fuel, hf⟩ := h
 obtain ⟨xs, n, _, hx, hl, hlen, hfs⟩ := DataW.trod_struct hs hf
 simp only [Prod.mk.injEq] at hx
 have hl' : l.length = fs.size := by rw [← hC]; exact hsz
 refine ⟨l, xs, n, rfl, hx.1, hx.2, hl', hlen, fun j f hj c hc => ?_⟩
 obtain ⟨o, k⟩ := hone_of hone j f hj
 have := hfs j f hj
 rw [o, k] at this
 have e : ((Value.agg ⟨l⟩).cells.toList.drop j).take 1 = [c] := by
  obtain ⟨hj', e⟩ := List.getElem?_eq_some_iff.1 hc
  show (l.drop j).take 1 = _
  rw [List.drop_eq_getElem_cons hj', e]
  rfl
 rw [e] at this
 exact this
theorem weightsAll_mem {P : Program} {e : TypeId} : ∀ {l : List (DataW H)} {d : DataW H}, d ∈ l → ∀ k ∈ d.weights P e, k ∈ DataW.weightsAll P e l
 | _ :: _, _, .head _, k, hk => by unfold DataW.weightsAll; exact List.mem_append_left _ hk
 | _ :: _, _, .tail _ h, k, hk => by unfold DataW.weightsAll; exact List.mem_append_right _ (weightsAll_mem h k hk)
theorem tK {ts : List TypeId} {ds : List (DataW H)} (hsz : (DataW.weightsEach P ts ds).all (· ≤ reachBytes) = true) {i : Nat} {ta : TypeId} {fs : Array Field} {parts : List (DataW H)} (hti : ts[i]? = some ta) (hdi : ds[i]? = some (.agg parts)) (hu : P.underlying ta = some (.struct fs))
  {j : Nat} {t e : TypeId} (hf : (fs.toList.map (·.type))[j]? = some t) {fuel : Nat} {a : Option Addr} {len cap : Nat} {x : DataW H × List MemPlace} (hp : parts[j]? = some x.1) (ht : P.underlying t = some (.slice e)) (he : P.underlying e = some .string) (hc : P.cellsOf e = 1)
  (h : DataW.trod enc P w base (fun _ => true) held fuel t (Value.slice a len cap).cells.toList = some x) :
  ∃ l : List ByteArray, dS w a len (l.map Value.string) ∧ len ≤ cap ∧ cap ≤ maxLen ∧ ∀ s ∈ l, s.size ≤ 140737488351232 := by
 rcases open_strings ht he hc h with ⟨hcs, _⟩ | ⟨b, ln, c, ss, hcs, _, hl, hm, hz, hx, hcell, hwz⟩
 ·simp [Value.cells] at hcs
  obtain ⟨rfl, rfl, rfl⟩ := hcs
  exact ⟨[], dS.nil _, Nat.le_refl _, Nat.zero_le _, by simp⟩
 ·simp [Value.cells] at hcs
  obtain ⟨rfl, rfl, rfl⟩ := hcs
  have hz' : ss.length = cap := by simpa using hz
  refine ⟨ss.take len, Open.uZ (by rw [List.length_map, List.length_take]; omega) (fun i hi => ?_), hl, hm, fun s hs => ?_⟩
  ·rw [List.length_map, List.length_take] at hi
   rw [hcell i (by omega)]
   simp [List.getD, List.getElem?_eq_getElem (show i < ss.length by omega)]
  ·have hmem : s.data.toList.length ∈ (DataW.agg parts).weights P ta := by
    simp only [DataW.weights, hu]
    refine DataW.weights_mem_each hf hp _ ?_
    rw [hx]
    simp only [DataW.weights, ht]
    refine List.mem_cons_of_mem _ (List.mem_append_left _ (weightsAll_mem (d := .lit (.string s.data.toList)) ?_ _ (by simp [DataW.weights])))
    simp only [strs, List.mem_map]
    exact ⟨s, hs, rfl⟩
   have := List.all_eq_true.1 hsz _ (DataW.weights_mem_each hti hdi _ hmem)
   rw [show s.data.toList.length = s.size from Array.length_toList] at this
   exact of_decide_eq_true this
theorem YP {ts : List TypeId} {ds : List (DataW H)} (hsz : (DataW.weightsEach P ts ds).all (· ≤ reachBytes) = true) {i : Nat} {ta : TypeId} {fs : Array Field} {parts : List (DataW H)} (hti : ts[i]? = some ta) (hdi : ds[i]? = some (.agg parts)) (hu : P.underlying ta = some (.struct fs))
  {j : Nat} {t e : TypeId} {k : IntKind} {b : Nat} (hf : (fs.toList.map (·.type))[j]? = some t) {fuel : Nat} {a : Option Addr} {len cap : Nat} {x : DataW H × List MemPlace} (hp : parts[j]? = some x.1) (ht : P.underlying t = some (.slice e)) (he : P.underlying e = some (.int k)) (hc : P.cellsOf e = 1) (hb : P.bytesOf e = b)
  (h : DataW.trod enc P w base (fun _ => true) held fuel t (Value.slice a len cap).cells.toList = some x) : cap * b ≤ 140737488351232 := by
 rcases oW.Ht ht he hc h with rfl | ⟨es, sp, e1, hl⟩
 ·simp
 ·have hmem : (es.length + sp.length) * P.bytesOf e ∈ (DataW.agg parts).weights P ta := by
   simp only [DataW.weights, hu]
   refine DataW.weights_mem_each hf hp _ ?_
   rw [e1]
   simp [DataW.weights, ht]
  have := List.all_eq_true.1 hsz _ (DataW.weights_mem_each hti hdi _ hmem)
  rw [hl, hb] at this
  exact of_decide_eq_true this
theorem IK {α : Type} {l : List α} (h : l.length = 13) : ∃ a0 a1 a2 a3 a4 a5 a6 a7 a8 a9 a10 a11 a12, l = [a0, a1, a2, a3, a4, a5, a6, a7, a8, a9, a10, a11, a12] := by
 match l, h with
 | [a0, a1, a2, a3, a4, a5, a6, a7, a8, a9, a10, a11, a12], _ => exact ⟨_, _, _, _, _, _, _, _, _, _, _, _, _, rfl⟩
theorem Rz {α : Type} {l : List α} (h : l.length = 6) : ∃ a0 a1 a2 a3 a4 a5, l = [a0, a1, a2, a3, a4, a5] := by
 match l, h with
 | [a0, a1, a2, a3, a4, a5], _ => exact ⟨_, _, _, _, _, _, rfl⟩
theorem Zp {r : Reach} {b0 : Nat} {t : TypeId} {f0 f1 f2 f3 f4 f5 : Field} {v : Value} {d : DataW H} {p : List MemPlace} (hs : P.underlying t = some (.struct #[f0, f1, f2, f3, f4, f5])) (hone : oneCellFields P #[f0, f1, f2, f3, f4, f5] = true) (hC : P.cellsOf t = 6)
  (hv : Value.okWide P w r b0 t v) (h : DataW.Trod enc P w base spare held t v d p) :
  ∃ (v0 v1 v2 v3 v4 v5 : Value) (y0 y1 y2 y3 y4 y5 : DataW H × List MemPlace) (n : Nat), v = .agg #[v0, v1, v2, v3, v4, v5] ∧ d = .agg [y0.1, y1.1, y2.1, y3.1, y4.1, y5.1] ∧ p = [y0, y1, y2, y3, y4, y5].flatMap (·.2) ∧
   DataW.trod enc P w base spare held n f0.type [v0] = some y0 ∧ DataW.trod enc P w base spare held n f1.type [v1] = some y1 ∧ DataW.trod enc P w base spare held n f2.type [v2] = some y2 ∧ DataW.trod enc P w base spare held n f3.type [v3] = some y3 ∧ DataW.trod enc P w base spare held n f4.type [v4] = some y4 ∧ DataW.trod enc P w base spare held n f5.type [v5] = some y5 := by
 obtain ⟨l, ys, n, rfl, hd, hp, hl, hy, hf⟩ := pF hs hone (hC.trans rfl) hv h
 obtain ⟨a0, a1, a2, a3, a4, a5, rfl⟩ := Rz hl
 obtain ⟨y0, y1, y2, y3, y4, y5, rfl⟩ := Rz hy
 exact ⟨a0, a1, a2, a3, a4, a5, y0, y1, y2, y3, y4, y5, n, rfl, hd, hp, hf 0 f0 rfl _ rfl, hf 1 f1 rfl _ rfl, hf 2 f2 rfl _ rfl, hf 3 f3 rfl _ rfl, hf 4 f4 rfl _ rfl, hf 5 f5 rfl _ rfl⟩
theorem Bv {r : Reach} {b0 : Nat} {t : TypeId} {f0 f1 f2 f3 f4 f5 f6 f7 f8 f9 f10 f11 f12 : Field} {v : Value} {d : DataW H} {p : List MemPlace} (hs : P.underlying t = some (.struct #[f0, f1, f2, f3, f4, f5, f6, f7, f8, f9, f10, f11, f12])) (hone : oneCellFields P #[f0, f1, f2, f3, f4, f5, f6, f7, f8, f9, f10, f11, f12] = true) (hC : P.cellsOf t = 13)
  (hv : Value.okWide P w r b0 t v) (h : DataW.Trod enc P w base spare held t v d p) :
  ∃ (v0 v1 v2 v3 v4 v5 v6 v7 v8 v9 v10 v11 v12 : Value) (y0 y1 y2 y3 y4 y5 y6 y7 y8 y9 y10 y11 y12 : DataW H × List MemPlace) (n : Nat), v = .agg #[v0, v1, v2, v3, v4, v5, v6, v7, v8, v9, v10, v11, v12] ∧ d = .agg [y0.1, y1.1, y2.1, y3.1, y4.1, y5.1, y6.1, y7.1, y8.1, y9.1, y10.1, y11.1, y12.1] ∧ p = [y0, y1, y2, y3, y4, y5, y6, y7, y8, y9, y10, y11, y12].flatMap (·.2) ∧
   DataW.trod enc P w base spare held n f0.type [v0] = some y0 ∧ DataW.trod enc P w base spare held n f1.type [v1] = some y1 ∧ DataW.trod enc P w base spare held n f2.type [v2] = some y2 ∧ DataW.trod enc P w base spare held n f3.type [v3] = some y3 ∧ DataW.trod enc P w base spare held n f4.type [v4] = some y4 ∧ DataW.trod enc P w base spare held n f5.type [v5] = some y5 ∧ DataW.trod enc P w base spare held n f6.type [v6] = some y6 ∧ DataW.trod enc P w base spare held n f7.type [v7] = some y7 ∧ DataW.trod enc P w base spare held n f8.type [v8] = some y8 ∧ DataW.trod enc P w base spare held n f9.type [v9] = some y9 ∧ DataW.trod enc P w base spare held n f10.type [v10] = some y10 ∧ DataW.trod enc P w base spare held n f11.type [v11] = some y11 ∧ DataW.trod enc P w base spare held n f12.type [v12] = some y12 := by
 obtain ⟨l, ys, n, rfl, hd, hp, hl, hy, hf⟩ := pF hs hone (hC.trans rfl) hv h
 obtain ⟨a0, a1, a2, a3, a4, a5, a6, a7, a8, a9, a10, a11, a12, rfl⟩ := IK hl
 obtain ⟨y0, y1, y2, y3, y4, y5, y6, y7, y8, y9, y10, y11, y12, rfl⟩ := IK hy
 exact ⟨a0, a1, a2, a3, a4, a5, a6, a7, a8, a9, a10, a11, a12, y0, y1, y2, y3, y4, y5, y6, y7, y8, y9, y10, y11, y12, n, rfl, hd, hp, hf 0 f0 rfl _ rfl, hf 1 f1 rfl _ rfl, hf 2 f2 rfl _ rfl, hf 3 f3 rfl _ rfl, hf 4 f4 rfl _ rfl, hf 5 f5 rfl _ rfl, hf 6 f6 rfl _ rfl, hf 7 f7 rfl _ rfl, hf 8 f8 rfl _ rfl, hf 9 f9 rfl _ rfl, hf 10 f10 rfl _ rfl, hf 11 f11 rfl _ rfl, hf 12 f12 rfl _ rfl⟩
end Go.Proofs.YtcfgioklgmlclaaGreatDoor.Qe
namespace Go.Proofs.YtcfgioklgmlclaaGreatDoor.fZ
open Go.RowKit Base
def mg (c : Bool) (k : Keep) : Keep := ⟨fun u w => (c = true → k.says u w) ∧ (c = false → u = undef), fun _ _ _ hb h => ⟨fun hc => k.stays _ _ _ hb (h.1 hc), h.2⟩⟩
section
variable {P : Program} {ops : Array Oper} {Q : Exit → Act → World → Prop}
def StepL (P : Program) (ops : Array Oper) (Q : Exit → Act → World → Prop) (l : List Oper) (a : Act) (w0 : World) (R : List Keep) (i : Nat) (o : Oper) (ns : List Nat) : Prop :=
 ∀ t w, Below w0.heap.size w0 w → Have R t w ns → ∀ K : Act → World → Prop, (∀ v w', Below w.heap.size w w' → (pick R i).says v w' → K ((bH t i l 0 a).put o.dst v) w') →
  if Region.wanted o (yielded ops (bH t i l 0 a).tmps) = true then Oper.wp P o (bH t i l 0 a) w K Q else K ((bH t i l 0 a).put o.dst undef) w
def Nu (P : Program) (ops : Array Oper) (Q : Exit → Act → World → Prop) (l : List Oper) (a : Act) (w0 : World) (R : List Keep) : Nat → List Oper → List (List Nat) → Prop
 | _, [], _ => True
 | k, o :: os, ns => StepL P ops Q l a w0 R k o (ns.headD []) ∧ Nu P ops Q l a w0 R (k + 1) os ns.tail
theorem zZ (t t' : Nat → Value) : ∀ (n : Nat) (os : List Oper) (k : Nat) (a : Act), (∀ j, k ≤ j → j < k + n → t j = t' j) → bH t n os k a = bH t' n os k a
 | 0, _, _, _, _ => rfl
 | _ + 1, [], _, _, _ => rfl
 | n + 1, o :: os, k, a, h => by
  show bH t n os (k + 1) (a.put o.dst (t k)) = bH t' n os (k + 1) (a.put o.dst (t' k))
  rw [h k (Nat.le_refl _) (by omega), zZ t t' n os (k + 1) _ fun j h1 h2 => h j (by omega) (by omega)]
theorem Dq (t : Nat → Value) : ∀ (n : Nat) (os : List Oper) (k : Nat) (a : Act) (o : Oper), os[n]? = some o → bH t (n + 1) os k a = (bH t n os k a).put o.dst (t (k + n))
 | 0, [], _, _, _, h => by simp at h
 | 0, p :: os, k, a, o, h => by
  simp at h
  subst h
  rfl
 | n + 1, [], _, _, _, h => by simp at h
 | n + 1, p :: os, k, a, o, h => by
  show bH t (n + 1) os (k + 1) (a.put p.dst (t k)) = _
  rw [Dq t n os (k + 1) _ o (by simpa using h), show k + 1 + n = k + (n + 1) by omega]
  rfl
def backB (ns : List (List Nat)) : Bool := (List.range ns.length).all fun i => (ns.getD i []).all fun k => decide (k < i)
theorem acj {R : List Keep} {t : Nat → Value} {w : World} {n : Nat} (h : Have R t w (List.range n)) (ks : List Nat) (hk : ∀ k ∈ ks, k < n) : Have R t w ks :=
 qh ks fun k hk' => aS h k (hk k hk')
theorem acn {R : List Keep} {t : Nat → Value} {w w' : World} {n : Nat} {v : Value} (h : Have R t w (List.range n)) (hb : Below w.heap.size w w') (hv : (pick R n).says v w') : Have R (upd t n v) w' (List.range (n + 1)) :=
 qh _ fun k hk => by
  have hk := List.mem_range.1 hk
  by_cases e : k = n
  ·subst e; simpa [upd] using hv
  ·have := aS h k (by omega)
   simp only [upd, if_neg e]
   exact (pick R k).stays _ _ _ hb this
theorem JR {l : List Oper} {a : Act} {w0 : World} {R : List Keep}
  (fin : ∀ t w, Below w0.heap.size w0 w → Have R t w (List.range l.length) → Q .normal (bH t l.length l 0 a) w) :
  ∀ (os : List Oper) (k : Nat) (ns : List (List Nat)), (∀ j, os[j]? = l[k + j]?) → k + os.length = l.length → (∀ i, ∀ x ∈ ns.getD i [], x < k + i) → Nu P ops Q l a w0 R k os ns →
   ∀ t w, Below w0.heap.size w0 w → Have R t w (List.range k) → wpList P ops Q os (bH t k l 0 a) w
 | [], k, ns, _, hk, _, _, t, w, hb, hh => by
  have : k = l.length := by simpa using hk
  subst this
  exact fin t w hb hh
 | o :: os, k, ns, he, hk, hn, hs, t, w, hb, hh => by
  have h0 : l[k]? = some o := by simpa using (he 0).symm
  have hns : ∀ x ∈ ns.headD [], x < k := fun x hx => by
   have := hn 0 x (by cases ns with | nil => cases hx | cons a b => exact hx)
   simpa using this
  have := hs.1 t w hb (acj hh _ hns) (wpList P ops Q os) fun v w' hb' hv => by
   have ih := JR fin os (k + 1) ns.tail (fun j => by have := he (j + 1); simpa [Nat.add_assoc, Nat.add_comm 1 j] using this) (by simp at hk; omega)
    (fun i x hx => by
     have := hn (i + 1) x (by cases ns with | nil => cases hx | cons a b => exact hx)
     omega) hs.2 (upd t k v) w' (hb.trans (hb'.mono hb.size)) (acn hh hb' hv)
   rw [Dq _ k l 0 a o h0, zZ (upd t k v) t k l 0 a (fun j _ h2 => by simp [upd]; omega)] at ih
   simpa [upd] using ih
  unfold wpList
  split
  ·rename_i hw
   rw [if_pos hw] at this
   exact .inl this
  ·rename_i hw
   rw [if_neg hw] at this
   exact this
theorem Wp {l : List Oper} {a : Act} {w : World} (R : List Keep) (ns : List (List Nat)) (hB : backB ns = true)
  (steps : Nu P ops Q l a w R 0 l ns)
  (fin : ∀ t w', Below w.heap.size w w' → Have R t w' (List.range l.length) → Q .normal (bH t l.length l 0 a) w') : wpList P ops Q l a w := by
 refine JR (ops := ops) (l := l) fin l 0 ns (fun j => by simp) (by simp) (fun i x hx => ?_) steps (fun _ => undef) w (Below.refl _ _) trivial
 by_cases hi : i < ns.length
 ·have := List.all_eq_true.1 hB i (List.mem_range.2 hi)
  have := List.all_eq_true.1 this x hx
  simpa using this
 ·rw [List.getD_eq_getElem?_getD, List.getElem?_eq_none (by omega)] at hx
  cases hx
theorem Au {id : Nat} {a : Act} {w : World} {l : List Oper} (R : List Keep) (ns : List (List Nat)) (hB : backB ns = true)
  (steps : Nu P l.toArray Q l a w R 0 l ns)
  (fin : ∀ t w', Below w.heap.size w w' → Have R t w' (List.range l.length) → Q .normal (bH t l.length l 0 a) w') : (Code.region id l.toArray false).wp P Q a w :=
 wp_region_lit (Wp R ns hB steps fin)
end
end Go.Proofs.YtcfgioklgmlclaaGreatDoor.fZ
namespace Go.Proofs.YtcfgioklgmlclaaGreatDoor.aan
open Go.RowKit Base aP
section
variable {P : Program} {W w0 : World} {ops : Array Oper} {rest : List Oper} {o : Oper} {a : Act} {Q : Exit → Act → World → Prop}
theorem zk (size : Nat) (hgd : o.guard = none) (s x : Operand) (t : TypeId) (ho : o.op = .call { callee := .builtin .append, args := #[s, x], argTypes := #[t, t] })
  (B : Nat) (e : TypeId) (i : TypeInfo) (z : Value) (by_ : Nat) (ht : P.underlying t = some (.slice e)) (hi : P.info? e = some i) (hz : i.zero = some z) (hsize : i.size = size) (hby : i.bytes = by_) (hzs : z.cells.size = size) (hs0 : 0 < size)
  (v : Value) (n : Nat) (xs : List Value) (hs : a.eval s = v) (hown : W.ownsRow B e size v n xs) (hbel : Below B w0 W) (hB : B ≤ W.heap.size)
  (news : List Value) (m : Nat) (hm : news.length = m * size) (hx : a.eval x = .slice (some ⟨W.heap.size, 0, none⟩) m m) (h1 : ∀ u ∈ news, u.oneCell' = true)
  (h63 : n + m ≤ maxLen) (hbytes : (n + m) * by_ ≤ 140737488355328)
  (h : ∀ v' w', w'.ownsRow B e size v' (n + m) (xs ++ news) → Below B w0 w' → (W.alloc (.cells news.toArray e)).grownBy w' v.ownBlock → wpList P ops Q rest (a.put o.dst v') w') :
  wpList P ops Q (o :: rest) a (W.alloc (.cells news.toArray e)) := by
 refine wpList_append_own _ hgd s x t ho B e i z size by_ ht hi hz hsize hby hzs hs0 v n xs hs (hown.alloc _) ⟨W.heap.size, 0, none⟩ m m news hx hm (fun j u hj => ?_) h1 h63 hbytes (by simp; omega) (fun v' w' h2 h3 _ => h v' w' h2 ?_ h3)
 ·rw [NI, World.cell?_alloc_mark]
  simpa using hj
 ·exact (hbel.alloc hB _).grown h3 (by simp; omega) (fun g hg => (hown.lt g hg).1)
end
end Go.Proofs.YtcfgioklgmlclaaGreatDoor.aan
