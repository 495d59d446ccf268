/- Texts that belong together: TbC, StoG, UtfA, QudP, SixP, SixQ, SixA, SplG, Spl, SixB, SixC, SixG, SixH, SixI, UtfL, RefA, SixD, SixE, SixF, SixL, QudA, QudB, QudC, QudD, QudE, QudF, Tab, QudG, QudH, QudI, EscI, EscE, EscR, EscD, HstP, PthP, PthA, PthB, PthC, PthD, PthE, PthF, PthG, PthH, PthI, PthJ, UrlP, UrlA. -/
import Derived.Test.YtegpfgccaminkaaGreatDoorUAB
import Derived.Test.YtegpfgccaminkaaGreatDoorUAA
import Derived.Test.YtegpfgccaminkaaGreatDoorShelf3
import Derived.Lib.SplitLaws
import Derived.Lib.IndexLaws
import Derived.Lib.LastIndexByte
import Derived.Lib.IndexMore
import Derived.Laws.BitsAllLaws
import Derived.Test.YtegpfgccaminkaaGreatDoorShelf
import Derived.Laws.Rows
import Derived.BigQuiet
import Derived.Laws.CopyOwn
import Derived.Lib.LaidU8
import Derived.Lib.LaidTab
import Derived.Lib.SmallJoins
import Derived.Sort.Grow
import Derived.Lib.ItoaNum
set_option linter.unusedSimpArgs false
set_option linter.unusedVariables false
namespace Go.Proofs.YtegpfgccaminkaaGreatDoor.TbC
open Go.RowKit Base Base2 Base3 Regs TbK TbB
theorem info_h : (Tryz.prog.info? 2).map (fun i => (i.zero, i.size, i.bytes)) = some (some (.int .i64 0), 1, 8) := by kernel_rfl
def hs (l : List (Nat × Nat)) : List Int := l.map fun p => (p.1 : Int)
theorem hs_length (l : List (Nat × Nat)) : (hs l).length = l.length := by simp [hs]
theorem hs_take (l : List (Nat × Nat)) (k : Nat) (h : k < l.length) : icells .i64 (hs (l.take (k + 1))) = icells .i64 (hs (l.take k)) ++ [.int .i64 (l[k].1 : Int)] := by
 rw [List.take_succ_eq_append_getElem h]
 unfold hs icells
 rw [List.map_append, List.map_append]
 rfl
set_option maxHeartbeats 1000000 in
set_option maxRecDepth 100000 in
theorem handles_any (B g room last : Nat) (l : List (Nat × Nat)) (w : World) (hT : IsT 126 134 (TbK.encP) B g room last l w) (hl : l.length ≤ 64) :
  Calls Tryz.prog 34 #[.pointer (some ⟨g, 0, none⟩)] w fun e w' => ∃ v, e = .returned v ∧ w'.ownsRow w.heap.size 2 1 v l.length (icells .i64 (hs l)) ∧ Below w.heap.size w w' := by
 have hlt := hT.lt
 obtain ⟨i0, hi, hz0, hz1, hz2⟩ := info_parts info_h
 obtain ⟨v, hv, hown, hBg⟩ := hT
 obtain ⟨A, c, rfl, hnc, hcm, hcell⟩ := own_cells hown
 obtain ⟨c0, c1, c2⟩ := cells3 hv
 have HC := hid hcell
 have hlli : (l.length : Int) ≤ 64 := by omega
 clear hcell hv hown
 go_enter Tryz.func34, Tryz.ntmps34
 go_wp2
 go_loopw [3, 13] (fun vr vk wr => ∃ k : Nat, k ≤ l.length ∧ vk = .int .i64 (k : Int) ∧ Hid (wr.ownsRow w.heap.size 2 1 vr k (icells .i64 (hs (l.take k)))) ∧ Below w.heap.size w wr) (fun _ vk _ => l.length - (intOf vk).toNat)
 case atStart => exact ⟨0, by omega, rfl, World.ownsRow_nil _ _ _ _, Below.refl _ _⟩
 case round =>
  obtain ⟨k, hk, rfl, HO, hbel⟩ := hrel
  by_cases hlk : k < l.length
  ·obtain ⟨b, rfl, hbl, h0, h1⟩ := HC.out k hlk
   obtain ⟨⟨hd, x⟩, hp⟩ : ∃ p, p = l[k] := ⟨_, rfl⟩
   rw [← hp] at h0 h1
   have k0 := (hbel.cell (p := ⟨b, k * 2, none⟩) hbl).trans h0
   have k1 : wr.cell? ⟨b, k * 2 + 1, none⟩ = some (.pointer (some ⟨x, 0, none⟩)) := (hbel.cell (p := ⟨b, k * 2 + 1, none⟩) hbl).trans h1
   have HP := hid hp
   clear hp h0 h1
   have HO2 : Hid ((wr.alloc (.cells #[.int .i64 (hd : Int), .pointer (some ⟨x, 0, none⟩)] 134)).ownsRow w.heap.size 2 1 _ k (icells .i64 (hs (l.take k)))) := hid (HO.out.alloc _)
   have hbel2 : Below w.heap.size w (wr.alloc (.cells #[.int .i64 (hd : Int), .pointer (some ⟨x, 0, none⟩)] 134)) := hbel.alloc hbel.size _
   go_wp2_with (at_builtin; refine wpList_app rfl _ _ 96 rfl w.heap.size 2 i0 (.int .i64 0) 8 Tryz.underlying96 hi hz0 hz1 hz2 rfl _ k _ rfl HO2.out hbel2 hbel2.size [.int .i64 (hd : Int)] 1 rfl (by rw [World.size_alloc]; rfl) (by intro u hu; simp at hu; subst hu; rfl) (by unfold maxLen; omega) (by omega) ?_)
   intro v' w' hown' hbel'
   have HO3 : Hid (w'.ownsRow w.heap.size 2 1 v' (k + 1) (icells .i64 (hs (l.take (k + 1))))) := by
    show World.ownsRow _ _ _ _ _ _ _
    rw [hs_take l k hlk, ← HP.out]
    exact hown'
   clear hown' HO2 hbel2 HO hbel
   go_wp2
   go_roundw
   case rel => exact ⟨k + 1, by omega, by go_num, HO3.out, hbel'⟩
   case measure => simp [intOf]; omega
  ·obtain rfl : k = l.length := by omega
   rw [List.take_length] at HO
   go_wp2
   go_ret
   exact ⟨_, rfl, HO.out, hbel⟩
theorem new_bad (room : Int) (h : room < 1 ∨ 64 < room) (w : World) : Calls Tryz.prog 31 #[.int .i64 room] w fun e w' => e = .returned (.tuple #[.pointer none, .int .i64 1]) ∧ Below w.heap.size w w' := by
 rcases (show room < 1 ∨ (¬ room < 1 ∧ 64 < room) by omega) with h4 | ⟨h4, h5⟩
 all_goals
  go_enter Tryz.func31, Tryz.ntmps31
  go_wp2
  go_ret2
  exact ⟨rfl, Below.refl _ _⟩
end Go.Proofs.YtegpfgccaminkaaGreatDoor.TbC
namespace Go.Proofs.YtegpfgccaminkaaGreatDoor.StoG
open Go.RowKit Base Base2 Base3 Regs TbK
structure Ent (α : Type) where
 url : ByteArray
 s : ByteArray
 h : ByteArray
 p : Int
 n : Int
 x : α
section
variable {α : Type} (enc : α → Value)
def rw6 (e : Ent α) : List Value := [.string e.url, .string e.s, .string e.h, .int .i64 e.p, .int .i64 e.n, enc e.x]
def flat (l : List (Ent α)) : List Value := l.flatMap (rw6 enc)
theorem flat_nil : flat enc [] = [] := rfl
theorem flat_cons (p : Ent α) (l : List (Ent α)) : flat enc (p :: l) = .string p.url :: .string p.s :: .string p.h :: .int .i64 p.p :: .int .i64 p.n :: enc p.x :: flat enc l := rfl
theorem flat_append (a b : List (Ent α)) : flat enc (a ++ b) = flat enc a ++ flat enc b := by simp [flat]
theorem flat_length (l : List (Ent α)) : (flat enc l).length = l.length * 6 := by
 induction l with
 | nil => rfl
 | cons p l ih => rw [flat_cons]; simp [ih]; omega
theorem flat_take (l : List (Ent α)) (k : Nat) : (flat enc l).take (k * 6) = flat enc (l.take k) := by
 induction l generalizing k with
 | nil => simp [flat_nil]
 | cons p l ih =>
  cases k with
  | zero => simp [flat_nil]
  | succ k => rw [Nat.succ_mul, flat_cons, List.take_succ_cons, List.take_succ_cons, List.take_succ_cons, List.take_succ_cons, List.take_succ_cons, List.take_succ_cons, ih, List.take_succ_cons, flat_cons]
theorem flat_drop (l : List (Ent α)) (k : Nat) : (flat enc l).drop (k * 6) = flat enc (l.drop k) := by
 induction l generalizing k with
 | nil => simp [flat_nil]
 | cons p l ih =>
  cases k with
  | zero => simp
  | succ k => rw [Nat.succ_mul, flat_cons, List.drop_succ_cons, List.drop_succ_cons, List.drop_succ_cons, List.drop_succ_cons, List.drop_succ_cons, List.drop_succ_cons, ih, List.drop_succ_cons]
theorem flat_at (l : List (Ent α)) (k : Nat) (h : k < l.length) (j : Nat) (v : Value) (hj : j < 6) (hv : (rw6 enc l[k])[j]? = some v) : (flat enc l)[k * 6 + j]? = some v := by
 have e : flat enc (l.drop k) = rw6 enc l[k] ++ flat enc (l.drop (k + 1)) := by rw [List.drop_eq_getElem_cons h]; rfl
 rw [← flat_drop] at e
 have := congrArg (fun x => x[j]?) e
 simp only [List.getElem?_drop] at this
 rw [this, List.getElem?_append_left (by simpa [rw6] using hj)]
 exact hv
theorem flat_one (h1 : ∀ x, (enc x).oneCell' = true) (l : List (Ent α)) : ∀ u ∈ flat enc l, u.oneCell' = true := by
 intro u hu
 simp only [flat, rw6, List.mem_flatMap, List.mem_cons, List.not_mem_nil, or_false] at hu
 obtain ⟨p, _, rfl | rfl | rfl | rfl | rfl | rfl⟩ := hu
 ·rfl
 ·rfl
 ·rfl
 ·rfl
 ·rfl
 ·exact h1 _
end
def idx {α : Type} (l : List (Ent α)) (t : ByteArray) : Option Nat := l.findIdx? fun e => decide (e.url = t)
theorem idx_some {α : Type} {l : List (Ent α)} {t : ByteArray} {k : Nat} (e : idx l t = some k) : ∃ hk : k < l.length, l[k].url = t ∧ ∀ j (hj : j < k), ¬ (l[j]'(Nat.lt_trans hj hk)).url = t := by
 unfold idx at e
 rw [List.findIdx?_eq_some_iff_getElem] at e
 obtain ⟨hk, h1, h2⟩ := e
 exact ⟨hk, by simpa using h1, fun j hj => by simpa using h2 j hj⟩
theorem idx_none {α : Type} {l : List (Ent α)} {t : ByteArray} (e : idx l t = none) : ∀ k (hk : k < l.length), ¬ l[k].url = t := by
 unfold idx at e
 rw [List.findIdx?_eq_none_iff] at e
 intro k hk
 have := e l[k] (List.getElem_mem _)
 simpa using this
def IsS (T E : TypeId) {α : Type} (enc : α → Value) (B g room : Nat) (l : List (Ent α)) (w : World) : Prop := ∃ v, w.heap[g]? = some (.cells #[.int .i64 (room : Int), v] T (0, 0)) ∧ w.ownsRow B E 6 v l.length (flat enc l) ∧ B ≤ g
section
variable {T E : TypeId} {α : Type} {enc : α → Value} {B g room : Nat} {l : List (Ent α)} {w w' : World}
theorem IsS.lt (h : IsS T E enc B g room l w) : g < w.heap.size := by obtain ⟨v, h, _⟩ := h; exact (Array.getElem?_eq_some_iff.1 h).1
theorem IsS.below (h : IsS T E enc B g room l w) (hb : Below w.heap.size w w') : IsS T E enc B g room l w' := by
 have hl := h.lt
 obtain ⟨v, h1, h2, h3⟩ := h
 exact ⟨v, (hb.block g hl).trans h1, owns_below h2 hb, h3⟩
theorem IsS.kp {T' E' : TypeId} (h : IsS T E enc B g room l w) (hk : Kp T' E' w w') (h1 : T ≠ T') (h2 : T ≠ E') (h3 : E ≠ T') (h4 : E ≠ E') : IsS T E enc B g room l w' := by
 obtain ⟨v, a, b, c⟩ := h
 exact ⟨v, hk.cells a h1 h2, hk.owns b h3 h4, c⟩
end
theorem cells2 {w : World} {g : Nat} {a b : Value} {T : TypeId} {mk : Nat × Nat} (h : w.heap[g]? = some (.cells #[a, b] T mk)) : w.cell? ⟨g, 0, none⟩ = some a ∧ w.cell? ⟨g, 1, none⟩ = some b :=
 ⟨(cell_of_row w g 0 _ _ _ h).trans rfl, (cell_of_row w g 1 _ _ _ h).trans rfl⟩
theorem thaw2 {w : World} {g : Nat} {a b : Value} {T : TypeId} (h : w.heap[g]? = some (.cells #[a, b] T (0, 0))) : w.frozen? ⟨g, 0, none⟩ = false ∧ w.frozen? ⟨g, 1, none⟩ = false :=
 ⟨frozen_of_row w g 0 _ _ h, frozen_of_row w g 1 _ _ h⟩
theorem run_clear_six {P : Program} (w : World) (t e ty : TypeId) (zs : List Value) (hl : zs.length = 6) (ht : P.underlying t = some (.slice e)) (hv : ∀ w, (zeroValue e).run P w = .ok (.agg zs.toArray) w) (hc : (Value.agg zs.toArray).cells = zs.toArray) (h1 : ∀ v ∈ zs, v.oneCell' = true)
  (b o c : Nat) (cur : Array Value) (E : TypeId) (hb : w.heap[b]? = some (.cells cur E (0, 0))) (hs : o + 6 ≤ cur.size) :
  (Builtin.clear_ #[t] ty #[.slice (some ⟨b, o, none⟩) 1 c]).run P w = .ok (.tuple #[]) (w.setRow b (cur.toList.take o ++ zs ++ cur.toList.drop (o + 6)).toArray) := by
 have hst := run_storeCells_at P b o E zs 0 cur w hb (by rw [hl]; simpa using hs) h1
 have hz : (Builtin.zeroCells zs.toArray 1).toList = zs := by
  match zs, hl with
  | [a, b, c, d, e, f], _ => simp [Builtin.zeroCells, Array.range, Array.ofFn]; rfl
 simp only [Nat.add_zero, hl] at hst
 simp [Builtin.clear_, run_underlying ht, hv, hc, hz, hst]
def one6 (vs : List Value) : Keep := ⟨fun u w => ∃ b, u = .slice (some ⟨b, 0, none⟩) 1 1 ∧ b < w.heap.size ∧ ∀ j v, vs[j]? = some v → w.cell? ⟨b, j, none⟩ = some v, fun _ _ _ hb ⟨b, h1, h2, h3⟩ => ⟨b, h1, Nat.lt_of_lt_of_le h2 hb.size, fun j v hv => (hb.cell (p := ⟨b, j, none⟩) h2).trans (h3 j v hv)⟩⟩
theorem own_cells {E : TypeId} {α : Type} {enc : α → Value} {B : Nat} {w : World} {v : Value} {l : List (Ent α)} (h : w.ownsRow B E 6 v l.length (flat enc l)) : ∃ A c, v = .slice A l.length c ∧ l.length ≤ c ∧ c ≤ maxLen ∧ ∀ k (hk : k < l.length), ∃ b, A = some ⟨b, 0, none⟩ ∧ b < w.heap.size ∧ ∀ j v, j < 6 → (rw6 enc l[k])[j]? = some v → w.cell? ⟨b, k * 6 + j, none⟩ = some v := by
 rcases h.2 with ⟨rfl, h0⟩ | ⟨b, cap, cur, rfl, hB, hb, h1, h2, h3, h4⟩
 ·exact ⟨none, 0, by rw [h0], by omega, Nat.zero_le _, fun k hk => absurd hk (by omega)⟩
 ·refine ⟨_, cap, rfl, h1, h2, fun k hk => ⟨b, rfl, (Array.getElem?_eq_some_iff.1 hb).1, fun j v hj hv => ?_⟩⟩
  rw [cell_of_row w b _ cur E (0, 0) hb, ← flat_at enc l k hk j v hj hv, ← h4, List.getElem?_take, if_pos (by omega), Array.getElem?_toList]
theorem six_cells {α : Type} {enc : α → Value} {w : World} {b k : Nat} {e : Ent α} (h : ∀ j v, j < 6 → (rw6 enc e)[j]? = some v → w.cell? ⟨b, k * 6 + j, none⟩ = some v) : w.cell? ⟨b, k * 6, none⟩ = some (.string e.url) ∧ w.cell? ⟨b, k * 6 + 1, none⟩ = some (.string e.s) ∧ w.cell? ⟨b, k * 6 + 2, none⟩ = some (.string e.h) ∧ w.cell? ⟨b, k * 6 + 3, none⟩ = some (.int .i64 e.p) ∧ w.cell? ⟨b, k * 6 + 4, none⟩ = some (.int .i64 e.n) ∧ w.cell? ⟨b, k * 6 + 5, none⟩ = some (enc e.x) :=
 ⟨h 0 _ (by omega) rfl, h 1 _ (by omega) rfl, h 2 _ (by omega) rfl, h 3 _ (by omega) rfl, h 4 _ (by omega) rfl, h 5 _ (by omega) rfl⟩
end Go.Proofs.YtegpfgccaminkaaGreatDoor.StoG
namespace Go.Proofs.YtegpfgccaminkaaGreatDoor.UtfA
open Go.RowKit Base
def letter (c : Int) : Bool := decide (65 ≤ c ∧ c ≤ 90 ∨ 97 ≤ c ∧ c ≤ 122)
def digit (c : Int) : Bool := decide (48 ≤ c ∧ c ≤ 57)
theorem letter_any (c : Int) (w : World) : Calls Tryz.prog 154 #[.int .u8 c] w fun e w' => e = .returned (.bool (letter c)) ∧ w = w' := by
 go_enter Tryz.func154, Tryz.ntmps154
 go_wp2
 all_goals
  go_ret
  exact ⟨ret_bool (by unfold letter; rw [Bool.eq_iff_iff]; simp; omega), rfl⟩
theorem digit_any (c : Int) (w : World) : Calls Tryz.prog 155 #[.int .u8 c] w fun e w' => e = .returned (.bool (digit c)) ∧ w = w' := by
 go_enter Tryz.func155, Tryz.ntmps155
 go_wp2
 all_goals
  go_ret
  exact ⟨ret_bool (by unfold digit; rw [Bool.eq_iff_iff]; simp; omega), rfl⟩
end Go.Proofs.YtegpfgccaminkaaGreatDoor.UtfA
namespace Go.Proofs.YtegpfgccaminkaaGreatDoor.Spl
open Go.RowKit Base Base2 Base3
def Max (w : World) : Prop := ∃ m, w.cell? ⟨0, 0, none⟩ = some (.int .i64 m)
theorem Max.below {w w' : World} (h : Max w) (hb : Below w.heap.size w w') : Max w' := by
 obtain ⟨m, hm⟩ := h
 exact ⟨m, (hb.cell (World.block_lt_of_cell? _ _ hm)).trans hm⟩
theorem splitK_gen (b : UInt8) (f : List UInt8 → List (List UInt8)) (f0 : f [] = [[]]) (f1 : ∀ L, f (b :: L) = [] :: f L) (f2 : ∀ c L, c ≠ b → f (c :: L) = match f L with
  | [] => [[c]]
  | x :: r => (c :: x) :: r) : ∀ (L : List UInt8) (k : Nat), L.count b ≤ k → Lib.splitK [b] 0 k L = f L
 | [], 0, _ => f0.symm
 | [], k + 1, _ => f0.symm
 | a :: l, 0, h => by
  have hb : a ≠ b := by rintro rfl; simp at h
  have ih := splitK_gen b f f0 f1 f2 l 0 (by rw [List.count_cons_of_ne (by simpa using hb)] at h; exact h)
  show [a :: l] = _
  rw [f2 a l hb, ← ih]
  rfl
 | a :: l, k + 1, h => by
  by_cases hb : a = b
  ·subst hb
   have ih := splitK_gen a f f0 f1 f2 l k (by simp at h; omega)
   have e : Lib.index (a :: l) [a] = 0 := by rw [Lib.index, if_pos (by simp [List.isPrefixOf])]
   rw [f1, Lib.splitK, e, if_neg (by decide)]
   show [] :: _ = _
   rw [← ih]
   rfl
  ·have hc : l.count b ≤ k + 1 := by rw [List.count_cons_of_ne (by simpa using hb)] at h; exact h
   have ih := splitK_gen b f f0 f1 f2 l (k + 1) hc
   have e : Lib.index (a :: l) [b] = if Lib.index l [b] == -1 then -1 else Lib.index l [b] + 1 := by rw [Lib.index, if_neg (by simp [List.isPrefixOf, Ne.symm hb])]
   rw [Lib.splitK] at ih ⊢
   rw [f2 a l hb, ← ih, e]
   by_cases hm : Lib.index l [b] = -1
   ·rw [hm]
    rfl
   ·have hge := Lib.index_ge l [b]
    obtain ⟨j, hj⟩ : ∃ j : Nat, Lib.index l [b] = j := ⟨(Lib.index l [b]).toNat, by omega⟩
    have h1 : ((j : Int) == -1) = false := beq_eq_false_iff_ne.2 (by omega)
    have h2 : ((j : Int) + 1 == -1) = false := beq_eq_false_iff_ne.2 (by omega)
    have h3 : ((j : Int) + 1).toNat = j + 1 := by omega
    simp only [hj, h1, Bool.false_eq_true, if_false, h2, h3]
    simp
def Read (w : World) (l : List (List UInt8)) (e : Ending) (w' : World) : Prop := ∃ A n c, e = .returned (.slice A n c) ∧ n = l.length ∧ n ≤ c ∧ c ≤ maxLen ∧ Rds w' A n ((l.map strOf).map Value.string) ∧ Below w.heap.size w w'
theorem split_gen (b : UInt8) (f : List UInt8 → List (List UInt8)) (f0 : f [] = [[]]) (f1 : ∀ L, f (b :: L) = [] :: f L) (f2 : ∀ c L, c ≠ b → f (c :: L) = match f L with
  | [] => [[c]]
  | x :: r => (c :: x) :: r) (s : ByteArray) (w : World) (hs : s.size ≤ 1073741824) (hM : Max w) : Calls Tryz.prog 91 #[.string s, .string ⟨#[b]⟩] w (Read w (f s.data.toList)) := by
 obtain ⟨m, hm⟩ := hM
 refine (Tryz.strings_Split s ⟨#[b]⟩ m w (by omega) hm (Nat.le_refl _)).mono ?_
 rintro e w' ⟨rfl, rfl⟩
 have hd := Lib.splitB_data ⟨#[b]⟩ 0 (Lib.countB s ⟨#[b]⟩) s
 rw [show (⟨#[b]⟩ : ByteArray).data.toList = [b] from rfl, splitK_gen b f f0 f1 f2 _ _ (by rw [← Lib.count_one]; exact Nat.le_refl _)] at hd
 have hl := Lib.splitB_all ⟨#[b]⟩ (Nat.le_refl _) 0 _ s rfl
 have hc := Lib.countB_le ⟨#[b]⟩ (Nat.le_refl _) s.size s (Nat.le_refl _)
 generalize Lib.splitB ⟨#[b]⟩ 0 (Lib.countB s ⟨#[b]⟩) s = B at hd hl ⊢
 have hB : B = (f s.data.toList).map strOf := by
  rw [← hd, List.map_map]
  conv => lhs; rw [← List.map_id B]
  exact List.map_congr_left fun x _ => (strOf_toList x).symm
 unfold Read
 rw [← hB]
 refine ⟨_, _, _, rfl, by rw [← hl, hB, List.length_map], Nat.le_refl _, by unfold maxLen; omega, ?_, (Below.refl _ _).alloc (Nat.le_refl _) _⟩
 exact Rds.of_spot (by rw [List.length_map, hl]) (by simp) (fun j hj => by
  rw [Nat.zero_add, World.cell?_alloc_mark]
  simp)
end Go.Proofs.YtegpfgccaminkaaGreatDoor.Spl
namespace Go.Proofs.YtegpfgccaminkaaGreatDoor.SixC
open Go.RowKit Base Base2 Base3 UtfA Spl
theorem owns_other {w w' : World} {base gb : Nat} {e : TypeId} {size n : Nat} {v : Value} {xs : List Value} (h : w.ownsRow base e size v n xs) (ho : ∀ k, k ≠ gb → w'.heap[k]? = w.heap[k]?) (hg : gb < base) : w'.ownsRow base e size v n xs := by
 refine ⟨h.1, ?_⟩
 rcases h.2 with hn | ⟨g, cap, cur, rfl, hb, hh, rest⟩
 ·exact .inl hn
 ·exact .inr ⟨g, cap, cur, rfl, hb, (ho g (by omega)).trans hh, rest⟩
end Go.Proofs.YtegpfgccaminkaaGreatDoor.SixC
namespace Go.Proofs.YtegpfgccaminkaaGreatDoor.UtfL
open Go.RowKit Base
def low (c : UInt8) : UInt8 := if 65 ≤ c.toNat ∧ c.toNat ≤ 90 then c + 32 else c
def lower (l : List UInt8) : List UInt8 := l.map low
def lowTo (l : List UInt8) (k : Nat) : List UInt8 := (l.take k).map low ++ l.drop k
theorem length_lowTo (l : List UInt8) (k : Nat) : (lowTo l k).length = l.length := by simp [lowTo]; omega
theorem lowTo_get (l : List UInt8) (k : Nat) (h : k < l.length) : (lowTo l k)[k]'(by rw [length_lowTo]; exact h) = l[k] := by
 have : k ≤ l.length := by omega
 simp [lowTo, List.getElem_append, this, Nat.min_eq_left this]
theorem lowTo_succ (l : List UInt8) (k : Nat) (h : k < l.length) : lowTo l (k + 1) = (lowTo l k).set k (low l[k]) := by
 unfold lowTo
 apply List.ext_getElem
 ·simp; omega
 ·intro i h1 h2
  simp only [List.getElem_append, List.getElem_set, List.length_map, List.length_take, List.getElem_map, List.getElem_take, List.getElem_drop]
  by_cases a : i < k
  ·rw [dif_pos (by omega), if_neg (by omega), dif_pos (by omega)]
  ·by_cases b : i = k
   ·subst b
    rw [dif_pos (by omega), if_pos rfl]
   ·rw [dif_neg (by omega), if_neg (by omega), dif_neg (by omega)]
    congr 1
    omega
theorem lowTo_all (l : List UInt8) : lowTo l l.length = lower l := by simp [lowTo, lower]
theorem lowTo_zero (l : List UInt8) : lowTo l 0 = l := by simp [lowTo]
theorem low_yes (c : UInt8) (h1 : 65 ≤ (c.toNat : Int)) (h2 : (c.toNat : Int) ≤ 90) : ((low c).toNat : Int) = (c.toNat : Int) + 32 := by
 unfold low; rw [if_pos (by omega)]; simp [UInt8.toNat_add]; omega
theorem low_no (c : UInt8) (h : ¬ (65 ≤ (c.toNat : Int) ∧ (c.toNat : Int) ≤ 90)) : low c = c := by
 unfold low; rw [if_neg (by omega)]
theorem set_self {l : List UInt8} {k : Nat} (h : k < l.length) (c : UInt8) (e : l[k] = c) : l.set k c = l := by subst e; simp
theorem lower_any (s : ByteArray) (w : World) (hs : s.size ≤ maxLen) : Calls Tryz.prog 96 #[.string s] w fun e w' => e = .returned (.string (strOf (lower s.data.toList))) ∧ Below w.heap.size w w' := by
 unfold maxLen at hs
 have hcv := fun (w : World) s => run_bytes_of_string (P := Tryz.prog) w 9 39 5 s Tryz.underlying9 Tryz.underlying39 Tryz.underlying5
 have Hcap : Hid (s.size ≤ grownCap w s.size 0 5) := grownCap_ge w s.size 0 5
 go_enter Tryz.func96, Tryz.ntmps96
 go_wp2
 clear hcv
 go_loopw [4, 5, 10] (fun _ _ i wr => ∃ k : Nat, k ≤ s.size ∧ i = .int .i64 k ∧ ByteRow wr w.heap.size 5 (lowTo s.data.toList k) ∧ Below w.heap.size w wr) (fun _ _ i _ => s.size - (intOf i).toNat)
 case atStart => exact ⟨0, Nat.zero_le _, rfl, (by rw [lowTo_zero]; exact ByteRow.made w s 5 _ Hcap.out), ((Below.refl _ _).alloc (Nat.le_refl _) _).drew⟩
 case round =>
  obtain ⟨k, hk, rfl, hrow, hbel⟩ := hrel
  by_cases hlt : k < s.size
  ·obtain ⟨c, hcs⟩ : ∃ c : UInt8, c = s.data.toList[k] := ⟨_, rfl⟩
   have hc : wr.cell? ⟨w.heap.size, k, none⟩ = some (.int .u8 (c.toNat : Int)) := by
    rw [hcs, hrow.cell k (by rw [length_lowTo]; exact hlt)]
    simp only [lowTo_get s.data.toList k hlt]
   have hf := hrow.frozen k (by rw [length_lowTo]; exact hlt)
   have HC := hid hcs
   clear hcs
   have HR := hid hrow
   clear hrow
   by_cases hA : 65 ≤ (c.toNat : Int) ∧ (c.toNat : Int) ≤ 90
   ·obtain ⟨hA1, hA2⟩ := hA
    go_wp2
    go_roundw
    case rel => exact ⟨k + 1, by omega, by go_num, by
     have := HR.out.set k (low c)
     rw [low_yes c hA1 hA2] at this
     rw [lowTo_succ s.data.toList k hlt, ← HC.out]
     exact this, hbel.setCell (Nat.le_refl _) _⟩
    case measure => simp [intOf]; omega
   ·have hlow := low_no c hA
    have HL := hid hlow
    clear hlow
    go_wp2
    all_goals
     go_roundw
     case rel => exact ⟨k + 1, by omega, by go_num, by
      rw [lowTo_succ s.data.toList k hlt, ← HC.out, HL.out, set_self (by rw [length_lowTo]; exact hlt) c (by rw [lowTo_get _ _ hlt, HC.out])]
      exact HR.out, hbel⟩
     case measure => simp [intOf]; omega
  ·obtain rfl : k = s.size := by omega
   have hback := run_convert_bytes_back (P := Tryz.prog) wr 39 9 5 ⟨w.heap.size, 0, none⟩ (grownCap w s.size 0 5) (lowTo s.data.toList s.size) Tryz.underlying39 Tryz.underlying5 Tryz.underlying9 (fun j hj => by
    have := hrow.cell j hj
    rw [add_at]; exact this)
   rw [length_lowTo, show s.data.toList.length = s.size from Array.length_toList, show lowTo s.data.toList s.size = lower s.data.toList from lowTo_all _] at hback
   go_wp2
   go_ret
   exact ⟨rfl, hbel⟩
end Go.Proofs.YtegpfgccaminkaaGreatDoor.UtfL
namespace Go.Proofs.YtegpfgccaminkaaGreatDoor.RefA
open Go.RowKit Base UtfA UtfL
set_option maxRecDepth 100000 in
theorem lower_any (s : ByteArray) (w : World) (hs : s.size ≤ 1073741824) : Calls Tryz.prog 55 #[.string s] w fun e w' => e = .returned (.string (strOf (lower s.data.toList))) ∧ Below w.heap.size w w' := by
 obtain ⟨i0, hi, hz0, hz1, hz2⟩ := info_parts info_u8
 have hl : s.data.toList.length = s.size := Array.length_toList
 have HL := hid hl
 clear hl
 go_enter Tryz.func55, Tryz.ntmps55
 go_wp2
 go_loopw [3, 8] (fun v vk wr => ∃ k : Nat, k ≤ s.size ∧ vk = .int .i64 k ∧ wr.ownsRow w.heap.size 5 1 v k (bcells (lower (s.data.toList.take k))) ∧ Below w.heap.size w wr) (fun _ vk _ => s.size - (intOf vk).toNat)
 case atStart => exact ⟨0, Nat.zero_le _, rfl, World.ownsRow_nil _ _ _ _, Below.refl _ _⟩
 case round =>
  obtain ⟨k, hk, rfl, hown, hbel⟩ := hrel
  by_cases hlt : k < s.size
  ·obtain ⟨c, hc⟩ : ∃ c, s[k] = c := ⟨_, rfl⟩
   have HS : Hid (bcells (lower (s.data.toList.take (k + 1))) = bcells (lower (s.data.toList.take k)) ++ [.int .u8 ((low c).toNat : Int)]) := by
    rw [← hc, List.take_succ_eq_append_getElem (by rw [HL.out]; exact hlt)]
    simp [lower, bcells]
    rfl
   by_cases hA : 65 ≤ (c.toNat : Int) ∧ (c.toNat : Int) ≤ 90
   ·obtain ⟨hA1, hA2⟩ := hA
    have HC := hid (low_yes c hA1 hA2)
    go_wp2_with (at_builtin; refine wpList_append_own _ rfl _ _ 39 rfl w.heap.size 5 i0 (.int .u8 0) 1 1 Tryz.underlying39 hi hz0 hz1 hz2 rfl (by decide) _ _ _ rfl (hown.alloc _) ⟨wr.heap.size, 0, none⟩ 1 1 [.int .u8 ((c.toNat : Int) + 32)] rfl rfl ?c1 ?c2 ?c3 ?c4 ?c5 ?_)
    case c1 => exact cell_one_new _ _ _
    case c2 => intro u hu; simp at hu; subst hu; rfl
    case c3 => unfold maxLen; omega
    case c4 => omega
    case c5 => have := hbel.size; simp; omega
    intro v' w2 hown2 hg2 _
    have hbel2 : Below w.heap.size w w2 := (hbel.alloc hbel.size _).grown hg2 (by have := hbel.size; simp; omega) (fun g hg => (hown.lt g hg).1)
    clear hown hbel hg2
    go_wp2
    go_roundw
    case rel => exact ⟨k + 1, by omega, by go_num, by rw [HS.out, HC.out]; exact hown2, hbel2⟩
    case measure => simp [intOf]; omega
   ·have HC := hid (low_no c hA)
    go_wp2_with (at_builtin; refine wpList_append_own _ rfl _ _ 39 rfl w.heap.size 5 i0 (.int .u8 0) 1 1 Tryz.underlying39 hi hz0 hz1 hz2 rfl (by decide) _ _ _ rfl (hown.alloc _) ⟨wr.heap.size, 0, none⟩ 1 1 [.int .u8 (c.toNat : Int)] rfl rfl (cell_one_new _ _ _) (by intro u hu; simp at hu; subst hu; rfl) (by unfold maxLen; omega) (by omega) (by have := hbel.size; simp; omega) ?_)
    all_goals
     intro v' w2 hown2 hg2 _
     have hbel2 : Below w.heap.size w w2 := (hbel.alloc hbel.size _).grown hg2 (by have := hbel.size; simp; omega) (fun g hg => (hown.lt g hg).1)
     clear hown hbel hg2
     go_wp2
     go_roundw
     case rel => exact ⟨k + 1, by omega, by go_num, by rw [HS.out, HC.out]; exact hown2, hbel2⟩
     case measure => simp [intOf]; omega
  ·obtain rfl : k = s.size := by omega
   obtain ⟨A, c, rfl, _, _, hrd⟩ := owns_form hown
   have hst := run_string_of 39 9 5 Tryz.underlying39 Tryz.underlying5 Tryz.underlying9 _ c hrd
   have HE : Hid (s.data.toList.take s.size = s.data.toList) := by
    rw [← HL.out]; exact List.take_length
   rw [HE.out] at hst
   go_wp2
   go_ret
   exact ⟨rfl, hbel⟩
end Go.Proofs.YtegpfgccaminkaaGreatDoor.RefA
namespace Go.Proofs.YtegpfgccaminkaaGreatDoor.Tab
open Go.RowKit Base
def Pow (w : World) : Prop := Lib.TabIs Tryz.prog w "internal/strconv.uint64pow10" .u64 Lib.pow10Tab
theorem pow_global : Tryz.prog.globalNamed "internal/strconv.uint64pow10" = some 3 := by kernel_rfl
theorem pow_of {W : World} {l : List (String × DataW Unit)} (h : laidMet Tryz.prog l W) (hm : ("internal/strconv.uint64pow10", Lib.tabData .u64 Lib.pow10Tab) ∈ l) : Pow W := by
 obtain ⟨g', t', cs, fuel, p, hg', ht', hvar, hd⟩ := Lib.laidMet.reads h hm
 obtain rfl := Option.some.inj (pow_global.symm.trans hg')
 obtain rfl := Option.some.inj ((show (Tryz.prog.globals[3]?).map (·.type) = some 329 by kernel_rfl).symm.trans ht')
 show World.var? _ _ _ = _
 rw [hvar, ← Lib.cells_of_tab (k := .u64) (zs := Lib.pow10Tab) Tryz.underlying329 Tryz.underlying72 (by kernel_rfl) (by kernel_rfl) hd]
theorem Pow.below {w w' : World} (h : Pow w) (hb : Below w.heap.size w w') : Pow w' := Joins.tab_stays pow_global h hb (Nat.le_refl _)
theorem below_grow (w : World) (k : Nat) (os : Array Obj) : Below w.heap.size w (Sort.grow (w.drewN k) os) :=
 ⟨rfl, rfl, rfl, by rw [Sort.size_grow]; exact Nat.le_add_right _ _, fun g hg => by
  show (w.heap ++ os)[g]? = w.heap[g]?
  rw [Array.getElem?_append_left hg]⟩
end Go.Proofs.YtegpfgccaminkaaGreatDoor.Tab
namespace Go.Proofs.YtegpfgccaminkaaGreatDoor.EscI
open Go.RowKit Base
def P1 (c : Int) : Prop := c = 32 ∨ c = 34 ∨ c = 60 ∨ c = 62 ∨ c = 96
instance (c : Int) : Decidable (P1 c) := by unfold P1; exact inferInstance
def P2 (c : Int) : Prop := c = 32 ∨ c = 34 ∨ c = 35 ∨ c = 60 ∨ c = 62
instance (c : Int) : Decidable (P2 c) := by unfold P2; exact inferInstance
def P3 (c : Int) : Prop := c = 32 ∨ c = 34 ∨ c = 35 ∨ c = 60 ∨ c = 62 ∨ c = 39
instance (c : Int) : Decidable (P3 c) := by unfold P3; exact inferInstance
def P4 (c : Int) : Prop := c = 32 ∨ c = 34 ∨ c = 35 ∨ c = 60 ∨ c = 62 ∨ c = 63 ∨ c = 94 ∨ c = 96 ∨ c = 123 ∨ c = 125
instance (c : Int) : Decidable (P4 c) := by unfold P4; exact inferInstance
def P5 (c : Int) : Prop := c = 32 ∨ c = 34 ∨ c = 35 ∨ c = 60 ∨ c = 62 ∨ c = 63 ∨ c = 94 ∨ c = 96 ∨ c = 123 ∨ c = 125 ∨ c = 47 ∨ c = 58 ∨ c = 59 ∨ c = 61 ∨ c = 64 ∨ c = 91 ∨ c = 92 ∨ c = 93 ∨ c = 124
instance (c : Int) : Decidable (P5 c) := by unfold P5; exact inferInstance
def P6 (c : Int) : Prop := c = 32 ∨ c = 34 ∨ c = 35 ∨ c = 60 ∨ c = 62 ∨ c = 63 ∨ c = 94 ∨ c = 96 ∨ c = 123 ∨ c = 125 ∨ c = 47 ∨ c = 58 ∨ c = 59 ∨ c = 61 ∨ c = 64 ∨ c = 91 ∨ c = 92 ∨ c = 93 ∨ c = 124 ∨ c = 36 ∨ c = 37 ∨ c = 38 ∨ c = 43 ∨ c = 44
instance (c : Int) : Decidable (P6 c) := by unfold P6; exact inferInstance
def inS (k c : Int) : Bool := decide (0 ≤ k ∧ k ≤ 6 ∧ (c < 32 ∨ 126 < c ∨ k = 1 ∧ P1 c ∨ k = 2 ∧ P2 c ∨ k = 3 ∧ P3 c ∨ k = 4 ∧ P4 c ∨ k = 5 ∧ P5 c ∨ k = 6 ∧ P6 c))
def S : Int → List UInt8
 | 1 => [32, 34, 60, 62, 96]
 | 2 => [32, 34, 35, 60, 62]
 | 3 => [32, 34, 35, 60, 62, 39]
 | 4 => [32, 34, 35, 60, 62, 63, 94, 96, 123, 125]
 | 5 => [32, 34, 35, 60, 62, 63, 94, 96, 123, 125, 47, 58, 59, 61, 64, 91, 92, 93, 124]
 | 6 => [32, 34, 35, 60, 62, 63, 94, 96, 123, 125, 47, 58, 59, 61, 64, 91, 92, 93, 124, 36, 37, 38, 43, 44]
 | _ => []
theorem S_in (k : Int) (hk : 0 ≤ k ∧ k ≤ 6) (c : UInt8) (h1 : 32 ≤ (c.toNat : Int)) (h2 : (c.toNat : Int) ≤ 126) : decide (0 ≤ Lib.indexByte (S k) c) = inS k c.toNat := by
 obtain ⟨ha, hb⟩ := hk
 have hcase : k = 0 ∨ k = 1 ∨ k = 2 ∨ k = 3 ∨ k = 4 ∨ k = 5 ∨ k = 6 := by omega
 have H : ∀ n : Fin 256, (32 ≤ n.val ∧ n.val ≤ 126) → ∀ k : Fin 7, decide (0 ≤ Lib.indexByte (S (k.val : Int)) (UInt8.ofNat n.val)) = inS (k.val : Int) (n.val : Int) := by decide +kernel
 have hn := H ⟨c.toNat, c.toNat_lt⟩ ⟨by simp; omega, by simp; omega⟩ ⟨k.toNat, by omega⟩
 simpa [Int.toNat_of_nonneg ha] using hn
theorem inS_out (k : Int) (c : Int) (h : k < 0 ∨ 6 < k) : inS k c = false := by unfold inS; rw [decide_eq_false_iff_not]; omega
theorem inS_far (k : Int) (c : Int) (h1 : 0 ≤ k) (h2 : k ≤ 6) (h : c < 32 ∨ 126 < c) : inS k c = true := by unfold inS; rw [decide_eq_true_iff]; omega
theorem printable_any (k : Int) (w : World) (h0 : 0 ≤ k) (h1 : k ≤ 6) : Calls Tryz.prog 233 #[.int .i64 k] w fun e w' => e = .returned (.string (strOf (S k))) ∧ w = w' := by
 have hcase : k = 0 ∨ k = 1 ∨ k = 2 ∨ k = 3 ∨ k = 4 ∨ k = 5 ∨ k = 6 := by omega
 rcases hcase with rfl | rfl | rfl | rfl | rfl | rfl | rfl
 all_goals
  go_enter Tryz.func233, Tryz.ntmps233
  go_wp2
  go_ret
  exact ⟨rfl, rfl⟩
theorem in_any (k : Int) (c : UInt8) (w : World) : Calls Tryz.prog 187 #[.int .i64 k, .int .u8 (c.toNat : Int)] w fun e w' => e = .returned (.bool (inS k c.toNat)) ∧ w = w' := by
 by_cases ho : k < 0 ∨ 6 < k
 ·have HE := hid (inS_out k c.toNat ho)
  rcases ho with ho | ho
  all_goals
   go_enter Tryz.func187, Tryz.ntmps187
   go_wp2
   go_ret
   rw [HE.out]
   exact ⟨rfl, rfl⟩
 ·have h0 : 0 ≤ k := by omega
  have h1 : k ≤ 6 := by omega
  clear ho
  by_cases hf : (c.toNat : Int) < 32 ∨ 126 < (c.toNat : Int)
  ·have HE := hid (inS_far k c.toNat h0 h1 hf)
   rcases hf with hf | hf
   ·go_enter Tryz.func187, Tryz.ntmps187
    go_wp2
    go_ret
    rw [HE.out]
    exact ⟨rfl, rfl⟩
   ·have hg : ¬ (c.toNat : Int) < 32 := by omega
    go_enter Tryz.func187, Tryz.ntmps187
    go_wp2
    go_ret
    rw [HE.out]
    exact ⟨rfl, rfl⟩
  ·have h2 : 32 ≤ (c.toNat : Int) := by omega
   have h3 : (c.toNat : Int) ≤ 126 := by omega
   clear hf
   have HE := hid (S_in k ⟨h0, h1⟩ c h2 h3)
   go_enter Tryz.func187, Tryz.ntmps187
   go_wp2_with fail
   refine (printable_any k _ h0 h1).mono ?_
   rintro e w1 ⟨rfl, rfl⟩
   go_wp2_with fail
   refine (Tryz.strings_IndexByte _ _ _).mono ?_
   rintro e w1 ⟨rfl, rfl⟩
   rw [show (strOf (S k)).data.toList = S k from rfl, show ((c.toNat : Int).toNat).toUInt8 = c by simp]
   go_wp2_with fail
   go_ret
   exact ⟨ret_bool (by rw [← HE.out, decide_eq_false (show ¬ (c.toNat : Int) < 32 by omega), decide_eq_false (show ¬ 126 < (c.toNat : Int) by omega)]; simp), rfl⟩
end Go.Proofs.YtegpfgccaminkaaGreatDoor.EscI
namespace Go.Proofs.YtegpfgccaminkaaGreatDoor.EscE
open Go.RowKit Base EscI
def dig (n : Nat) : UInt8 := if n < 10 then UInt8.ofNat (48 + n) else UInt8.ofNat (55 + n)
def one (k : Int) (c : UInt8) : List UInt8 := if inS k c.toNat = true then [37, dig (c.toNat / 16), dig (c.toNat % 16)] else [c]
def enc (k : Int) (L : List UInt8) : List UInt8 := L.flatMap (one k)
theorem enc_snoc (k : Int) (L : List UInt8) (c : UInt8) : enc k (L ++ [c]) = enc k L ++ one k c := by simp [enc]
theorem one_len (k : Int) (c : UInt8) : 1 ≤ (one k c).length ∧ (one k c).length ≤ 3 := by unfold one; split <;> simp
theorem enc_len (k : Int) (L : List UInt8) : (enc k L).length ≤ 3 * L.length := by
 induction L with
 | nil => simp [enc]
 | cons c L ih =>
  have h := one_len k c
  have e : enc k (c :: L) = one k c ++ enc k L := by simp [enc]
  rw [e, List.length_append, List.length_cons]
  omega
theorem dig_at (k : Nat) (h : k < (⟨#[48, 49, 50, 51, 52, 53, 54, 55, 56, 57, 65, 66, 67, 68, 69, 70]⟩ : ByteArray).size) : (⟨#[48, 49, 50, 51, 52, 53, 54, 55, 56, 57, 65, 66, 67, 68, 69, 70]⟩ : ByteArray)[k]'h = dig k := by
 have h' : k < 16 := h
 have hcase : k = 0 ∨ k = 1 ∨ k = 2 ∨ k = 3 ∨ k = 4 ∨ k = 5 ∨ k = 6 ∨ k = 7 ∨ k = 8 ∨ k = 9 ∨ k = 10 ∨ k = 11 ∨ k = 12 ∨ k = 13 ∨ k = 14 ∨ k = 15 := by omega
 rcases hcase with rfl | rfl | rfl | rfl | rfl | rfl | rfl | rfl | rfl | rfl | rfl | rfl | rfl | rfl | rfl | rfl <;> rfl
theorem three_one (a b c : Int) : ∀ u ∈ [Value.int .u8 a, Value.int .u8 b, Value.int .u8 c], u.oneCell' = true := by
 intro u hu
 simp at hu
 rcases hu with rfl | rfl | rfl <;> rfl
attribute [local go_sem ↓] Go.wp_at_zero Go.wp_at_succ
set_option maxRecDepth 100000 in
theorem encode_any (k : Int) (A : Option Addr) (n cap : Nat) (L : List UInt8) (w : World) (h : Rds w A n (bcells L)) (hm : n ≤ 1073741824) :
  Calls Tryz.prog 120 #[.int .i64 k, .slice A n cap] w fun e w' => e = .returned (.string (strOf (enc k L))) ∧ Below w.heap.size w w' := by
 have hl : L.length = n := by rw [← length_bcells]; exact h.1
 have HL := hid hl
 clear hl
 obtain ⟨i0, hi, hz0, hz1, hz2⟩ := info_parts info_u8
 have HH := hid h
 clear h
 go_enter Tryz.func120, Tryz.ntmps120
 go_wp2_with (at_make; refine wpList_make_own _ rfl _ _ 39 rfl w.heap.size 5 i0 (.int .u8 0) 1 Tryz.underlying39 hi hz0 hz1 .i64 .i64 _ n rfl rfl rfl (by rw [hz2]; omega) (by unfold maxLen; omega) (Nat.le_refl _) ?_)
 intro w1 hown1 hg1
 have hbel1 : Below w.heap.size w w1 := (Below.refl _ _).grown hg1 (Nat.le_refl _) (by intro k h; cases h)
 clear hg1
 go_wp2
 go_loopw [5, 13] (fun v vk wr => ∃ (j : Nat), j ≤ n ∧ vk = .int .i64 j ∧ wr.ownsRow w.heap.size 5 1 v (enc k (L.take j)).length (bcells (enc k (L.take j))) ∧ Below w.heap.size w wr) (fun _ vk _ => n - (intOf vk).toNat)
 case atStart => exact ⟨0, Nat.zero_le _, rfl, hown1, hbel1⟩
 case round =>
  clear hown1 hbel1
  obtain ⟨j, hj, rfl, hown, hbel⟩ := hrel
  by_cases hlt : j < n
  ·obtain ⟨b, off, rfl, hb, _⟩ := (HH.out).spot (by omega)
   obtain ⟨c, hx⟩ : ∃ c, c = L[j]'(by rw [HL.out]; exact hlt) := ⟨_, rfl⟩
   have hcell : wr.cell? ⟨b, off + j, none⟩ = some (.int .u8 (c.toNat : Int)) := by
    rw [hx, ← HH.out.byte j (by rw [HL.out]; exact hlt)]
    exact hbel.cell (p := ⟨b, off + j, none⟩) hb
   have HS : Hid (L.take (j + 1) = L.take j ++ [c]) := by
    rw [hx]
    exact List.take_succ_eq_append_getElem (by rw [HL.out]; exact hlt)
   clear hx
   have hle := enc_len k (L.take j)
   have hle2 : (L.take j).length ≤ j := List.length_take_le _ _
   obtain ⟨m, hmm⟩ : ∃ m, m = (enc k (L.take j)).length := ⟨_, rfl⟩
   rw [← hmm] at hle hown
   have HM := hid hmm
   clear hmm
   have hc0 : (c.toNat : Int) < 256 := by have := c.toNat_lt; omega
   cases hin : inS k c.toNat
   ·have HI := hid hin
    clear hin
    go_wp2_with fail
    refine (in_any _ _ _).mono ?_
    rintro e w2 ⟨rfl, rfl⟩
    rw [HI.out]
    go_wp2_with (at_builtin; refine wpList_app rfl _ _ 39 rfl w.heap.size 5 i0 (.int .u8 0) 1 Tryz.underlying39 hi hz0 hz1 hz2 rfl _ m _ rfl hown hbel hbel.size [.int .u8 (c.toNat : Int)] 1 rfl rfl (by intro u hu; simp at hu; subst hu; rfl) (by unfold maxLen; omega) (by omega) ?_)
    intro v' w2 hown2 hbel2
    clear hown hbel
    go_wp2
    go_roundw
    case rel => exact ⟨j + 1, by omega, by go_num, by
      have e1 : one k c = [c] := by unfold one; rw [HI.out]; rfl
      rw [HS.out, enc_snoc, e1, List.length_append, bcells_append, ← HM.out]
      exact hown2, hbel2⟩
    case measure => simp [intOf]; omega
   ·have HI := hid hin
    clear hin
    go_wp2_with fail
    refine (in_any _ _ _).mono ?_
    rintro e w2 ⟨rfl, rfl⟩
    rw [HI.out]
    go_wp2
    have q1 : (0 : Int) ≤ (c.toNat : Int) / 16 := by omega
    have q2 : (c.toNat : Int) / 16 < 16 := by omega
    have q3 : (0 : Int) ≤ (c.toNat : Int) % 16 := by omega
    have q4 : (c.toNat : Int) % 16 < 16 := by omega
    have q5 := and15 c
    have q6 : ∀ h, (⟨#[48, 49, 50, 51, 52, 53, 54, 55, 56, 57, 65, 66, 67, 68, 69, 70]⟩ : ByteArray)[((c.toNat : Int) / 16).toNat]'h = dig (c.toNat / 16) := fun h => dig_at _ h
    have q7 : ∀ h, (⟨#[48, 49, 50, 51, 52, 53, 54, 55, 56, 57, 65, 66, 67, 68, 69, 70]⟩ : ByteArray)[((c.toNat : Int) % 16).toNat]'h = dig (c.toNat % 16) := fun h => dig_at _ h
    go_region_held3 (fun _ => True) (trivial) ((refine step_app (by rfl) _ _ 39 (by rfl) w.heap.size 5 i0 (.int .u8 0) 1 Tryz.underlying39 hi hz0 hz1 hz2 (by rfl) _ m _ (by rfl) hown hbel hbel.size [.int .u8 37, .int .u8 ((dig (c.toNat / 16)).toNat : Int), .int .u8 ((dig (c.toNat % 16)).toNat : Int)] 3 (by rfl) (by decide) (by rfl) (three_one _ _ _) (by unfold maxLen; omega) (by omega) ⟨(Below.refl _ _).drew, fun _ => rfl, by simp⟩ ?_; intro v' w2 hown2 hbel2))
    all_goals
     clear hown hbel q1 q2 q3 q4 q5 q6 q7
     go_wp2
     go_roundw
     case rel => exact ⟨j + 1, by omega, by go_num, by
       have e1 : one k c = [37, dig (c.toNat / 16), dig (c.toNat % 16)] := by unfold one; rw [if_pos HI.out]
       rw [HS.out, enc_snoc, e1, List.length_append, bcells_append, ← HM.out]
       exact hown2, hbel2⟩
     case measure => simp [intOf]; omega
  ·obtain rfl : j = n := by omega
   have HE : Hid (L.take j = L) := by
    rw [← HL.out]; exact List.take_length
   rw [HE.out] at hown
   obtain ⟨A', c', rfl, _, _, hrd⟩ := owns_form hown
   have hst := run_string_of 39 9 5 Tryz.underlying39 Tryz.underlying5 Tryz.underlying9 _ c' hrd
   go_wp2
   go_ret
   exact ⟨rfl, hbel⟩
end Go.Proofs.YtegpfgccaminkaaGreatDoor.EscE
namespace Go.Proofs.YtegpfgccaminkaaGreatDoor.UrlP
open Go.RowKit Base
def pth (l : List ByteArray) : List UInt8 := l.flatMap fun s => 47 :: s.data.toList
def pathL (b6 : Bool) (s7 : ByteArray) (l : List ByteArray) : List UInt8 := if b6 then s7.data.toList else pth l
def credL (s1 s2 : ByteArray) : List UInt8 := if s2.data.toList = [] then (if s1.data.toList = [] then [] else s1.data.toList ++ [64]) else s1.data.toList ++ [58] ++ s2.data.toList ++ [64]
def portL (z5 : Int) : List UInt8 := if z5 = -1 then [] else 58 :: Lib.itoa z5
def dotted (b6 : Bool) (l : List ByteArray) : Bool := !b6 && match l with
 | a :: _ :: _ => decide (a.data.toList = [])
 | _ => false
def midL (s1 s2 s3 : ByteArray) (b4 : Bool) (z5 : Int) (b6 : Bool) (l : List ByteArray) : List UInt8 :=
 if b4 then [47, 47] ++ credL s1 s2 ++ s3.data.toList ++ portL z5 else if dotted b6 l then [47, 46] else []
def bareL (s0 s1 s2 s3 : ByteArray) (b4 : Bool) (z5 : Int) (b6 : Bool) (s7 : ByteArray) (l : List ByteArray) (b9 : Bool) (s11 : ByteArray) : List UInt8 :=
 s0.data.toList ++ [58] ++ midL s1 s2 s3 b4 z5 b6 l ++ pathL b6 s7 l ++ (if b9 then 63 :: s11.data.toList else [])
def printL (s0 s1 s2 s3 : ByteArray) (b4 : Bool) (z5 : Int) (b6 : Bool) (s7 : ByteArray) (l : List ByteArray) (b9 b10 : Bool) (s11 s12 : ByteArray) : List UInt8 :=
 bareL s0 s1 s2 s3 b4 z5 b6 s7 l b9 s11 ++ (if b10 then 35 :: s12.data.toList else [])
theorem pth_snoc (l : List ByteArray) (s : ByteArray) : pth (l ++ [s]) = pth l ++ (47 :: s.data.toList) := by simp [pth]
theorem length_pth (l : List ByteArray) : (pth l).length = l.length + (l.map (·.size)).sum := by
 induction l with
 | nil => rfl
 | cons a l ih =>
  have e : pth (a :: l) = (47 :: a.data.toList) ++ pth l := rfl
  rw [e, List.length_append, ih]
  simp only [List.length_cons, List.map_cons, List.sum_cons]
  rw [show a.data.toList.length = a.size from Array.length_toList]
  omega
theorem take_snoc (l : List ByteArray) (k : Nat) (h : k < l.length) : l.take (k + 1) = l.take k ++ [l[k]] := by
 rw [List.take_succ_eq_append_getElem h]
theorem sum_take (l : List ByteArray) (k : Nat) : ((l.take k).map (·.size)).sum ≤ (l.map (·.size)).sum := by
 have h : l.map (·.size) = (l.take k).map (·.size) ++ (l.drop k).map (·.size) := by rw [← List.map_append, List.take_append_drop]
 rw [h, List.sum_append]
 omega
theorem sum_at (l : List ByteArray) (k : Nat) (h : k < l.length) : ((l.take (k + 1)).map (·.size)).sum = ((l.take k).map (·.size)).sum + l[k].size := by
 rw [take_snoc l k h, List.map_append, List.sum_append]
 simp
theorem length_strOf_data (L : List UInt8) : (strOf L).data.toList = L := rfl
theorem tl (s : ByteArray) : s.toList = s.data.toList := by
 obtain ⟨d⟩ := s; rw [ByteArray.toList_mk]
end Go.Proofs.YtegpfgccaminkaaGreatDoor.UrlP
namespace Go.Proofs.YtegpfgccaminkaaGreatDoor.UrlA
open Go.RowKit Base Base2 UrlP
def portOf (L : List UInt8) : Int := if L = [102, 116, 112] then 21 else if L = [104, 116, 116, 112] ∨ L = [119, 115] then 80 else if L = [104, 116, 116, 112, 115] ∨ L = [119, 115, 115] then 443 else -1
def special (L : List UInt8) : Bool := decide (L = [102, 105, 108, 101]) || decide (portOf L ≠ -1)
theorem sorts (L : List UInt8) : L = [102, 116, 112] ∨ L = [104, 116, 116, 112] ∨ L = [119, 115] ∨ L = [104, 116, 116, 112, 115] ∨ L = [119, 115, 115] ∨ L = [102, 105, 108, 101] ∨ (L ≠ [102, 116, 112] ∧ L ≠ [104, 116, 116, 112] ∧ L ≠ [119, 115] ∧ L ≠ [104, 116, 116, 112, 115] ∧ L ≠ [119, 115, 115] ∧ L ≠ [102, 105, 108, 101]) := by
 by_cases h1 : L = [102, 116, 112]
 ·exact .inl h1
 by_cases h2 : L = [104, 116, 116, 112]
 ·exact .inr (.inl h2)
 by_cases h3 : L = [119, 115]
 ·exact .inr (.inr (.inl h3))
 by_cases h4 : L = [104, 116, 116, 112, 115]
 ·exact .inr (.inr (.inr (.inl h4)))
 by_cases h5 : L = [119, 115, 115]
 ·exact .inr (.inr (.inr (.inr (.inl h5))))
 by_cases h6 : L = [102, 105, 108, 101]
 ·exact .inr (.inr (.inr (.inr (.inr (.inl h6)))))
 exact .inr (.inr (.inr (.inr (.inr (.inr ⟨h1, h2, h3, h4, h5, h6⟩)))))
theorem eq_of_list {s : ByteArray} {L : List UInt8} (h : s.data.toList = L) : s = ⟨L.toArray⟩ := by
 obtain ⟨d⟩ := s
 subst h
 rfl
theorem beq_of_ne {s : ByteArray} {L : List UInt8} (h : s.data.toList ≠ L) : (s.toList == L) = false := by
 rw [tl]; simpa using h
set_option maxHeartbeats 2000000 in
theorem default_any (s : ByteArray) (w : World) : Calls Tryz.prog 173 #[.string s] w fun e w' => e = .returned (.int .i64 (portOf s.data.toList)) ∧ w' = w := by
 rcases sorts s.data.toList with h | h | h | h | h | h | ⟨h1, h2, h3, h4, h5, h6⟩
 ·obtain rfl := eq_of_list h
  clear h
  go_enter Tryz.func173, Tryz.ntmps173
  go_wp2
  go_ret
  exact ⟨rfl, rfl⟩
 ·obtain rfl := eq_of_list h
  clear h
  go_enter Tryz.func173, Tryz.ntmps173
  go_wp2
  go_ret
  exact ⟨rfl, rfl⟩
 ·obtain rfl := eq_of_list h
  clear h
  go_enter Tryz.func173, Tryz.ntmps173
  go_wp2
  go_ret
  exact ⟨rfl, rfl⟩
 ·obtain rfl := eq_of_list h
  clear h
  go_enter Tryz.func173, Tryz.ntmps173
  go_wp2
  go_ret
  exact ⟨rfl, rfl⟩
 ·obtain rfl := eq_of_list h
  clear h
  go_enter Tryz.func173, Tryz.ntmps173
  go_wp2
  go_ret
  exact ⟨rfl, rfl⟩
 ·obtain rfl := eq_of_list h
  clear h
  go_enter Tryz.func173, Tryz.ntmps173
  go_wp2
  go_ret
  exact ⟨rfl, rfl⟩
 ·have HP : Hid (portOf s.data.toList = -1) := by
   unfold portOf
   show _ = _
   rw [if_neg h1, if_neg (by rintro (h | h); exact h2 h; exact h3 h), if_neg (by rintro (h | h); exact h4 h; exact h5 h)]
  have HS : Hid (special s.data.toList = false) := by
   unfold special
   show _ = _
   rw [HP.out]
   simpa using h6
  replace h1 := beq_of_ne h1
  replace h2 := beq_of_ne h2
  replace h3 := beq_of_ne h3
  replace h4 := beq_of_ne h4
  replace h5 := beq_of_ne h5
  replace h6 := beq_of_ne h6
  go_enter Tryz.func173, Tryz.ntmps173
  go_wp2
  go_ret
  exact ⟨ret_int HP.out.symm, rfl⟩
set_option maxHeartbeats 2000000 in
theorem special_any (s : ByteArray) (w : World) : Calls Tryz.prog 112 #[.string s] w fun e w' => e = .returned (.bool (special s.data.toList)) ∧ w' = w := by
 by_cases h : s.data.toList = [102, 105, 108, 101]
 ·obtain rfl := eq_of_list h
  clear h
  go_enter Tryz.func112, Tryz.ntmps112
  go_wp2
  go_ret
  exact ⟨rfl, rfl⟩
 ·obtain ⟨p, hp⟩ : ∃ p, p = portOf s.data.toList := ⟨_, rfl⟩
  have HS : Hid (special s.data.toList = decide (p ≠ -1)) := by
   unfold special
   show _ = _
   rw [← hp, decide_eq_false h]
   rfl
  have HP := hid hp
  replace h := beq_of_ne h
  clear hp
  go_enter Tryz.func112, Tryz.ntmps112
  go_wp2_with fail
  refine (default_any _ _).mono ?_
  rintro e w1 ⟨rfl, rfl⟩
  rw [← HP.out]
  by_cases e1 : p = -1
  ·subst e1
   go_wp2
   go_ret
   exact ⟨ret_bool HS.out.symm, rfl⟩
  ·have q1 : (p == -1) = false := by simpa using e1
   have q2 : (p != -1) = true := by simpa using e1
   have HE : Hid (decide (p ≠ -1) = true) := decide_eq_true e1
   clear e1
   go_wp2
   go_ret
   exact ⟨ret_bool (by rw [HS.out, HE.out]), rfl⟩
end Go.Proofs.YtegpfgccaminkaaGreatDoor.UrlA
