/- Texts that belong together: SplG, Spl, SixB, SixC, SixG, SixH, SixI, UtfL, RefA, SixD, SixE, SixF, SixL, QudA, QudB, QudC, QudD, QudE, QudF, Tab, QudG, QudH, QudI, EscI, EscE, EscR, EscD, HstP, PthP, PthA, PthB, PthC, PthD, PthE, PthF, PthG, PthH, PthI, PthJ, UrlP, UrlA, UtfR, UtfD, UtfE. -/
import Derived.Test.YthajldjmplfnaaaGreatDoorNAA
import Derived.Laws.OwnMore
import Derived.Test.YthajldjmplfnaaaGreatDoorShelf3
import Derived.Lib.SplitLaws
import Derived.Lib.IndexLaws
import Derived.Lib.LastIndexByte
import Derived.Lib.IndexMore
import Derived.Laws.BitsAllLaws
import Derived.Test.YthajldjmplfnaaaGreatDoorShelf
import Derived.Laws.Rows
import Derived.BigQuiet
import Derived.Laws.CopyOwn
import Derived.Lib.LaidU8
import Derived.Lib.LaidTab
import Derived.Lib.SmallJoins
import Derived.Sort.Grow
import Derived.Lib.ItoaNum
import Derived.Deep.QuietTactic
import Derived.Lib.RuneBytes
set_option linter.unusedSimpArgs false
set_option linter.unusedVariables false
namespace Go.Proofs.YthajldjmplfnaaaGreatDoor.Spl
open Go.RowKit Base Base2
def Max (w : World) : Prop := ∃ m, w.cell? ⟨0, 0, none⟩ = some (.int .i64 m)
theorem Max.below {w w' : World} (h : Max w) (hb : Below w.heap.size w w') : Max w' := by
 obtain ⟨m, hm⟩ := h
 exact ⟨m, (hb.cell (World.block_lt_of_cell? _ _ hm)).trans hm⟩
end Go.Proofs.YthajldjmplfnaaaGreatDoor.Spl
namespace Go.Proofs.YthajldjmplfnaaaGreatDoor.SixC
open Go.RowKit Base Base2 UtfA Spl
theorem owns_other {w w' : World} {base gb : Nat} {e : TypeId} {size n : Nat} {v : Value} {xs : List Value} (h : w.ownsRow base e size v n xs) (ho : ∀ k, k ≠ gb → w'.heap[k]? = w.heap[k]?) (hg : gb < base) : w'.ownsRow base e size v n xs := by
 refine ⟨h.1, ?_⟩
 rcases h.2 with hn | ⟨g, cap, cur, rfl, hb, hh, rest⟩
 ·exact .inl hn
 ·exact .inr ⟨g, cap, cur, rfl, hb, (ho g (by omega)).trans hh, rest⟩
end Go.Proofs.YthajldjmplfnaaaGreatDoor.SixC
namespace Go.Proofs.YthajldjmplfnaaaGreatDoor.UtfL
open Go.RowKit Base
def low (c : UInt8) : UInt8 := if 65 ≤ c.toNat ∧ c.toNat ≤ 90 then c + 32 else c
def lower (l : List UInt8) : List UInt8 := l.map low
def lowTo (l : List UInt8) (k : Nat) : List UInt8 := (l.take k).map low ++ l.drop k
theorem length_lowTo (l : List UInt8) (k : Nat) : (lowTo l k).length = l.length := by simp [lowTo]; omega
theorem lowTo_get (l : List UInt8) (k : Nat) (h : k < l.length) : (lowTo l k)[k]'(by rw [length_lowTo]; exact h) = l[k] := by
 have : k ≤ l.length := by omega
 simp [lowTo, List.getElem_append, this, Nat.min_eq_left this]
theorem lowTo_succ (l : List UInt8) (k : Nat) (h : k < l.length) : lowTo l (k + 1) = (lowTo l k).set k (low l[k]) := by
 unfold lowTo
 apply List.ext_getElem
 ·simp; omega
 ·intro i h1 h2
  simp only [List.getElem_append, List.getElem_set, List.length_map, List.length_take, List.getElem_map, List.getElem_take, List.getElem_drop]
  by_cases a : i < k
  ·rw [dif_pos (by omega), if_neg (by omega), dif_pos (by omega)]
  ·by_cases b : i = k
   ·subst b
    rw [dif_pos (by omega), if_pos rfl]
   ·rw [dif_neg (by omega), if_neg (by omega), dif_neg (by omega)]
    congr 1
    omega
theorem lowTo_all (l : List UInt8) : lowTo l l.length = lower l := by simp [lowTo, lower]
theorem lowTo_zero (l : List UInt8) : lowTo l 0 = l := by simp [lowTo]
theorem low_yes (c : UInt8) (h1 : 65 ≤ (c.toNat : Int)) (h2 : (c.toNat : Int) ≤ 90) : ((low c).toNat : Int) = (c.toNat : Int) + 32 := by
 unfold low; rw [if_pos (by omega)]; simp [UInt8.toNat_add]; omega
theorem low_no (c : UInt8) (h : ¬ (65 ≤ (c.toNat : Int) ∧ (c.toNat : Int) ≤ 90)) : low c = c := by
 unfold low; rw [if_neg (by omega)]
theorem set_self {l : List UInt8} {k : Nat} (h : k < l.length) (c : UInt8) (e : l[k] = c) : l.set k c = l := by subst e; simp
theorem lower_any (s : ByteArray) (w : World) (hs : s.size ≤ maxLen) : Calls Tryz.prog 109 #[.string s] w fun e w' => e = .returned (.string (strOf (lower s.data.toList))) ∧ Below w.heap.size w w' := by
 unfold maxLen at hs
 have hcv := fun (w : World) s => run_bytes_of_string (P := Tryz.prog) w 9 60 5 s Tryz.underlying9 Tryz.underlying60 Tryz.underlying5
 have Hcap : Hid (s.size ≤ grownCap w s.size 0 5) := grownCap_ge w s.size 0 5
 go_enter Tryz.func109, Tryz.ntmps109
 go_wp2
 clear hcv
 go_loopw [4, 5, 10] (fun _ _ i wr => ∃ k : Nat, k ≤ s.size ∧ i = .int .i64 k ∧ ByteRow wr w.heap.size 5 (lowTo s.data.toList k) ∧ Below w.heap.size w wr) (fun _ _ i _ => s.size - (intOf i).toNat)
 case atStart => exact ⟨0, Nat.zero_le _, rfl, (by rw [lowTo_zero]; exact ByteRow.made w s 5 _ Hcap.out), ((Below.refl _ _).alloc (Nat.le_refl _) _).drew⟩
 case round =>
  obtain ⟨k, hk, rfl, hrow, hbel⟩ := hrel
  by_cases hlt : k < s.size
  ·obtain ⟨c, hcs⟩ : ∃ c : UInt8, c = s.data.toList[k] := ⟨_, rfl⟩
   have hc : wr.cell? ⟨w.heap.size, k, none⟩ = some (.int .u8 (c.toNat : Int)) := by
    rw [hcs, hrow.cell k (by rw [length_lowTo]; exact hlt)]
    simp only [lowTo_get s.data.toList k hlt]
   have hf := hrow.frozen k (by rw [length_lowTo]; exact hlt)
   have HC := hid hcs
   clear hcs
   have HR := hid hrow
   clear hrow
   by_cases hA : 65 ≤ (c.toNat : Int) ∧ (c.toNat : Int) ≤ 90
   ·obtain ⟨hA1, hA2⟩ := hA
    go_wp2
    go_roundw
    case rel => exact ⟨k + 1, by omega, by go_num, by
     have := HR.out.set k (low c)
     rw [low_yes c hA1 hA2] at this
     rw [lowTo_succ s.data.toList k hlt, ← HC.out]
     exact this, hbel.setCell (Nat.le_refl _) _⟩
    case measure => simp [intOf]; omega
   ·have hlow := low_no c hA
    have HL := hid hlow
    clear hlow
    go_wp2
    all_goals
     go_roundw
     case rel => exact ⟨k + 1, by omega, by go_num, by
      rw [lowTo_succ s.data.toList k hlt, ← HC.out, HL.out, set_self (by rw [length_lowTo]; exact hlt) c (by rw [lowTo_get _ _ hlt, HC.out])]
      exact HR.out, hbel⟩
     case measure => simp [intOf]; omega
  ·obtain rfl : k = s.size := by omega
   have hback := run_convert_bytes_back (P := Tryz.prog) wr 60 9 5 ⟨w.heap.size, 0, none⟩ (grownCap w s.size 0 5) (lowTo s.data.toList s.size) Tryz.underlying60 Tryz.underlying5 Tryz.underlying9 (fun j hj => by
    have := hrow.cell j hj
    rw [add_at]; exact this)
   rw [length_lowTo, show s.data.toList.length = s.size from Array.length_toList, show lowTo s.data.toList s.size = lower s.data.toList from lowTo_all _] at hback
   go_wp2
   go_ret
   exact ⟨rfl, hbel⟩
end Go.Proofs.YthajldjmplfnaaaGreatDoor.UtfL
namespace Go.Proofs.YthajldjmplfnaaaGreatDoor.Tab
open Go.RowKit Base
def Pow (w : World) : Prop := Lib.TabIs Tryz.prog w "internal/strconv.uint64pow10" .u64 Lib.pow10Tab
theorem pow_global : Tryz.prog.globalNamed "internal/strconv.uint64pow10" = some 3 := by kernel_rfl
theorem pow_of {W : World} {l : List (String × DataW Unit)} (h : laidMet Tryz.prog l W) (hm : ("internal/strconv.uint64pow10", Lib.tabData .u64 Lib.pow10Tab) ∈ l) : Pow W := by
 obtain ⟨g', t', cs, fuel, p, hg', ht', hvar, hd⟩ := Lib.laidMet.reads h hm
 obtain rfl := Option.some.inj (pow_global.symm.trans hg')
 obtain rfl := Option.some.inj ((show (Tryz.prog.globals[3]?).map (·.type) = some 348 by kernel_rfl).symm.trans ht')
 show World.var? _ _ _ = _
 rw [hvar, ← Lib.cells_of_tab (k := .u64) (zs := Lib.pow10Tab) Tryz.underlying348 Tryz.underlying58 (by kernel_rfl) (by kernel_rfl) hd]
theorem Pow.below {w w' : World} (h : Pow w) (hb : Below w.heap.size w w') : Pow w' := Joins.tab_stays pow_global h hb (Nat.le_refl _)
theorem below_grow (w : World) (k : Nat) (os : Array Obj) : Below w.heap.size w (Sort.grow (w.drewN k) os) :=
 ⟨rfl, rfl, rfl, by rw [Sort.size_grow]; exact Nat.le_add_right _ _, fun g hg => by
  show (w.heap ++ os)[g]? = w.heap[g]?
  rw [Array.getElem?_append_left hg]⟩
end Go.Proofs.YthajldjmplfnaaaGreatDoor.Tab
namespace Go.Proofs.YthajldjmplfnaaaGreatDoor.EscI
open Go.RowKit Base
def P1 (c : Int) : Prop := c = 32 ∨ c = 34 ∨ c = 60 ∨ c = 62 ∨ c = 96
instance (c : Int) : Decidable (P1 c) := by unfold P1; exact inferInstance
def P2 (c : Int) : Prop := c = 32 ∨ c = 34 ∨ c = 35 ∨ c = 60 ∨ c = 62
instance (c : Int) : Decidable (P2 c) := by unfold P2; exact inferInstance
def P3 (c : Int) : Prop := c = 32 ∨ c = 34 ∨ c = 35 ∨ c = 60 ∨ c = 62 ∨ c = 39
instance (c : Int) : Decidable (P3 c) := by unfold P3; exact inferInstance
def P4 (c : Int) : Prop := c = 32 ∨ c = 34 ∨ c = 35 ∨ c = 60 ∨ c = 62 ∨ c = 63 ∨ c = 94 ∨ c = 96 ∨ c = 123 ∨ c = 125
instance (c : Int) : Decidable (P4 c) := by unfold P4; exact inferInstance
def P5 (c : Int) : Prop := c = 32 ∨ c = 34 ∨ c = 35 ∨ c = 60 ∨ c = 62 ∨ c = 63 ∨ c = 94 ∨ c = 96 ∨ c = 123 ∨ c = 125 ∨ c = 47 ∨ c = 58 ∨ c = 59 ∨ c = 61 ∨ c = 64 ∨ c = 91 ∨ c = 92 ∨ c = 93 ∨ c = 124
instance (c : Int) : Decidable (P5 c) := by unfold P5; exact inferInstance
def P6 (c : Int) : Prop := c = 32 ∨ c = 34 ∨ c = 35 ∨ c = 60 ∨ c = 62 ∨ c = 63 ∨ c = 94 ∨ c = 96 ∨ c = 123 ∨ c = 125 ∨ c = 47 ∨ c = 58 ∨ c = 59 ∨ c = 61 ∨ c = 64 ∨ c = 91 ∨ c = 92 ∨ c = 93 ∨ c = 124 ∨ c = 36 ∨ c = 37 ∨ c = 38 ∨ c = 43 ∨ c = 44
instance (c : Int) : Decidable (P6 c) := by unfold P6; exact inferInstance
def inS (k c : Int) : Bool := decide (0 ≤ k ∧ k ≤ 6 ∧ (c < 32 ∨ 126 < c ∨ k = 1 ∧ P1 c ∨ k = 2 ∧ P2 c ∨ k = 3 ∧ P3 c ∨ k = 4 ∧ P4 c ∨ k = 5 ∧ P5 c ∨ k = 6 ∧ P6 c))
def S : Int → List UInt8
 | 1 => [32, 34, 60, 62, 96]
 | 2 => [32, 34, 35, 60, 62]
 | 3 => [32, 34, 35, 60, 62, 39]
 | 4 => [32, 34, 35, 60, 62, 63, 94, 96, 123, 125]
 | 5 => [32, 34, 35, 60, 62, 63, 94, 96, 123, 125, 47, 58, 59, 61, 64, 91, 92, 93, 124]
 | 6 => [32, 34, 35, 60, 62, 63, 94, 96, 123, 125, 47, 58, 59, 61, 64, 91, 92, 93, 124, 36, 37, 38, 43, 44]
 | _ => []
theorem S_in (k : Int) (hk : 0 ≤ k ∧ k ≤ 6) (c : UInt8) (h1 : 32 ≤ (c.toNat : Int)) (h2 : (c.toNat : Int) ≤ 126) : decide (0 ≤ Lib.indexByte (S k) c) = inS k c.toNat := by
 obtain ⟨ha, hb⟩ := hk
 have hcase : k = 0 ∨ k = 1 ∨ k = 2 ∨ k = 3 ∨ k = 4 ∨ k = 5 ∨ k = 6 := by omega
 have H : ∀ n : Fin 256, (32 ≤ n.val ∧ n.val ≤ 126) → ∀ k : Fin 7, decide (0 ≤ Lib.indexByte (S (k.val : Int)) (UInt8.ofNat n.val)) = inS (k.val : Int) (n.val : Int) := by decide +kernel
 have hn := H ⟨c.toNat, c.toNat_lt⟩ ⟨by simp; omega, by simp; omega⟩ ⟨k.toNat, by omega⟩
 simpa [Int.toNat_of_nonneg ha] using hn
theorem inS_out (k : Int) (c : Int) (h : k < 0 ∨ 6 < k) : inS k c = false := by unfold inS; rw [decide_eq_false_iff_not]; omega
theorem inS_far (k : Int) (c : Int) (h1 : 0 ≤ k) (h2 : k ≤ 6) (h : c < 32 ∨ 126 < c) : inS k c = true := by unfold inS; rw [decide_eq_true_iff]; omega
theorem printable_any (k : Int) (w : World) (h0 : 0 ≤ k) (h1 : k ≤ 6) : Calls Tryz.prog 251 #[.int .i64 k] w fun e w' => e = .returned (.string (strOf (S k))) ∧ w = w' := by
 have hcase : k = 0 ∨ k = 1 ∨ k = 2 ∨ k = 3 ∨ k = 4 ∨ k = 5 ∨ k = 6 := by omega
 rcases hcase with rfl | rfl | rfl | rfl | rfl | rfl | rfl
 all_goals
  go_enter Tryz.func251, Tryz.ntmps251
  go_wp2
  go_ret
  exact ⟨rfl, rfl⟩
theorem in_any (k : Int) (c : UInt8) (w : World) : Calls Tryz.prog 203 #[.int .i64 k, .int .u8 (c.toNat : Int)] w fun e w' => e = .returned (.bool (inS k c.toNat)) ∧ w = w' := by
 by_cases ho : k < 0 ∨ 6 < k
 ·have HE := hid (inS_out k c.toNat ho)
  rcases ho with ho | ho
  all_goals
   go_enter Tryz.func203, Tryz.ntmps203
   go_wp2
   go_ret
   rw [HE.out]
   exact ⟨rfl, rfl⟩
 ·have h0 : 0 ≤ k := by omega
  have h1 : k ≤ 6 := by omega
  clear ho
  by_cases hf : (c.toNat : Int) < 32 ∨ 126 < (c.toNat : Int)
  ·have HE := hid (inS_far k c.toNat h0 h1 hf)
   rcases hf with hf | hf
   ·go_enter Tryz.func203, Tryz.ntmps203
    go_wp2
    go_ret
    rw [HE.out]
    exact ⟨rfl, rfl⟩
   ·have hg : ¬ (c.toNat : Int) < 32 := by omega
    go_enter Tryz.func203, Tryz.ntmps203
    go_wp2
    go_ret
    rw [HE.out]
    exact ⟨rfl, rfl⟩
  ·have h2 : 32 ≤ (c.toNat : Int) := by omega
   have h3 : (c.toNat : Int) ≤ 126 := by omega
   clear hf
   have HE := hid (S_in k ⟨h0, h1⟩ c h2 h3)
   go_enter Tryz.func203, Tryz.ntmps203
   go_wp2_with fail
   refine (printable_any k _ h0 h1).mono ?_
   rintro e w1 ⟨rfl, rfl⟩
   go_wp2_with fail
   refine (Tryz.strings_IndexByte _ _ _).mono ?_
   rintro e w1 ⟨rfl, rfl⟩
   rw [show (strOf (S k)).data.toList = S k from rfl, show ((c.toNat : Int).toNat).toUInt8 = c by simp]
   go_wp2_with fail
   go_ret
   exact ⟨ret_bool (by rw [← HE.out, decide_eq_false (show ¬ (c.toNat : Int) < 32 by omega), decide_eq_false (show ¬ 126 < (c.toNat : Int) by omega)]; simp), rfl⟩
end Go.Proofs.YthajldjmplfnaaaGreatDoor.EscI
namespace Go.Proofs.YthajldjmplfnaaaGreatDoor.EscE
open Go.RowKit Base EscI
def dig (n : Nat) : UInt8 := if n < 10 then UInt8.ofNat (48 + n) else UInt8.ofNat (55 + n)
def one (k : Int) (c : UInt8) : List UInt8 := if inS k c.toNat = true then [37, dig (c.toNat / 16), dig (c.toNat % 16)] else [c]
def enc (k : Int) (L : List UInt8) : List UInt8 := L.flatMap (one k)
theorem enc_snoc (k : Int) (L : List UInt8) (c : UInt8) : enc k (L ++ [c]) = enc k L ++ one k c := by simp [enc]
theorem one_len (k : Int) (c : UInt8) : 1 ≤ (one k c).length ∧ (one k c).length ≤ 3 := by unfold one; split <;> simp
theorem enc_len (k : Int) (L : List UInt8) : (enc k L).length ≤ 3 * L.length := by
 induction L with
 | nil => simp [enc]
 | cons c L ih =>
  have h := one_len k c
  have e : enc k (c :: L) = one k c ++ enc k L := by simp [enc]
  rw [e, List.length_append, List.length_cons]
  omega
theorem dig_at (k : Nat) (h : k < (⟨#[48, 49, 50, 51, 52, 53, 54, 55, 56, 57, 65, 66, 67, 68, 69, 70]⟩ : ByteArray).size) : (⟨#[48, 49, 50, 51, 52, 53, 54, 55, 56, 57, 65, 66, 67, 68, 69, 70]⟩ : ByteArray)[k]'h = dig k := by
 have h' : k < 16 := h
 have hcase : k = 0 ∨ k = 1 ∨ k = 2 ∨ k = 3 ∨ k = 4 ∨ k = 5 ∨ k = 6 ∨ k = 7 ∨ k = 8 ∨ k = 9 ∨ k = 10 ∨ k = 11 ∨ k = 12 ∨ k = 13 ∨ k = 14 ∨ k = 15 := by omega
 rcases hcase with rfl | rfl | rfl | rfl | rfl | rfl | rfl | rfl | rfl | rfl | rfl | rfl | rfl | rfl | rfl | rfl <;> rfl
theorem three_one (a b c : Int) : ∀ u ∈ [Value.int .u8 a, Value.int .u8 b, Value.int .u8 c], u.oneCell' = true := by
 intro u hu
 simp at hu
 rcases hu with rfl | rfl | rfl <;> rfl
attribute [local go_sem ↓] Go.wp_at_zero Go.wp_at_succ
set_option maxRecDepth 100000 in
theorem encode_any (k : Int) (A : Option Addr) (n cap : Nat) (L : List UInt8) (w : World) (h : Rds w A n (bcells L)) (hm : n ≤ 1073741824) :
  Calls Tryz.prog 125 #[.int .i64 k, .slice A n cap] w fun e w' => e = .returned (.string (strOf (enc k L))) ∧ Below w.heap.size w w' := by
 have hl : L.length = n := by rw [← length_bcells]; exact h.1
 have HL := hid hl
 clear hl
 obtain ⟨i0, hi, hz0, hz1, hz2⟩ := info_parts info_u8
 have HH := hid h
 clear h
 go_enter Tryz.func125, Tryz.ntmps125
 go_wp2_with (at_make; refine wpList_make_own _ rfl _ _ 60 rfl w.heap.size 5 i0 (.int .u8 0) 1 Tryz.underlying60 hi hz0 hz1 .i64 .i64 _ n rfl rfl rfl (by rw [hz2]; omega) (by unfold maxLen; omega) (Nat.le_refl _) ?_)
 intro w1 hown1 hg1
 have hbel1 : Below w.heap.size w w1 := (Below.refl _ _).grown hg1 (Nat.le_refl _) (by intro k h; cases h)
 clear hg1
 go_wp2
 go_loopw [5, 13] (fun v vk wr => ∃ (j : Nat), j ≤ n ∧ vk = .int .i64 j ∧ wr.ownsRow w.heap.size 5 1 v (enc k (L.take j)).length (bcells (enc k (L.take j))) ∧ Below w.heap.size w wr) (fun _ vk _ => n - (intOf vk).toNat)
 case atStart => exact ⟨0, Nat.zero_le _, rfl, hown1, hbel1⟩
 case round =>
  clear hown1 hbel1
  obtain ⟨j, hj, rfl, hown, hbel⟩ := hrel
  by_cases hlt : j < n
  ·obtain ⟨b, off, rfl, hb, _⟩ := (HH.out).spot (by omega)
   obtain ⟨c, hx⟩ : ∃ c, c = L[j]'(by rw [HL.out]; exact hlt) := ⟨_, rfl⟩
   have hcell : wr.cell? ⟨b, off + j, none⟩ = some (.int .u8 (c.toNat : Int)) := by
    rw [hx, ← HH.out.byte j (by rw [HL.out]; exact hlt)]
    exact hbel.cell (p := ⟨b, off + j, none⟩) hb
   have HS : Hid (L.take (j + 1) = L.take j ++ [c]) := by
    rw [hx]
    exact List.take_succ_eq_append_getElem (by rw [HL.out]; exact hlt)
   clear hx
   have hle := enc_len k (L.take j)
   have hle2 : (L.take j).length ≤ j := List.length_take_le _ _
   obtain ⟨m, hmm⟩ : ∃ m, m = (enc k (L.take j)).length := ⟨_, rfl⟩
   rw [← hmm] at hle hown
   have HM := hid hmm
   clear hmm
   have hc0 : (c.toNat : Int) < 256 := by have := c.toNat_lt; omega
   cases hin : inS k c.toNat
   ·have HI := hid hin
    clear hin
    go_wp2_with fail
    refine (in_any _ _ _).mono ?_
    rintro e w2 ⟨rfl, rfl⟩
    rw [HI.out]
    go_wp2_with (at_builtin; refine wpList_app rfl _ _ 60 rfl w.heap.size 5 i0 (.int .u8 0) 1 Tryz.underlying60 hi hz0 hz1 hz2 rfl _ m _ rfl hown hbel hbel.size [.int .u8 (c.toNat : Int)] 1 rfl rfl (by intro u hu; simp at hu; subst hu; rfl) (by unfold maxLen; omega) (by omega) ?_)
    intro v' w2 hown2 hbel2
    clear hown hbel
    go_wp2
    go_roundw
    case rel => exact ⟨j + 1, by omega, by go_num, by
      have e1 : one k c = [c] := by unfold one; rw [HI.out]; rfl
      rw [HS.out, enc_snoc, e1, List.length_append, bcells_append, ← HM.out]
      exact hown2, hbel2⟩
    case measure => simp [intOf]; omega
   ·have HI := hid hin
    clear hin
    go_wp2_with fail
    refine (in_any _ _ _).mono ?_
    rintro e w2 ⟨rfl, rfl⟩
    rw [HI.out]
    go_wp2
    have q1 : (0 : Int) ≤ (c.toNat : Int) / 16 := by omega
    have q2 : (c.toNat : Int) / 16 < 16 := by omega
    have q3 : (0 : Int) ≤ (c.toNat : Int) % 16 := by omega
    have q4 : (c.toNat : Int) % 16 < 16 := by omega
    have q5 := and15 c
    have q6 : ∀ h, (⟨#[48, 49, 50, 51, 52, 53, 54, 55, 56, 57, 65, 66, 67, 68, 69, 70]⟩ : ByteArray)[((c.toNat : Int) / 16).toNat]'h = dig (c.toNat / 16) := fun h => dig_at _ h
    have q7 : ∀ h, (⟨#[48, 49, 50, 51, 52, 53, 54, 55, 56, 57, 65, 66, 67, 68, 69, 70]⟩ : ByteArray)[((c.toNat : Int) % 16).toNat]'h = dig (c.toNat % 16) := fun h => dig_at _ h
    go_region_held3 (fun _ => True) (trivial) ((refine step_app (by rfl) _ _ 60 (by rfl) w.heap.size 5 i0 (.int .u8 0) 1 Tryz.underlying60 hi hz0 hz1 hz2 (by rfl) _ m _ (by rfl) hown hbel hbel.size [.int .u8 37, .int .u8 ((dig (c.toNat / 16)).toNat : Int), .int .u8 ((dig (c.toNat % 16)).toNat : Int)] 3 (by rfl) (by decide) (by rfl) (three_one _ _ _) (by unfold maxLen; omega) (by omega) ⟨(Below.refl _ _).drew, fun _ => rfl, by simp⟩ ?_; intro v' w2 hown2 hbel2))
    all_goals
     clear hown hbel q1 q2 q3 q4 q5 q6 q7
     go_wp2
     go_roundw
     case rel => exact ⟨j + 1, by omega, by go_num, by
       have e1 : one k c = [37, dig (c.toNat / 16), dig (c.toNat % 16)] := by unfold one; rw [if_pos HI.out]
       rw [HS.out, enc_snoc, e1, List.length_append, bcells_append, ← HM.out]
       exact hown2, hbel2⟩
     case measure => simp [intOf]; omega
  ·obtain rfl : j = n := by omega
   have HE : Hid (L.take j = L) := by
    rw [← HL.out]; exact List.take_length
   rw [HE.out] at hown
   obtain ⟨A', c', rfl, _, _, hrd⟩ := owns_form hown
   have hst := run_string_of 60 9 5 Tryz.underlying60 Tryz.underlying5 Tryz.underlying9 _ c' hrd
   go_wp2
   go_ret
   exact ⟨rfl, hbel⟩
end Go.Proofs.YthajldjmplfnaaaGreatDoor.EscE
namespace Go.Proofs.YthajldjmplfnaaaGreatDoor.UrlP
open Go.RowKit Base
def pth (l : List ByteArray) : List UInt8 := l.flatMap fun s => 47 :: s.data.toList
def pathL (b6 : Bool) (s7 : ByteArray) (l : List ByteArray) : List UInt8 := if b6 then s7.data.toList else pth l
def credL (s1 s2 : ByteArray) : List UInt8 := if s2.data.toList = [] then (if s1.data.toList = [] then [] else s1.data.toList ++ [64]) else s1.data.toList ++ [58] ++ s2.data.toList ++ [64]
def portL (z5 : Int) : List UInt8 := if z5 = -1 then [] else 58 :: Lib.itoa z5
def dotted (b6 : Bool) (l : List ByteArray) : Bool := !b6 && match l with
 | a :: _ :: _ => decide (a.data.toList = [])
 | _ => false
def midL (s1 s2 s3 : ByteArray) (b4 : Bool) (z5 : Int) (b6 : Bool) (l : List ByteArray) : List UInt8 :=
 if b4 then [47, 47] ++ credL s1 s2 ++ s3.data.toList ++ portL z5 else if dotted b6 l then [47, 46] else []
def bareL (s0 s1 s2 s3 : ByteArray) (b4 : Bool) (z5 : Int) (b6 : Bool) (s7 : ByteArray) (l : List ByteArray) (b9 : Bool) (s11 : ByteArray) : List UInt8 :=
 s0.data.toList ++ [58] ++ midL s1 s2 s3 b4 z5 b6 l ++ pathL b6 s7 l ++ (if b9 then 63 :: s11.data.toList else [])
theorem pth_snoc (l : List ByteArray) (s : ByteArray) : pth (l ++ [s]) = pth l ++ (47 :: s.data.toList) := by simp [pth]
theorem length_pth (l : List ByteArray) : (pth l).length = l.length + (l.map (·.size)).sum := by
 induction l with
 | nil => rfl
 | cons a l ih =>
  have e : pth (a :: l) = (47 :: a.data.toList) ++ pth l := rfl
  rw [e, List.length_append, ih]
  simp only [List.length_cons, List.map_cons, List.sum_cons]
  rw [show a.data.toList.length = a.size from Array.length_toList]
  omega
theorem take_snoc (l : List ByteArray) (k : Nat) (h : k < l.length) : l.take (k + 1) = l.take k ++ [l[k]] := by
 rw [List.take_succ_eq_append_getElem h]
theorem sum_take (l : List ByteArray) (k : Nat) : ((l.take k).map (·.size)).sum ≤ (l.map (·.size)).sum := by
 have h : l.map (·.size) = (l.take k).map (·.size) ++ (l.drop k).map (·.size) := by rw [← List.map_append, List.take_append_drop]
 rw [h, List.sum_append]
 omega
theorem sum_at (l : List ByteArray) (k : Nat) (h : k < l.length) : ((l.take (k + 1)).map (·.size)).sum = ((l.take k).map (·.size)).sum + l[k].size := by
 rw [take_snoc l k h, List.map_append, List.sum_append]
 simp
theorem length_strOf_data (L : List UInt8) : (strOf L).data.toList = L := rfl
theorem tl (s : ByteArray) : s.toList = s.data.toList := by
 obtain ⟨d⟩ := s; rw [ByteArray.toList_mk]
end Go.Proofs.YthajldjmplfnaaaGreatDoor.UrlP
namespace Go.Proofs.YthajldjmplfnaaaGreatDoor.UrlA
open Go.RowKit Base Base2 UrlP
def portOf (L : List UInt8) : Int := if L = [102, 116, 112] then 21 else if L = [104, 116, 116, 112] ∨ L = [119, 115] then 80 else if L = [104, 116, 116, 112, 115] ∨ L = [119, 115, 115] then 443 else -1
def special (L : List UInt8) : Bool := decide (L = [102, 105, 108, 101]) || decide (portOf L ≠ -1)
theorem sorts (L : List UInt8) : L = [102, 116, 112] ∨ L = [104, 116, 116, 112] ∨ L = [119, 115] ∨ L = [104, 116, 116, 112, 115] ∨ L = [119, 115, 115] ∨ L = [102, 105, 108, 101] ∨ (L ≠ [102, 116, 112] ∧ L ≠ [104, 116, 116, 112] ∧ L ≠ [119, 115] ∧ L ≠ [104, 116, 116, 112, 115] ∧ L ≠ [119, 115, 115] ∧ L ≠ [102, 105, 108, 101]) := by
 by_cases h1 : L = [102, 116, 112]
 ·exact .inl h1
 by_cases h2 : L = [104, 116, 116, 112]
 ·exact .inr (.inl h2)
 by_cases h3 : L = [119, 115]
 ·exact .inr (.inr (.inl h3))
 by_cases h4 : L = [104, 116, 116, 112, 115]
 ·exact .inr (.inr (.inr (.inl h4)))
 by_cases h5 : L = [119, 115, 115]
 ·exact .inr (.inr (.inr (.inr (.inl h5))))
 by_cases h6 : L = [102, 105, 108, 101]
 ·exact .inr (.inr (.inr (.inr (.inr (.inl h6)))))
 exact .inr (.inr (.inr (.inr (.inr (.inr ⟨h1, h2, h3, h4, h5, h6⟩)))))
theorem eq_of_list {s : ByteArray} {L : List UInt8} (h : s.data.toList = L) : s = ⟨L.toArray⟩ := by
 obtain ⟨d⟩ := s
 subst h
 rfl
theorem beq_of_ne {s : ByteArray} {L : List UInt8} (h : s.data.toList ≠ L) : (s.toList == L) = false := by
 rw [tl]; simpa using h
set_option maxHeartbeats 2000000 in
theorem default_any (s : ByteArray) (w : World) : Calls Tryz.prog 194 #[.string s] w fun e w' => e = .returned (.int .i64 (portOf s.data.toList)) ∧ w' = w := by
 rcases sorts s.data.toList with h | h | h | h | h | h | ⟨h1, h2, h3, h4, h5, h6⟩
 ·obtain rfl := eq_of_list h
  clear h
  go_enter Tryz.func194, Tryz.ntmps194
  go_wp2
  go_ret
  exact ⟨rfl, rfl⟩
 ·obtain rfl := eq_of_list h
  clear h
  go_enter Tryz.func194, Tryz.ntmps194
  go_wp2
  go_ret
  exact ⟨rfl, rfl⟩
 ·obtain rfl := eq_of_list h
  clear h
  go_enter Tryz.func194, Tryz.ntmps194
  go_wp2
  go_ret
  exact ⟨rfl, rfl⟩
 ·obtain rfl := eq_of_list h
  clear h
  go_enter Tryz.func194, Tryz.ntmps194
  go_wp2
  go_ret
  exact ⟨rfl, rfl⟩
 ·obtain rfl := eq_of_list h
  clear h
  go_enter Tryz.func194, Tryz.ntmps194
  go_wp2
  go_ret
  exact ⟨rfl, rfl⟩
 ·obtain rfl := eq_of_list h
  clear h
  go_enter Tryz.func194, Tryz.ntmps194
  go_wp2
  go_ret
  exact ⟨rfl, rfl⟩
 ·have HP : Hid (portOf s.data.toList = -1) := by
   unfold portOf
   show _ = _
   rw [if_neg h1, if_neg (by rintro (h | h); exact h2 h; exact h3 h), if_neg (by rintro (h | h); exact h4 h; exact h5 h)]
  have HS : Hid (special s.data.toList = false) := by
   unfold special
   show _ = _
   rw [HP.out]
   simpa using h6
  replace h1 := beq_of_ne h1
  replace h2 := beq_of_ne h2
  replace h3 := beq_of_ne h3
  replace h4 := beq_of_ne h4
  replace h5 := beq_of_ne h5
  replace h6 := beq_of_ne h6
  go_enter Tryz.func194, Tryz.ntmps194
  go_wp2
  go_ret
  exact ⟨ret_int HP.out.symm, rfl⟩
set_option maxHeartbeats 2000000 in
theorem special_any (s : ByteArray) (w : World) : Calls Tryz.prog 117 #[.string s] w fun e w' => e = .returned (.bool (special s.data.toList)) ∧ w' = w := by
 by_cases h : s.data.toList = [102, 105, 108, 101]
 ·obtain rfl := eq_of_list h
  clear h
  go_enter Tryz.func117, Tryz.ntmps117
  go_wp2
  go_ret
  exact ⟨rfl, rfl⟩
 ·obtain ⟨p, hp⟩ : ∃ p, p = portOf s.data.toList := ⟨_, rfl⟩
  have HS : Hid (special s.data.toList = decide (p ≠ -1)) := by
   unfold special
   show _ = _
   rw [← hp, decide_eq_false h]
   rfl
  have HP := hid hp
  replace h := beq_of_ne h
  clear hp
  go_enter Tryz.func117, Tryz.ntmps117
  go_wp2_with fail
  refine (default_any _ _).mono ?_
  rintro e w1 ⟨rfl, rfl⟩
  rw [← HP.out]
  by_cases e1 : p = -1
  ·subst e1
   go_wp2
   go_ret
   exact ⟨ret_bool HS.out.symm, rfl⟩
  ·have q1 : (p == -1) = false := by simpa using e1
   have q2 : (p != -1) = true := by simpa using e1
   have HE : Hid (decide (p ≠ -1) = true) := decide_eq_true e1
   clear e1
   go_wp2
   go_ret
   exact ⟨ret_bool (by rw [HS.out, HE.out]), rfl⟩
end Go.Proofs.YthajldjmplfnaaaGreatDoor.UrlA
namespace Go.Proofs.YthajldjmplfnaaaGreatDoor.UtfR
open Go.RowKit Base
def size (c : Int) : Int := if c ≤ 127 then 1 else if 194 ≤ c ∧ c ≤ 223 then 2 else if 224 ≤ c ∧ c ≤ 239 then 3 else if 240 ≤ c ∧ c ≤ 244 then 4 else 0
def lo (c : Int) : Int := if c ≤ 193 ∨ 245 ≤ c then 0 else if c = 224 then 160 else if c = 240 then 144 else 128
def hi (c : Int) : Int := if c ≤ 193 ∨ 245 ≤ c then 0 else if c = 237 then 159 else if c = 244 then 143 else 191
theorem lead_any (c : Int) (w : World) : Calls Tryz.prog 239 #[.int .u8 c] w fun e w' => e = .returned (.tuple #[.int .i64 (size c), .int .u8 (lo c), .int .u8 (hi c)]) ∧ w = w' := by
 go_enter Tryz.func239, Tryz.ntmps239
 go_wp2
 all_goals
  try simp only [beq_iff_eq, beq_eq_false_iff_ne, ne_eq] at *
  go_ret3
  exact ⟨ret3 (int_eq (by unfold size; (repeat' split) <;> omega)) (int_eq (by unfold lo; (repeat' split) <;> omega)) (int_eq (by unfold hi; (repeat' split) <;> omega)), rfl⟩
theorem read_one (b off n cap : Nat) (c : Int) (w : World) (hc : w.cell? ⟨b, off, none⟩ = some (.int .u8 c)) (h0 : 0 < n) (h1 : 0 ≤ c) (h2 : c ≤ 127) :
  Calls Tryz.prog 177 #[.slice (some ⟨b, off, none⟩) n cap] w fun e w' => e = .returned (.tuple #[.int .i32 c, .int .i64 1, .bool true]) ∧ w = w' := by
 have hs : size c = 1 := by unfold size; (repeat' split) <;> omega
 have HS := hid hs
 clear hs
 have hp : (0 : Int) < (n : Int) := by omega
 go_enter Tryz.func177, Tryz.ntmps177
 go_wp2_with (go_at_call 239; refine (lead_any _ _).mono ?_; rintro e w' ⟨rfl, rfl⟩; rw [HS.out])
 go_ret3
 exact ⟨rfl, rfl⟩
theorem read_none (b off n cap : Nat) (c : Int) (w : World) (hc : w.cell? ⟨b, off, none⟩ = some (.int .u8 c)) (h0 : 0 < n) (h1 : (128 ≤ c ∧ c ≤ 193) ∨ 245 ≤ c) :
  Calls Tryz.prog 177 #[.slice (some ⟨b, off, none⟩) n cap] w fun e w' => e = .returned (.tuple #[.int .i32 65533, .int .i64 1, .bool false]) ∧ w = w' := by
 have hs : size c = 0 := by unfold size; (repeat' split) <;> omega
 have HS := hid hs
 clear hs
 have hp : (0 : Int) < (n : Int) := by omega
 go_enter Tryz.func177, Tryz.ntmps177
 go_wp2_with (go_at_call 239; refine (lead_any _ _).mono ?_; rintro e w' ⟨rfl, rfl⟩; rw [HS.out])
 go_ret3
 exact ⟨rfl, rfl⟩
def tail : Nat → Nat → Int → Int → Int → List UInt8 → Int × Int × Bool
 | 0, k, _, _, r, _ => (r, k, true)
 | _ + 1, k, _, _, _, [] => (65533, k, false)
 | m + 1, k, l, h, r, c :: t => if (c.toNat : Int) < l ∨ h < (c.toNat : Int) then (65533, k, false) else tail m (k + 1) 128 191 (r * 64 + (c.toNat : Int) % 64) t
def room : Nat → Int
 | 0 => 0
 | 1 => 32
 | 2 => 2048
 | 3 => 131072
 | _ => 8388608
theorem room_step (k : Nat) (h0 : 1 ≤ k) (h1 : k ≤ 3) : room (k + 1) = room k * 64 ∧ room k ≤ 131072 := by
 match k, h0, h1 with
 | 1, _, _ => decide
 | 2, _, _ => decide
 | 3, _, _ => decide
set_option maxRecDepth 100000 in
theorem read_2 (b off cap : Nat) (L : List UInt8) (c : Int) (w : World) (hc : w.cell? ⟨b, off, none⟩ = some (.int .u8 c)) (hL : ∀ j (h : j < L.length), w.cell? ⟨b, off + j, none⟩ = some (.int .u8 (L[j].toNat : Int)))
  (hm : L.length ≤ maxLen) (h0 : 0 < L.length) (h1 : 194 ≤ c) (h2 : c ≤ 223) (R : Int × Int × Bool) (hR : R = tail 1 1 (lo c) (hi c) (c % 32) (L.drop 1)) :
  Calls Tryz.prog 177 #[.slice (some ⟨b, off, none⟩) L.length cap] w fun e w' => e = .returned (.tuple #[.int .i32 R.1, .int .i64 R.2.1, .bool R.2.2]) ∧ Below w.heap.size w w' := by
 have hs : size c = 2 := by unfold size; (repeat' split) <;> omega
 have HS := hid hs
 clear hs
 unfold maxLen at hm
 have hp : (0 : Int) < (L.length : Int) := by omega
 have HL := hid hL
 clear hL
 have HR := hid hR
 clear hR
 have hr0 : 0 ≤ c % 32 ∧ c % 32 < 32 := by omega
 go_enter Tryz.func177, Tryz.ntmps177
 go_wp2_with (go_at_call 239; refine (lead_any _ _).mono ?_; rintro e w' ⟨rfl, rfl⟩; rw [HS.out])
 go_quiet (fail)
 go_wp2
 go_loop [6, 7, 8, 9] (fun vl vh vr vk => ∃ (k : Nat) (l h r : Int), 1 ≤ k ∧ k ≤ 2 ∧ k ≤ L.length ∧ vk = .int .i64 k ∧ vl = .int .u8 l ∧ vh = .int .u8 h ∧ vr = .int .i32 r ∧ 0 ≤ r ∧ r < room k ∧ Hid (R = tail (2 - k) k l h r (L.drop k))) (fun _ _ _ vk => 2 - (intOf vk).toNat)
 case atStart => exact ⟨1, lo c, hi c, c % 32, by omega, by omega, by omega, rfl, rfl, rfl, rfl, hr0.1, hr0.2, HR⟩
 case round =>
  obtain ⟨k, l, h, r, hk1, hk2, hkn, rfl, rfl, rfl, rfl, hr1, hr2, HT⟩ := hrel
  by_cases hlt : k < 2
  ·obtain ⟨hb1, hb2⟩ := room_step k hk1 (by omega)
   have HB := hid hb1
   clear hb1
   have hr3 : r < 131072 := by omega
   have es : 2 - k = (2 - (k + 1)) + 1 := by omega
   have HT2 : Hid (R = tail ((2 - (k + 1)) + 1) k l h r (L.drop k)) := by rw [← es]; exact HT
   clear es HT
   by_cases hn : k < L.length
   ·obtain ⟨x, hx⟩ : ∃ x, x = L[k] := ⟨_, rfl⟩
    have hcell : w.cell? ⟨b, off + k, none⟩ = some (.int .u8 (x.toNat : Int)) := by rw [hx]; exact HL.out k hn
    have HT3 : Hid (R = tail ((2 - (k + 1)) + 1) k l h r (x :: L.drop (k + 1))) := by
     have hd : L.drop k = x :: L.drop (k + 1) := by rw [hx]; exact List.drop_eq_getElem_cons hn
     rw [← hd]; exact HT2
    clear HT2 hx
    have hx2 : (x.toNat : Int) < 256 := by have := x.toNat_lt; omega
    have hne : ((k : Int) == (L.length : Int)) = false := by simp; omega
    by_cases ht : (x.toNat : Int) < l ∨ h < (x.toNat : Int)
    ·have HT4 : Hid (R = (65533, (k : Int), false)) := by
      have e := HT3.out
      rw [tail, if_pos ht] at e
      exact e
     clear HT3
     go_wp2
     all_goals
      go_ret3
      rw [HT4.out]
      exact ⟨rfl, Base.below_drewN (Below.refl _ _) _⟩
    ·have HT4 : Hid (R = tail (2 - (k + 1)) (k + 1) 128 191 (r * 64 + (x.toNat : Int) % 64) (L.drop (k + 1))) := by
      have e := HT3.out
      rw [tail, if_neg ht] at e
      exact e
     clear HT3
     have ht1 : l ≤ (x.toNat : Int) := by omega
     have ht2 : (x.toNat : Int) ≤ h := by omega
     clear ht
     go_wp2
     go_round
     case rel => exact ⟨k + 1, 128, 191, r * 64 + (x.toNat : Int) % 64, by omega, by omega, by omega, by go_num, rfl, rfl, rfl, by omega, by rw [HB.out]; omega, HT4⟩
     case measure => simp [intOf]; omega
   ·obtain rfl : k = L.length := by omega
    have HT4 : Hid (R = (65533, (L.length : Int), false)) := by
     have e := HT2.out
     rw [List.drop_length, tail] at e
     exact e
    clear HT2
    go_wp2
    go_ret3
    rw [HT4.out]
    exact ⟨rfl, Base.below_drewN (Below.refl _ _) _⟩
  ·obtain rfl : k = 2 := by omega
   have HT4 : Hid (R = (r, 2, true)) := by
    have e := HT.out
    rw [Nat.sub_self, tail] at e
    exact e
   clear HT
   go_wp2
   go_ret3
   rw [HT4.out]
   exact ⟨rfl, Base.below_drewN (Below.refl _ _) _⟩
set_option maxRecDepth 100000 in
theorem read_3 (b off cap : Nat) (L : List UInt8) (c : Int) (w : World) (hc : w.cell? ⟨b, off, none⟩ = some (.int .u8 c)) (hL : ∀ j (h : j < L.length), w.cell? ⟨b, off + j, none⟩ = some (.int .u8 (L[j].toNat : Int)))
  (hm : L.length ≤ maxLen) (h0 : 0 < L.length) (h1 : 224 ≤ c) (h2 : c ≤ 239) (R : Int × Int × Bool) (hR : R = tail 2 1 (lo c) (hi c) (c % 16) (L.drop 1)) :
  Calls Tryz.prog 177 #[.slice (some ⟨b, off, none⟩) L.length cap] w fun e w' => e = .returned (.tuple #[.int .i32 R.1, .int .i64 R.2.1, .bool R.2.2]) ∧ Below w.heap.size w w' := by
 have hs : size c = 3 := by unfold size; (repeat' split) <;> omega
 have HS := hid hs
 clear hs
 unfold maxLen at hm
 have hp : (0 : Int) < (L.length : Int) := by omega
 have HL := hid hL
 clear hL
 have HR := hid hR
 clear hR
 have hr0 : 0 ≤ c % 16 ∧ c % 16 < 32 := by omega
 go_enter Tryz.func177, Tryz.ntmps177
 go_wp2_with (go_at_call 239; refine (lead_any _ _).mono ?_; rintro e w' ⟨rfl, rfl⟩; rw [HS.out])
 go_quiet (fail)
 go_wp2
 go_loop [6, 7, 8, 9] (fun vl vh vr vk => ∃ (k : Nat) (l h r : Int), 1 ≤ k ∧ k ≤ 3 ∧ k ≤ L.length ∧ vk = .int .i64 k ∧ vl = .int .u8 l ∧ vh = .int .u8 h ∧ vr = .int .i32 r ∧ 0 ≤ r ∧ r < room k ∧ Hid (R = tail (3 - k) k l h r (L.drop k))) (fun _ _ _ vk => 3 - (intOf vk).toNat)
 case atStart => exact ⟨1, lo c, hi c, c % 16, by omega, by omega, by omega, rfl, rfl, rfl, rfl, hr0.1, hr0.2, HR⟩
 case round =>
  obtain ⟨k, l, h, r, hk1, hk2, hkn, rfl, rfl, rfl, rfl, hr1, hr2, HT⟩ := hrel
  by_cases hlt : k < 3
  ·obtain ⟨hb1, hb2⟩ := room_step k hk1 (by omega)
   have HB := hid hb1
   clear hb1
   have hr3 : r < 131072 := by omega
   have es : 3 - k = (3 - (k + 1)) + 1 := by omega
   have HT2 : Hid (R = tail ((3 - (k + 1)) + 1) k l h r (L.drop k)) := by rw [← es]; exact HT
   clear es HT
   by_cases hn : k < L.length
   ·obtain ⟨x, hx⟩ : ∃ x, x = L[k] := ⟨_, rfl⟩
    have hcell : w.cell? ⟨b, off + k, none⟩ = some (.int .u8 (x.toNat : Int)) := by rw [hx]; exact HL.out k hn
    have HT3 : Hid (R = tail ((3 - (k + 1)) + 1) k l h r (x :: L.drop (k + 1))) := by
     have hd : L.drop k = x :: L.drop (k + 1) := by rw [hx]; exact List.drop_eq_getElem_cons hn
     rw [← hd]; exact HT2
    clear HT2 hx
    have hx2 : (x.toNat : Int) < 256 := by have := x.toNat_lt; omega
    have hne : ((k : Int) == (L.length : Int)) = false := by simp; omega
    by_cases ht : (x.toNat : Int) < l ∨ h < (x.toNat : Int)
    ·have HT4 : Hid (R = (65533, (k : Int), false)) := by
      have e := HT3.out
      rw [tail, if_pos ht] at e
      exact e
     clear HT3
     go_wp2
     all_goals
      go_ret3
      rw [HT4.out]
      exact ⟨rfl, Base.below_drewN (Below.refl _ _) _⟩
    ·have HT4 : Hid (R = tail (3 - (k + 1)) (k + 1) 128 191 (r * 64 + (x.toNat : Int) % 64) (L.drop (k + 1))) := by
      have e := HT3.out
      rw [tail, if_neg ht] at e
      exact e
     clear HT3
     have ht1 : l ≤ (x.toNat : Int) := by omega
     have ht2 : (x.toNat : Int) ≤ h := by omega
     clear ht
     go_wp2
     go_round
     case rel => exact ⟨k + 1, 128, 191, r * 64 + (x.toNat : Int) % 64, by omega, by omega, by omega, by go_num, rfl, rfl, rfl, by omega, by rw [HB.out]; omega, HT4⟩
     case measure => simp [intOf]; omega
   ·obtain rfl : k = L.length := by omega
    have HT4 : Hid (R = (65533, (L.length : Int), false)) := by
     have e := HT2.out
     rw [List.drop_length, tail] at e
     exact e
    clear HT2
    go_wp2
    go_ret3
    rw [HT4.out]
    exact ⟨rfl, Base.below_drewN (Below.refl _ _) _⟩
  ·obtain rfl : k = 3 := by omega
   have HT4 : Hid (R = (r, 3, true)) := by
    have e := HT.out
    rw [Nat.sub_self, tail] at e
    exact e
   clear HT
   go_wp2
   go_ret3
   rw [HT4.out]
   exact ⟨rfl, Base.below_drewN (Below.refl _ _) _⟩
set_option maxRecDepth 100000 in
theorem read_4 (b off cap : Nat) (L : List UInt8) (c : Int) (w : World) (hc : w.cell? ⟨b, off, none⟩ = some (.int .u8 c)) (hL : ∀ j (h : j < L.length), w.cell? ⟨b, off + j, none⟩ = some (.int .u8 (L[j].toNat : Int)))
  (hm : L.length ≤ maxLen) (h0 : 0 < L.length) (h1 : 240 ≤ c) (h2 : c ≤ 244) (R : Int × Int × Bool) (hR : R = tail 3 1 (lo c) (hi c) (c % 8) (L.drop 1)) :
  Calls Tryz.prog 177 #[.slice (some ⟨b, off, none⟩) L.length cap] w fun e w' => e = .returned (.tuple #[.int .i32 R.1, .int .i64 R.2.1, .bool R.2.2]) ∧ Below w.heap.size w w' := by
 have hs : size c = 4 := by unfold size; (repeat' split) <;> omega
 have HS := hid hs
 clear hs
 unfold maxLen at hm
 have hp : (0 : Int) < (L.length : Int) := by omega
 have HL := hid hL
 clear hL
 have HR := hid hR
 clear hR
 have hr0 : 0 ≤ c % 8 ∧ c % 8 < 32 := by omega
 go_enter Tryz.func177, Tryz.ntmps177
 go_wp2_with (go_at_call 239; refine (lead_any _ _).mono ?_; rintro e w' ⟨rfl, rfl⟩; rw [HS.out])
 go_quiet (fail)
 go_wp2
 go_loop [6, 7, 8, 9] (fun vl vh vr vk => ∃ (k : Nat) (l h r : Int), 1 ≤ k ∧ k ≤ 4 ∧ k ≤ L.length ∧ vk = .int .i64 k ∧ vl = .int .u8 l ∧ vh = .int .u8 h ∧ vr = .int .i32 r ∧ 0 ≤ r ∧ r < room k ∧ Hid (R = tail (4 - k) k l h r (L.drop k))) (fun _ _ _ vk => 4 - (intOf vk).toNat)
 case atStart => exact ⟨1, lo c, hi c, c % 8, by omega, by omega, by omega, rfl, rfl, rfl, rfl, hr0.1, hr0.2, HR⟩
 case round =>
  obtain ⟨k, l, h, r, hk1, hk2, hkn, rfl, rfl, rfl, rfl, hr1, hr2, HT⟩ := hrel
  by_cases hlt : k < 4
  ·obtain ⟨hb1, hb2⟩ := room_step k hk1 (by omega)
   have HB := hid hb1
   clear hb1
   have hr3 : r < 131072 := by omega
   have es : 4 - k = (4 - (k + 1)) + 1 := by omega
   have HT2 : Hid (R = tail ((4 - (k + 1)) + 1) k l h r (L.drop k)) := by rw [← es]; exact HT
   clear es HT
   by_cases hn : k < L.length
   ·obtain ⟨x, hx⟩ : ∃ x, x = L[k] := ⟨_, rfl⟩
    have hcell : w.cell? ⟨b, off + k, none⟩ = some (.int .u8 (x.toNat : Int)) := by rw [hx]; exact HL.out k hn
    have HT3 : Hid (R = tail ((4 - (k + 1)) + 1) k l h r (x :: L.drop (k + 1))) := by
     have hd : L.drop k = x :: L.drop (k + 1) := by rw [hx]; exact List.drop_eq_getElem_cons hn
     rw [← hd]; exact HT2
    clear HT2 hx
    have hx2 : (x.toNat : Int) < 256 := by have := x.toNat_lt; omega
    have hne : ((k : Int) == (L.length : Int)) = false := by simp; omega
    by_cases ht : (x.toNat : Int) < l ∨ h < (x.toNat : Int)
    ·have HT4 : Hid (R = (65533, (k : Int), false)) := by
      have e := HT3.out
      rw [tail, if_pos ht] at e
      exact e
     clear HT3
     go_wp2
     all_goals
      go_ret3
      rw [HT4.out]
      exact ⟨rfl, Base.below_drewN (Below.refl _ _) _⟩
    ·have HT4 : Hid (R = tail (4 - (k + 1)) (k + 1) 128 191 (r * 64 + (x.toNat : Int) % 64) (L.drop (k + 1))) := by
      have e := HT3.out
      rw [tail, if_neg ht] at e
      exact e
     clear HT3
     have ht1 : l ≤ (x.toNat : Int) := by omega
     have ht2 : (x.toNat : Int) ≤ h := by omega
     clear ht
     go_wp2
     go_round
     case rel => exact ⟨k + 1, 128, 191, r * 64 + (x.toNat : Int) % 64, by omega, by omega, by omega, by go_num, rfl, rfl, rfl, by omega, by rw [HB.out]; omega, HT4⟩
     case measure => simp [intOf]; omega
   ·obtain rfl : k = L.length := by omega
    have HT4 : Hid (R = (65533, (L.length : Int), false)) := by
     have e := HT2.out
     rw [List.drop_length, tail] at e
     exact e
    clear HT2
    go_wp2
    go_ret3
    rw [HT4.out]
    exact ⟨rfl, Base.below_drewN (Below.refl _ _) _⟩
  ·obtain rfl : k = 4 := by omega
   have HT4 : Hid (R = (r, 4, true)) := by
    have e := HT.out
    rw [Nat.sub_self, tail] at e
    exact e
   clear HT
   go_wp2
   go_ret3
   rw [HT4.out]
   exact ⟨rfl, Base.below_drewN (Below.refl _ _) _⟩
end Go.Proofs.YthajldjmplfnaaaGreatDoor.UtfR
namespace Go.Proofs.YthajldjmplfnaaaGreatDoor.UtfR
open Go.RowKit Base
def rd : List UInt8 → Int × Int × Bool
 | [] => (65533, 1, false)
 | x :: t =>
  let c : Int := x.toNat
  if c ≤ 127 then (c, 1, true) else if c ≤ 193 ∨ 245 ≤ c then (65533, 1, false) else if c ≤ 223 then tail 1 1 (lo c) (hi c) (c % 32) t else if c ≤ 239 then tail 2 1 (lo c) (hi c) (c % 16) t else tail 3 1 (lo c) (hi c) (c % 8) t
theorem read_any (b off n cap : Nat) (L : List UInt8) (w : World) (h : Rds w (some ⟨b, off, none⟩) n (bcells L)) (hm : n ≤ maxLen) (h0 : 0 < n) (R : Int × Int × Bool) (hR : R = rd L) :
  Calls Tryz.prog 177 #[.slice (some ⟨b, off, none⟩) n cap] w fun e w' => e = .returned (.tuple #[.int .i32 R.1, .int .i64 R.2.1, .bool R.2.2]) ∧ Below w.heap.size w w' := by
 have hl : L.length = n := by rw [← length_bcells]; exact h.1
 subst hl
 obtain ⟨x, t, rfl⟩ : ∃ x t, L = x :: t := by
  cases L with
  | nil => simp at h0
  | cons x t => exact ⟨x, t, rfl⟩
 have hc : w.cell? ⟨b, off, none⟩ = some (.int .u8 (x.toNat : Int)) := by
  have := h.byte 0 (by simp)
  rw [Nat.add_zero] at this
  exact this
 have hL : ∀ j (hj : j < (x :: t).length), w.cell? ⟨b, off + j, none⟩ = some (.int .u8 ((x :: t)[j].toNat : Int)) := fun j hj => h.byte j hj
 have hx : (x.toNat : Int) < 256 := by have := x.toNat_lt; omega
 by_cases h1 : (x.toNat : Int) ≤ 127
 ·rw [rd, if_pos h1] at hR
  subst hR
  exact (read_one b off _ cap _ w hc h0 (by omega) h1).mono fun e w' ⟨he, hw⟩ => ⟨he, hw ▸ Below.refl _ _⟩
 by_cases h2 : (x.toNat : Int) ≤ 193 ∨ 245 ≤ (x.toNat : Int)
 ·rw [rd, if_neg h1, if_pos h2] at hR
  subst hR
  exact (read_none b off _ cap _ w hc h0 (by omega)).mono fun e w' ⟨he, hw⟩ => ⟨he, hw ▸ Below.refl _ _⟩
 by_cases h3 : (x.toNat : Int) ≤ 223
 ·rw [rd, if_neg h1, if_neg h2, if_pos h3] at hR
  exact read_2 b off cap _ _ w hc hL hm h0 (by omega) (by omega) R hR
 by_cases h4 : (x.toNat : Int) ≤ 239
 ·rw [rd, if_neg h1, if_neg h2, if_neg h3, if_pos h4] at hR
  exact read_3 b off cap _ _ w hc hL hm h0 (by omega) (by omega) R hR
 ·rw [rd, if_neg h1, if_neg h2, if_neg h3, if_neg h4] at hR
  exact read_4 b off cap _ _ w hc hL hm h0 (by omega) (by omega) R hR
theorem tail_size : ∀ (m k : Nat) (l h r : Int) (t : List UInt8), (k : Int) ≤ (tail m k l h r t).2.1 ∧ (tail m k l h r t).2.1 ≤ k + t.length
 | 0, k, _, _, _, t => by simp [tail]; omega
 | m + 1, k, l, h, r, [] => by simp [tail]
 | m + 1, k, l, h, r, c :: t => by
  rw [tail]
  split
  ·simp; omega
  ·have := tail_size m (k + 1) 128 191 (r * 64 + (c.toNat : Int) % 64) t
   simp only [List.length_cons]
   omega
theorem rd_size (x : UInt8) (t : List UInt8) : 1 ≤ (rd (x :: t)).2.1 ∧ (rd (x :: t)).2.1 ≤ (t.length : Int) + 1 := by
 simp only [rd]
 (repeat' split)
 ·simp; omega
 ·simp; omega
 ·have := tail_size 1 1 (lo x.toNat) (hi x.toNat) (x.toNat % 32) t; omega
 ·have := tail_size 2 1 (lo x.toNat) (hi x.toNat) (x.toNat % 16) t; omega
 ·have := tail_size 3 1 (lo x.toNat) (hi x.toNat) (x.toNat % 8) t; omega
def decF : Nat → List UInt8 → List Int
 | 0, _ => []
 | _ + 1, [] => []
 | n + 1, x :: t => (rd (x :: t)).1 :: decF n ((x :: t).drop (rd (x :: t)).2.1.toNat)
def dec (L : List UInt8) : List Int := decF L.length L
theorem decF_more : ∀ (n m : Nat) (L : List UInt8), L.length ≤ n → L.length ≤ m → decF n L = decF m L
 | 0, 0, _, _, _ => rfl
 | 0, m + 1, [], _, _ => rfl
 | 0, _ + 1, _ :: _, h, _ => by simp at h
 | n + 1, 0, [], _, _ => rfl
 | _ + 1, 0, _ :: _, _, h => by simp at h
 | _ + 1, _ + 1, [], _, _ => rfl
 | n + 1, m + 1, x :: t, h1, h2 => by
  have hs := rd_size x t
  simp only [List.length_cons] at h1 h2
  rw [decF, decF, decF_more n m _ (by simp; omega) (by simp; omega)]
theorem dec_nil : dec [] = [] := rfl
theorem dec_cons (x : UInt8) (t : List UInt8) : dec (x :: t) = (rd (x :: t)).1 :: dec ((x :: t).drop (rd (x :: t)).2.1.toNat) := by
 have hs := rd_size x t
 unfold dec
 rw [List.length_cons, decF, decF_more _ _ _ (by simp; omega) (Nat.le_refl _)]
theorem dec_drop (L : List UInt8) (k : Nat) (h : k < L.length) :
  dec (L.drop k) = (rd (L.drop k)).1 :: dec (L.drop (k + (rd (L.drop k)).2.1.toNat)) ∧ 1 ≤ (rd (L.drop k)).2.1 ∧ (rd (L.drop k)).2.1 ≤ (L.length : Int) - k := by
 obtain ⟨x, t, ht⟩ : ∃ x t, L.drop k = x :: t := by
  cases e : L.drop k with
  | nil => simp at e; omega
  | cons x t => exact ⟨x, t, rfl⟩
 have hs := rd_size x t
 have hl : (L.drop k).length = L.length - k := List.length_drop
 rw [ht, List.length_cons] at hl
 refine ⟨?_, ?_, ?_⟩
 ·rw [ht, dec_cons, ← ht, List.drop_drop]
 ·rw [ht]; exact hs.1
 ·rw [ht]; omega
theorem info21 : (Tryz.prog.info? 21).map (fun i => (i.zero, i.size, i.bytes)) = some (some (.int .i32 0), 1, 4) := by kernel_rfl
theorem decode_any (A : Option Addr) (n cap : Nat) (L : List UInt8) (w : World) (h : Rds w A n (bcells L)) (hm : n ≤ 1073741824) (hcap : n ≤ cap) :
  Calls Tryz.prog 111 #[.slice A n cap] w fun e w' => ∃ v, e = .returned v ∧ w'.ownsRow w.heap.size 21 1 v (dec L).length (icells .i32 (dec L)) ∧ Below w.heap.size w w' := by
 have hl : L.length = n := by rw [← length_bcells]; exact h.1
 have HL := hid hl
 clear hl
 obtain ⟨i0, hi, hz0, hz1, hz2⟩ := info_parts info21
 have HH := hid h
 clear h
 go_enter Tryz.func111, Tryz.ntmps111
 go_wp2
 go_loopw [3, 4] (fun v vk wr => ∃ (k : Nat) (acc : List Int), k ≤ n ∧ acc.length ≤ k ∧ vk = .int .i64 k ∧ wr.ownsRow w.heap.size 21 1 v acc.length (icells .i32 acc) ∧ Below w.heap.size w wr ∧ Hid (acc ++ dec (L.drop k) = dec L)) (fun _ vk _ => n - (intOf vk).toNat)
 case atStart => exact ⟨0, [], Nat.zero_le _, Nat.le_refl _, rfl, World.ownsRow_nil _ _ _ _, Below.refl _ _, rfl⟩
 case round =>
  obtain ⟨k, acc, hk, hacc, rfl, hown, hbel, HT⟩ := hrel
  by_cases hlt : k < n
  ·obtain ⟨b, off, rfl, hb, _⟩ := (HH.out).spot (by omega)
   have hcut : Hid (Rds wr (some ⟨b, off + k, none⟩) (n - k) (bcells (L.drop k))) := by
    rw [bcells_drop]
    exact (HH.out.cut k hk).below hbel
   have hne : ¬ cap = k := by omega
   obtain ⟨hd1, hd2, hd3⟩ := dec_drop L k (by rw [HL.out]; exact hlt)
   obtain ⟨R, hR⟩ : ∃ R, R = rd (L.drop k) := ⟨_, rfl⟩
   rw [← hR] at hd1 hd2 hd3
   rw [HL.out] at hd3
   have HD := hid hd1
   have HR := hid hR
   clear hd1 hR
   go_wp2_with fail
   refine (read_any b (off + k) (n - k) (cap - k) (L.drop k) _ hcut.out (by unfold maxLen; omega) (by omega) R HR.out).mono ?_
   rintro e w1 ⟨rfl, hb1⟩
   have hown1 := owns_below hown hb1
   have hbel1 := hbel.trans (hb1.mono hbel.size)
   clear hown hbel
   go_wp2_with (at_builtin; refine wpList_append_own _ rfl _ _ 189 rfl w.heap.size 21 i0 (.int .i32 0) 1 4 Tryz.underlying189 hi hz0 hz1 hz2 rfl (by decide) _ _ _ rfl (hown1.alloc _) ⟨w1.heap.size, 0, none⟩ 1 1 [.int .i32 R.1] rfl rfl ?c1 ?c2 ?c3 ?c4 ?c5 ?_)
   case c1 => exact cell_one_new _ _ _
   case c2 => intro u hu; simp at hu; subst hu; rfl
   case c3 => unfold maxLen; omega
   case c4 => omega
   case c5 => have := hbel1.size; simp; omega
   intro v' w2 hown2 hg2 _
   have hbel2 : Below w.heap.size w w2 := (hbel1.alloc hbel1.size _).grown hg2 (by have := hbel1.size; simp; omega) (fun g hg => (hown1.lt g hg).1)
   clear hown1 hbel1 hg2
   go_wp2
   go_roundw
   case rel => exact ⟨k + R.2.1.toNat, acc ++ [R.1], by omega, by simp; omega, by rw [show ((k + R.2.1.toNat : Nat) : Int) = (k : Int) + R.2.1 by omega], by rw [icells_append, List.length_append]; exact hown2, hbel2, by
     have := HT.out
     rw [HD.out] at this
     rw [List.append_assoc]
     exact this⟩
   case measure => simp [intOf]; omega
  ·obtain rfl : k = n := by omega
   have HE : Hid (acc = dec L) := by
    have e := HT.out
    rw [← HL.out, List.drop_length, dec_nil, List.append_nil] at e
    exact e
   go_wp2
   go_ret
   exact ⟨_, rfl, by rw [← HE.out]; exact hown, hbel⟩
end Go.Proofs.YthajldjmplfnaaaGreatDoor.UtfR
namespace Go.Proofs.YthajldjmplfnaaaGreatDoor.UtfE
open Go.RowKit Base
def enc (l : List Int) : List UInt8 := l.flatMap Lib.encodeRune
theorem cells_rune (r : Int) : Lib.runeCells r = bcells (Lib.encodeRune r) := (Lib.byteCells_encodeRune r).symm
theorem enc_snoc (l : List Int) (r : Int) : enc (l ++ [r]) = enc l ++ Lib.encodeRune r := by simp [enc]
theorem rune_len (r : Int) : 1 ≤ (Lib.encodeRune r).length ∧ (Lib.encodeRune r).length ≤ 4 := by
 have := Lib.runeCells_le r
 rw [Lib.runeCells_length] at this
 exact this
theorem enc_len (l : List Int) : (enc l).length ≤ 4 * l.length ∧ l.length ≤ (enc l).length := by
 induction l with
 | nil => simp [enc]
 | cons r l ih =>
  have h := rune_len r
  have e : enc (r :: l) = Lib.encodeRune r ++ enc l := by simp [enc]
  rw [e, List.length_append, List.length_cons]
  omega
def Rune (r : Int) : Prop := -2147483648 ≤ r ∧ r ≤ 2147483647
theorem encode_any (A : Option Addr) (n cap : Nat) (l : List Int) (w : World) (h : Rds w A n (icells .i32 l)) (hr : ∀ r ∈ l, Rune r) (hm : n ≤ 1073741824) :
  Calls Tryz.prog 110 #[.slice A n cap] w fun e w' => ∃ v, e = .returned v ∧ w'.ownsRow w.heap.size 5 1 v (enc l).length (bcells (enc l)) ∧ Below w.heap.size w w' := by
 have hl : l.length = n := by rw [← length_icells .i32]; exact h.1
 have HL := hid hl
 clear hl
 have HH := hid h
 clear h
 have HR := hid hr
 clear hr
 go_enter Tryz.func110, Tryz.ntmps110
 go_wp2
 go_loopw [3, 8] (fun v vk wr => ∃ (k : Nat), k ≤ n ∧ vk = .int .i64 k ∧ wr.ownsRow w.heap.size 5 1 v (enc (l.take k)).length (bcells (enc (l.take k))) ∧ Below w.heap.size w wr) (fun _ vk _ => n - (intOf vk).toNat)
 case atStart => exact ⟨0, Nat.zero_le _, rfl, World.ownsRow_nil _ _ _ _, Below.refl _ _⟩
 case round =>
  obtain ⟨k, hk, rfl, hown, hbel⟩ := hrel
  by_cases hlt : k < n
  ·obtain ⟨b, off, rfl, hb, _⟩ := (HH.out).spot (by omega)
   obtain ⟨r, hx⟩ : ∃ r, r = l[k]'(by rw [HL.out]; exact hlt) := ⟨_, rfl⟩
   have hcell : wr.cell? ⟨b, off + k, none⟩ = some (.int .i32 r) := by
    rw [hx, ← HH.out.int k (by rw [HL.out]; exact hlt)]
    exact hbel.cell (p := ⟨b, off + k, none⟩) hb
   have hRr : Rune r := by rw [hx]; exact HR.out _ (List.getElem_mem _)
   obtain ⟨hr1, hr2⟩ := hRr
   have HS : Hid (l.take (k + 1) = l.take k ++ [r]) := by
    rw [hx]
    exact List.take_succ_eq_append_getElem (by rw [HL.out]; exact hlt)
   clear hx
   have hle := (enc_len (l.take k)).1
   have hle2 : (l.take k).length ≤ k := List.length_take_le _ _
   obtain ⟨m, hmm⟩ : ∃ m, m = (enc (l.take k)).length := ⟨_, rfl⟩
   rw [← hmm] at hle hown
   have HM := hid hmm
   clear hmm
   go_wp2_with fail
   refine (Tryz.utf8_AppendRune_plain w.heap.size _ _ _ r hr1 hr2 _ hown (by omega) hbel.size).mono ?_
   rintro e w1 ⟨v', rfl, hown1, o, hg⟩
   have hbel1 : Below w.heap.size w w1 := (hbel.alloc hbel.size o).grown hg (by have := hbel.size; simp; omega) (fun g hg => (hown.lt g hg).1)
   clear hown hbel
   go_wp2
   go_roundw
   case rel => exact ⟨k + 1, by omega, by go_num, by
     rw [HS.out, enc_snoc, List.length_append, bcells_append, ← cells_rune, ← Lib.runeCells_length, ← HM.out]
     exact hown1, hbel1⟩
   case measure => simp [intOf]; omega
  ·obtain rfl : k = n := by omega
   have HE : Hid (l.take k = l) := by
    rw [← HL.out]; exact List.take_length
   go_wp2
   go_ret
   exact ⟨_, rfl, by rw [HE.out] at hown; exact hown, hbel⟩
end Go.Proofs.YthajldjmplfnaaaGreatDoor.UtfE
