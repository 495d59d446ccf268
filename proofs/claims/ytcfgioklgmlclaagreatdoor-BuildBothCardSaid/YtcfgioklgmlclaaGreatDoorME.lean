/- Texts that belong together: Tab, MX, aJ, EscR, pO, pV, Ur, G7, PthC, PthD, xZ, Us, pU, AO, PthI, qM, dD, ng, xw, PthK, Qy, Uw, aaQ. -/
import Derived.Test.YtcfgioklgmlclaaGreatDoorMA
import Derived.Test.YtcfgioklgmlclaaGreatDoorShelf
import Derived.Lib.LaidU8
import Derived.Lib.LaidTab
import Derived.Lib.SmallJoins
import Derived.Sort.Grow
import Derived.Laws.IdiomStrings
import Derived.Deep.QuietTactic
import Derived.BigQuiet
import Derived.Lib.SliceRun
import Derived.Lib.IndexAny
import Derived.Lib.ItoaNum
import Derived.Lib.RuneBytes
import Derived.Laws.RangeAny
import Derived.Laws.Runes
import Derived.Deep.LoopGhost
import Derived.WalkMore
set_option linter.unusedSimpArgs false
set_option linter.unusedVariables false
set_option maxRecDepth 100000
set_option maxHeartbeats 64000000
namespace Go.Proofs.YtcfgioklgmlclaaGreatDoor.Tab
open Go.RowKit Base
def Pow (w : World) : Prop := Lib.TabIs Tryz.prog w "internal/strconv.uint64pow10" .u64 Lib.pow10Tab
theorem BF : Tryz.prog.globalNamed "internal/strconv.uint64pow10" = some 3 := by kernel_rfl
theorem Vy {W : World} {l : List (String × DataW Unit)} (h : laidMet Tryz.prog l W) (hm : ("internal/strconv.uint64pow10", Lib.tabData .u64 Lib.pow10Tab) ∈ l) : Pow W := by
 obtain ⟨g', t', cs, fuel, p, hg', ht', hvar, hd⟩ := Lib.laidMet.reads h hm
 obtain rfl := Option.some.inj (BF.symm.trans hg')
 obtain rfl := Option.some.inj ((show (Tryz.prog.globals[3]?).map (·.type) = some 199 by kernel_rfl).symm.trans ht')
 show World.var? _ _ _ = _
 rw [hvar, ← Lib.cells_of_tab (k := .u64) (zs := Lib.pow10Tab) Tryz.underlying199 Tryz.underlying122 (by kernel_rfl) (by kernel_rfl) hd]
theorem Pow.below {w w' : World} (h : Pow w) (hb : Below w.heap.size w w') : Pow w' := Joins.tab_stays BF h hb (Nat.le_refl _)
theorem below_grow (w : World) (k : Nat) (os : Array Obj) : Below w.heap.size w (Sort.grow (w.drewN k) os) :=
 ⟨rfl, rfl, rfl, by rw [Sort.size_grow]; exact Nat.le_add_right _ _, fun g hg => by
  show (w.heap ++ os)[g]? = w.heap[g]?
  rw [Array.getElem?_append_left hg]⟩
theorem Rw (n : Nat) : Lib.itoa (n : Int) = Lib.decDigits n := by unfold Lib.itoa; rw [if_neg (by omega)]; simp
theorem DC (n : Nat) (hn : n ≤ 9223372036854775807) (w : World) (hT : Pow w) :
  Calls Tryz.prog 64 #[.int .i64 (n : Int)] w fun e w' => e = .returned (.string (strOf (Lib.decDigits n))) ∧ Below w.heap.size w w' :=
 (Tryz.strconv_Itoa (n : Int) (by omega) (by omega) w hT).mono fun e w' ⟨he, k, os, hw⟩ => ⟨by rw [he, Rw]; rfl, by rw [hw]; exact below_grow w k os⟩
end Go.Proofs.YtcfgioklgmlclaaGreatDoor.Tab
namespace Go.Proofs.YtcfgioklgmlclaaGreatDoor.MX
open Go.RowKit Base
def P1 (c : Int) : Prop := c = 32 ∨ c = 34 ∨ c = 60 ∨ c = 62 ∨ c = 96
instance (c : Int) : Decidable (P1 c) := by unfold P1; exact inferInstance
def P2 (c : Int) : Prop := c = 32 ∨ c = 34 ∨ c = 35 ∨ c = 60 ∨ c = 62
instance (c : Int) : Decidable (P2 c) := by unfold P2; exact inferInstance
def P3 (c : Int) : Prop := c = 32 ∨ c = 34 ∨ c = 35 ∨ c = 60 ∨ c = 62 ∨ c = 39
instance (c : Int) : Decidable (P3 c) := by unfold P3; exact inferInstance
def P4 (c : Int) : Prop := c = 32 ∨ c = 34 ∨ c = 35 ∨ c = 60 ∨ c = 62 ∨ c = 63 ∨ c = 94 ∨ c = 96 ∨ c = 123 ∨ c = 125
instance (c : Int) : Decidable (P4 c) := by unfold P4; exact inferInstance
def P5 (c : Int) : Prop := c = 32 ∨ c = 34 ∨ c = 35 ∨ c = 60 ∨ c = 62 ∨ c = 63 ∨ c = 94 ∨ c = 96 ∨ c = 123 ∨ c = 125 ∨ c = 47 ∨ c = 58 ∨ c = 59 ∨ c = 61 ∨ c = 64 ∨ c = 91 ∨ c = 92 ∨ c = 93 ∨ c = 124
instance (c : Int) : Decidable (P5 c) := by unfold P5; exact inferInstance
def P6 (c : Int) : Prop := c = 32 ∨ c = 34 ∨ c = 35 ∨ c = 60 ∨ c = 62 ∨ c = 63 ∨ c = 94 ∨ c = 96 ∨ c = 123 ∨ c = 125 ∨ c = 47 ∨ c = 58 ∨ c = 59 ∨ c = 61 ∨ c = 64 ∨ c = 91 ∨ c = 92 ∨ c = 93 ∨ c = 124 ∨ c = 36 ∨ c = 37 ∨ c = 38 ∨ c = 43 ∨ c = 44
instance (c : Int) : Decidable (P6 c) := by unfold P6; exact inferInstance
def jO (k c : Int) : Bool := decide (0 ≤ k ∧ k ≤ 6 ∧ (c < 32 ∨ 126 < c ∨ k = 1 ∧ P1 c ∨ k = 2 ∧ P2 c ∨ k = 3 ∧ P3 c ∨ k = 4 ∧ P4 c ∨ k = 5 ∧ P5 c ∨ k = 6 ∧ P6 c))
def S : Int → List UInt8
 | 1 => [32, 34, 60, 62, 96]
 | 2 => [32, 34, 35, 60, 62]
 | 3 => [32, 34, 35, 60, 62, 39]
 | 4 => [32, 34, 35, 60, 62, 63, 94, 96, 123, 125]
 | 5 => [32, 34, 35, 60, 62, 63, 94, 96, 123, 125, 47, 58, 59, 61, 64, 91, 92, 93, 124]
 | 6 => [32, 34, 35, 60, 62, 63, 94, 96, 123, 125, 47, 58, 59, 61, 64, 91, 92, 93, 124, 36, 37, 38, 43, 44]
 | _ => []
theorem S_in (k : Int) (hk : 0 ≤ k ∧ k ≤ 6) (c : UInt8) (h1 : 32 ≤ (c.toNat : Int)) (h2 : (c.toNat : Int) ≤ 126) : decide (0 ≤ Lib.indexByte (S k) c) = jO k c.toNat := by
 obtain ⟨ha, hb⟩ := hk
 have hcase : k = 0 ∨ k = 1 ∨ k = 2 ∨ k = 3 ∨ k = 4 ∨ k = 5 ∨ k = 6 := by omega
 have H : ∀ n : Fin 256, (32 ≤ n.val ∧ n.val ≤ 126) → ∀ k : Fin 7, decide (0 ≤ Lib.indexByte (S (k.val : Int)) (UInt8.ofNat n.val)) = jO (k.val : Int) (n.val : Int) := by decide +kernel
 have hn := H ⟨c.toNat, c.toNat_lt⟩ ⟨by simp; omega, by simp; omega⟩ ⟨k.toNat, by omega⟩
 simpa [Int.toNat_of_nonneg ha] using hn
theorem Ov (k : Int) (c : Int) (h : k < 0 ∨ 6 < k) : jO k c = false := by unfold jO; rw [decide_eq_false_iff_not]; omega
theorem inS_far (k : Int) (c : Int) (h1 : 0 ≤ k) (h2 : k ≤ 6) (h : c < 32 ∨ 126 < c) : jO k c = true := by unfold jO; rw [decide_eq_true_iff]; omega
theorem KA (k : Int) (w : World) (h0 : 0 ≤ k) (h1 : k ≤ 6) : Calls Tryz.prog 191 #[.int .i64 k] w fun e w' => e = .returned (.string (strOf (S k))) ∧ w = w' := by
 have hcase : k = 0 ∨ k = 1 ∨ k = 2 ∨ k = 3 ∨ k = 4 ∨ k = 5 ∨ k = 6 := by omega
 rcases hcase with rfl | rfl | rfl | rfl | rfl | rfl | rfl
 all_goals
  go_enter Tryz.func191, Tryz.ntmps191
  go_wp2
  go_ret
  exact ⟨rfl, rfl⟩
theorem acM (k : Int) (c : UInt8) (w : World) : Calls Tryz.prog 161 #[.int .i64 k, .int .u8 (c.toNat : Int)] w fun e w' => e = .returned (.bool (jO k c.toNat)) ∧ w = w' := by
 by_cases ho : k < 0 ∨ 6 < k
 ·have HE := hid (Ov k c.toNat ho)
  rcases ho with ho | ho
  all_goals
   go_enter Tryz.func161, Tryz.ntmps161
   go_wp2
   go_ret
   rw [HE.out]
   exact ⟨rfl, rfl⟩
 ·have h0 : 0 ≤ k := by omega
  have h1 : k ≤ 6 := by omega
  clear ho
  by_cases hf : (c.toNat : Int) < 32 ∨ 126 < (c.toNat : Int)
  ·have HE := hid (inS_far k c.toNat h0 h1 hf)
   rcases hf with hf | hf
   ·go_enter Tryz.func161, Tryz.ntmps161
    go_wp2
    go_ret
    rw [HE.out]
    exact ⟨rfl, rfl⟩
   ·have hg : ¬ (c.toNat : Int) < 32 := by omega
    go_enter Tryz.func161, Tryz.ntmps161
    go_wp2
    go_ret
    rw [HE.out]
    exact ⟨rfl, rfl⟩
  ·have h2 : 32 ≤ (c.toNat : Int) := by omega
   have h3 : (c.toNat : Int) ≤ 126 := by omega
   clear hf
   have HE := hid (S_in k ⟨h0, h1⟩ c h2 h3)
   go_enter Tryz.func161, Tryz.ntmps161
   go_wp2_with fail
   refine (KA k _ h0 h1).mono ?_
   rintro e w1 ⟨rfl, rfl⟩
   go_wp2_with fail
   refine (Tryz.strings_IndexByte _ _ _).mono ?_
   rintro e w1 ⟨rfl, rfl⟩
   rw [show (strOf (S k)).data.toList = S k from rfl, show ((c.toNat : Int).toNat).toUInt8 = c by simp]
   go_wp2_with fail
   go_ret
   exact ⟨aB (by rw [← HE.out, decide_eq_false (show ¬ (c.toNat : Int) < 32 by omega), decide_eq_false (show ¬ 126 < (c.toNat : Int) by omega)]; simp), rfl⟩
end Go.Proofs.YtcfgioklgmlclaaGreatDoor.MX
namespace Go.Proofs.YtcfgioklgmlclaaGreatDoor.aJ
open Go.RowKit Base MX
def ru (n : Nat) : UInt8 := if n < 10 then UInt8.ofNat (48 + n) else UInt8.ofNat (55 + n)
def one (k : Int) (c : UInt8) : List UInt8 := if jO k c.toNat = true then [37, ru (c.toNat / 16), ru (c.toNat % 16)] else [c]
def enc (k : Int) (L : List UInt8) : List UInt8 := L.flatMap (one k)
theorem uJ (k : Int) (L : List UInt8) (c : UInt8) : enc k (L ++ [c]) = enc k L ++ one k c := by simp [enc]
theorem Xv (k : Int) (c : UInt8) : 1 ≤ (one k c).length ∧ (one k c).length ≤ 3 := by unfold one; split <;> simp
theorem iL (k : Int) (L : List UInt8) : (enc k L).length ≤ 3 * L.length := by
 induction L with
 | nil => simp [enc]
 | cons c L ih =>
  have h := Xv k c
  have e : enc k (c :: L) = one k c ++ enc k L := by simp [enc]
  rw [e, List.length_append, List.length_cons]
  omega
theorem N9 (k : Nat) (h : k < (⟨#[48, 49, 50, 51, 52, 53, 54, 55, 56, 57, 65, 66, 67, 68, 69, 70]⟩ : ByteArray).size) : (⟨#[48, 49, 50, 51, 52, 53, 54, 55, 56, 57, 65, 66, 67, 68, 69, 70]⟩ : ByteArray)[k]'h = ru k := by
 have h' : k < 16 := h
 have hcase : k = 0 ∨ k = 1 ∨ k = 2 ∨ k = 3 ∨ k = 4 ∨ k = 5 ∨ k = 6 ∨ k = 7 ∨ k = 8 ∨ k = 9 ∨ k = 10 ∨ k = 11 ∨ k = 12 ∨ k = 13 ∨ k = 14 ∨ k = 15 := by omega
 rcases hcase with rfl | rfl | rfl | rfl | rfl | rfl | rfl | rfl | rfl | rfl | rfl | rfl | rfl | rfl | rfl | rfl <;> rfl
theorem ZV (a b c : Int) : ∀ u ∈ [Value.int .u8 a, Value.int .u8 b, Value.int .u8 c], u.oneCell' = true := by
 intro u hu
 simp at hu
 rcases hu with rfl | rfl | rfl <;> rfl
attribute [local go_sem ↓] Go.wp_at_zero Go.wp_at_succ
theorem fM (k : Int) (A : Option Addr) (n cap : Nat) (L : List UInt8) (w : World) (h : dS w A n (ak L)) (hm : n ≤ 1073741824) :
  Calls Tryz.prog 104 #[.int .i64 k, .slice A n cap] w fun e w' => e = .returned (.string (strOf (enc k L))) ∧ Below w.heap.size w w' := by
 have hl : L.length = n := by rw [← bF]; exact h.1
 have HL := hid hl
 clear hl
 obtain ⟨i0, hi, hz0, hz1, hz2⟩ := info_parts jU
 have HH := hid h
 clear h
 go_enter Tryz.func104, Tryz.ntmps104
 go_wp2_with (at_make; refine wpList_make_own _ rfl _ _ 30 rfl w.heap.size 5 i0 (.int .u8 0) 1 Tryz.underlying30 hi hz0 hz1 .i64 .i64 _ n rfl rfl rfl (by rw [hz2]; omega) (by unfold maxLen; omega) (Nat.le_refl _) ?_)
 intro w1 hown1 hg1
 have gB : Below w.heap.size w w1 := (Below.refl _ _).grown hg1 (Nat.le_refl _) (by intro k h; cases h)
 clear hg1
 go_wp2
 go_loopw [5, 13] (fun v vk wr => ∃ (j : Nat), j ≤ n ∧ vk = .int .i64 j ∧ wr.ownsRow w.heap.size 5 1 v (enc k (L.take j)).length (ak (enc k (L.take j))) ∧ Below w.heap.size w wr) (fun _ vk _ => n - (intOf vk).toNat)
 case atStart => exact ⟨0, Nat.zero_le _, rfl, hown1, gB⟩
 case round =>
  clear hown1 gB
  obtain ⟨j, hj, rfl, hown, hbel⟩ := hrel
  by_cases hlt : j < n
  ·obtain ⟨b, off, rfl, hb, _⟩ := (HH.out).spot (by omega)
   obtain ⟨c, hx⟩ : ∃ c, c = L[j]'(by rw [HL.out]; exact hlt) := ⟨_, rfl⟩
   have hcell : wr.cell? ⟨b, off + j, none⟩ = some (.int .u8 (c.toNat : Int)) := by
    rw [hx, ← HH.out.byte j (by rw [HL.out]; exact hlt)]
    exact hbel.cell (p := ⟨b, off + j, none⟩) hb
   have HS : Hid (L.take (j + 1) = L.take j ++ [c]) := by
    rw [hx]
    exact List.take_succ_eq_append_getElem (by rw [HL.out]; exact hlt)
   clear hx
   have hle := iL k (L.take j)
   have hle2 : (L.take j).length ≤ j := List.length_take_le _ _
   obtain ⟨m, hmm⟩ : ∃ m, m = (enc k (L.take j)).length := ⟨_, rfl⟩
   rw [← hmm] at hle hown
   have HM := hid hmm
   clear hmm
   have hc0 : (c.toNat : Int) < 256 := by have := c.toNat_lt; omega
   cases hin : jO k c.toNat
   ·have HI := hid hin
    clear hin
    go_wp2_with fail
    refine (acM _ _ _).mono ?_
    rintro e w2 ⟨rfl, rfl⟩
    rw [HI.out]
    go_wp2_with (at_builtin; refine bC rfl _ _ 30 rfl w.heap.size 5 i0 (.int .u8 0) 1 Tryz.underlying30 hi hz0 hz1 hz2 rfl _ m _ rfl hown hbel hbel.size [.int .u8 (c.toNat : Int)] 1 rfl rfl (by intro u hu; simp at hu; subst hu; rfl) (by unfold maxLen; omega) (by omega) ?_)
    intro v' w2 hown2 gG
    clear hown hbel
    go_wp2
    go_roundw
    case rel => exact ⟨j + 1, by omega, by go_num, by
      have e1 : one k c = [c] := by unfold one; rw [HI.out]; rfl
      rw [HS.out, uJ, e1, List.length_append, aX, ← HM.out]
      exact hown2, gG⟩
    case measure => simp [intOf]; omega
   ·have HI := hid hin
    clear hin
    go_wp2_with fail
    refine (acM _ _ _).mono ?_
    rintro e w2 ⟨rfl, rfl⟩
    rw [HI.out]
    go_wp2
    have q1 : (0 : Int) ≤ (c.toNat : Int) / 16 := by omega
    have q2 : (c.toNat : Int) / 16 < 16 := by omega
    have q3 : (0 : Int) ≤ (c.toNat : Int) % 16 := by omega
    have q4 : (c.toNat : Int) % 16 < 16 := by omega
    have q5 := QG c
    have q6 : ∀ h, (⟨#[48, 49, 50, 51, 52, 53, 54, 55, 56, 57, 65, 66, 67, 68, 69, 70]⟩ : ByteArray)[((c.toNat : Int) / 16).toNat]'h = ru (c.toNat / 16) := fun h => N9 _ h
    have q7 : ∀ h, (⟨#[48, 49, 50, 51, 52, 53, 54, 55, 56, 57, 65, 66, 67, 68, 69, 70]⟩ : ByteArray)[((c.toNat : Int) % 16).toNat]'h = ru (c.toNat % 16) := fun h => N9 _ h
    go_region_held3 (fun _ => True) (trivial) ((refine Tf (by rfl) _ _ 30 (by rfl) w.heap.size 5 i0 (.int .u8 0) 1 Tryz.underlying30 hi hz0 hz1 hz2 (by rfl) _ m _ (by rfl) hown hbel hbel.size [.int .u8 37, .int .u8 ((ru (c.toNat / 16)).toNat : Int), .int .u8 ((ru (c.toNat % 16)).toNat : Int)] 3 (by rfl) (by decide) (by rfl) (ZV _ _ _) (by unfold maxLen; omega) (by omega) ⟨(Below.refl _ _).drew, fun _ => rfl, by simp⟩ ?_; intro v' w2 hown2 gG))
    all_goals
     clear hown hbel q1 q2 q3 q4 q5 q6 q7
     go_wp2
     go_roundw
     case rel => exact ⟨j + 1, by omega, by go_num, by
       have e1 : one k c = [37, ru (c.toNat / 16), ru (c.toNat % 16)] := by unfold one; rw [if_pos HI.out]
       rw [HS.out, uJ, e1, List.length_append, aX, ← HM.out]
       exact hown2, gG⟩
     case measure => simp [intOf]; omega
  ·obtain rfl : j = n := by omega
   have HE : Hid (L.take j = L) := by
    rw [← HL.out]; exact List.take_length
   rw [HE.out] at hown
   obtain ⟨A', c', rfl, _, _, hrd⟩ := bZ hown
   have hst := aQ 30 9 5 Tryz.underlying30 Tryz.underlying5 Tryz.underlying9 _ c' hrd
   go_wp2
   go_ret
   exact ⟨rfl, hbel⟩
end Go.Proofs.YtcfgioklgmlclaaGreatDoor.aJ
namespace Go.Proofs.YtcfgioklgmlclaaGreatDoor.pO
open Go.RowKit Base eX
def esc : List UInt8 → Option UInt8
 | a :: b :: c :: _ => if a = 37 ∧ 0 ≤ hex b.toNat ∧ 0 ≤ hex c.toNat then some (UInt8.ofNat (16 * hex b.toNat + hex c.toNat).toNat) else none
 | _ => none
def tJ : Nat → List UInt8 → List UInt8
 | 0, _ => []
 | _ + 1, [] => []
 | n + 1, x :: t => match esc (x :: t) with
  | some c => c :: tJ n (t.drop 2)
  | none => x :: tJ n t
def dec (L : List UInt8) : List UInt8 := tJ L.length L
theorem qp : ∀ (n m : Nat) (L : List UInt8), L.length ≤ n → L.length ≤ m → tJ n L = tJ m L
 | 0, 0, _, _, _ => rfl
 | 0, m + 1, [], _, _ => rfl
 | 0, _ + 1, _ :: _, h, _ => by simp at h
 | n + 1, 0, [], _, _ => rfl
 | _ + 1, 0, _ :: _, _, h => by simp at h
 | _ + 1, _ + 1, [], _, _ => rfl
 | n + 1, m + 1, x :: t, h1, h2 => by
  simp only [List.length_cons] at h1 h2
  rw [tJ, tJ, qp n m _ (by simp; omega) (by simp; omega), qp n m _ (by omega) (by omega)]
theorem kK : dec [] = [] := rfl
theorem uI (x : UInt8) (t : List UInt8) (c : UInt8) (h : esc (x :: t) = some c) : dec (x :: t) = c :: dec (t.drop 2) := by
 unfold dec
 rw [List.length_cons, tJ, h]
 rw [qp t.length (t.drop 2).length _ (by simp) (Nat.le_refl _)]
theorem kC (x : UInt8) (t : List UInt8) (h : esc (x :: t) = none) : dec (x :: t) = x :: dec t := by
 unfold dec
 rw [List.length_cons, tJ, h]
theorem lu (L : List UInt8) : (dec L).length ≤ L.length := by
 have H : ∀ (n : Nat) (L : List UInt8), (tJ n L).length ≤ L.length := by
  intro n
  induction n with
  | zero => intro L; simp [tJ]
  | succ n ih =>
   intro L
   cases L with
   | nil => simp [tJ]
   | cons x t =>
    rw [tJ]
    split
    ·have := ih (t.drop 2)
     simp at this ⊢
     omega
    ·have := ih t
     simp at this ⊢
     omega
 exact H _ _
theorem Bc (c : UInt8) : -1 ≤ hex c.toNat ∧ hex c.toNat ≤ 15 := by
 unfold hex
 (repeat' split) <;> omega
attribute [local go_sem ↓] Go.wp_at_zero Go.wp_at_succ
def zS (L : List UInt8) : Value × Bool := match esc L with
 | some c => (.int .u8 (c.toNat : Int), true)
 | none => (.int .u8 0, false)
theorem Le (s : ByteArray) (h : s.size < 3) : esc s.data.toList = none := by
 have hl : s.data.toList.length < 3 := by rw [Array.length_toList]; exact h
 match e : s.data.toList, hl with
 | [], _ => rfl
 | [_], _ => rfl
 | [_, _], _ => rfl
theorem abQ (s : ByteArray) (h : 3 ≤ s.size) : ∃ t, s.data.toList = s[0] :: s[1] :: s[2] :: t := by
 have hl : 3 ≤ s.data.toList.length := by rw [Array.length_toList]; exact h
 match e : s.data.toList, hl with
 | a :: b :: c :: t, _ =>
  have e0 : s[0] = a := by
   have : s.data.toList[0]'(by omega) = a := by simp [e]
   exact this
  have e1 : s[1] = b := by
   have : s.data.toList[1]'(by omega) = b := by simp [e]
   exact this
  have e2 : s[2] = c := by
   have : s.data.toList[2]'(by omega) = c := by simp [e]
   exact this
  exact ⟨t, by rw [e0, e1, e2]⟩
theorem u8_of (z : Int) (h0 : 0 ≤ z) (h1 : z ≤ 255) : ((UInt8.ofNat z.toNat).toNat : Int) = z := by simp; omega
theorem or16 (h l : Int) (h0 : 0 ≤ h) (h1 : h ≤ 15) (l0 : 0 ≤ l) (l1 : l ≤ 15) : bits .or .i64 (h * 16) l = 16 * h + l := by
 have H : ∀ a b : Fin 16, bits .or .i64 ((a.val : Int) * 16) (b.val : Int) = 16 * (a.val : Int) + (b.val : Int) := by decide +kernel
 have := H ⟨h.toNat, by omega⟩ ⟨l.toNat, by omega⟩
 simp only [Int.toNat_of_nonneg h0, Int.toNat_of_nonneg l0] at this
 exact this
theorem hexq (c : Int) (w : World) (h0 : 0 ≤ c) (h1 : c ≤ 255) : Calls Tryz.prog 123 #[.int .u8 c] w fun e w' => e = .returned (.int .i64 (hex c)) ∧ w' = w :=
 (kL c w h0 h1).mono fun _ _ ⟨he, hw⟩ => ⟨he, hw.symm⟩
theorem Fz (s : ByteArray) (w : World) (hs : s.size ≤ maxLen) : Calls Tryz.prog 74 #[.string s] w fun e w' => e = .returned (.tuple #[(zS s.data.toList).1, .bool (zS s.data.toList).2]) ∧ Below w.heap.size w w' := by
 unfold maxLen at hs
 by_cases h3 : s.size < 3
 ·have HE : Hid (zS s.data.toList = (.int .u8 0, false)) := by unfold zS; rw [Le s h3]; exact rfl
  have h3' : (s.size : Int) < 3 := by omega
  go_enter Tryz.func74, Tryz.ntmps74
  go_wp2
  go_ret2
  rw [HE.out]
  exact ⟨rfl, Below.refl _ _⟩
 ·have h3' : (3 : Int) ≤ (s.size : Int) := by omega
  obtain ⟨t, ht⟩ := abQ s (by omega)
  obtain ⟨a, ha⟩ : ∃ a, s[0] = a := ⟨_, rfl⟩
  obtain ⟨b, hb⟩ : ∃ b, s[1] = b := ⟨_, rfl⟩
  obtain ⟨c, hc⟩ : ∃ c, s[2] = c := ⟨_, rfl⟩
  rw [ha, hb, hc] at ht
  have HT := hid ht
  clear ht
  have hb0 : 0 ≤ (b.toNat : Int) ∧ (b.toNat : Int) ≤ 255 := by have := b.toNat_lt; omega
  have hc0 : 0 ≤ (c.toNat : Int) ∧ (c.toNat : Int) ≤ 255 := by have := c.toNat_lt; omega
  by_cases h37 : a = 37
  ·subst h37
   have h37' : (((37 : UInt8).toNat : Int) != 37) = false := by decide
   obtain ⟨hx1, hx2⟩ := Bc b
   obtain ⟨hy1, hy2⟩ := Bc c
   by_cases hx : hex b.toNat < 0
   ·have HE : Hid (zS s.data.toList = (.int .u8 0, false)) := by
     unfold zS
     rw [HT.out, esc, if_neg (by intro h; omega)]
     exact rfl
    go_enter Tryz.func74, Tryz.ntmps74
    go_wp2
    go_quiet ((go_at_call 123; exact Calls.quiet_of_same (hexq _ _ (by omega) (by omega))))
    go_wp2
    go_ret2
    rw [HE.out]
    exact ⟨rfl, Base.below_drewN (Below.refl _ _) _⟩
   ·have hx' : 0 ≤ hex b.toNat := by omega
    clear hx hx1
    by_cases hy : hex c.toNat < 0
    ·have HE : Hid (zS s.data.toList = (.int .u8 0, false)) := by
      unfold zS
      rw [HT.out, esc, if_neg (by intro h; omega)]
      exact rfl
     go_enter Tryz.func74, Tryz.ntmps74
     go_wp2
     go_quiet ((go_at_call 123; exact Calls.quiet_of_same (hexq _ _ (by omega) (by omega))))
     go_wp2
     go_ret2
     rw [HE.out]
     exact ⟨rfl, Base.below_drewN (Below.refl _ _) _⟩
    ·have hy' : 0 ≤ hex c.toNat := by omega
     clear hy hy1
     have HE : Hid (zS s.data.toList = (.int .u8 (16 * hex b.toNat + hex c.toNat), true)) := by
      unfold zS
      rw [HT.out, esc, if_pos ⟨rfl, hx', hy'⟩]
      show (Value.int .u8 ((UInt8.ofNat (16 * hex b.toNat + hex c.toNat).toNat).toNat : Int), true) = _
      rw [u8_of _ (by omega) (by omega)]
     have hor := or16 _ _ hx' hx2 hy' hy2
     go_enter Tryz.func74, Tryz.ntmps74
     go_wp2
     go_quiet ((go_at_call 123; exact Calls.quiet_of_same (hexq _ _ (by omega) (by omega))))
     go_wp2
     go_ret2
     rw [HE.out]
     exact ⟨nR rfl rfl, Base.below_drewN (Below.refl _ _) _⟩
  ·have HE : Hid (zS s.data.toList = (.int .u8 0, false)) := by
    unfold zS
    rw [HT.out, esc, if_neg (by intro h; exact h37 h.1)]
    exact rfl
   have h37' : ((a.toNat : Int) != 37) = true := by
    simp
    intro h
    exact h37 (UInt8.toNat_inj.1 (by simp; omega))
   go_enter Tryz.func74, Tryz.ntmps74
   go_wp2
   go_ret2
   rw [HE.out]
   exact ⟨rfl, Below.refl _ _⟩
theorem extract_drop (s : ByteArray) (k : Nat) (_h : k ≤ s.size) : (s.extract k s.size).data.toList = s.data.toList.drop k := by
 rw [ByteArray.data_extract]
 simp [Array.toList_extract, List.extract_eq_take_drop]
 rw [List.take_of_length_le (by rw [List.length_drop, Array.length_toList]; exact Nat.le_refl _)]
theorem decode_any (s : ByteArray) (w : World) (hs : s.size ≤ 1073741824) : Calls Tryz.prog 32 #[.string s] w fun e w' => ∃ v, e = .returned v ∧ w'.ownsRow w.heap.size 5 1 v (dec s.data.toList).length (ak (dec s.data.toList)) ∧ Below w.heap.size w w' := by
 obtain ⟨i0, hi, hz0, hz1, hz2⟩ := info_parts jU
 have hl : s.data.toList.length = s.size := Array.length_toList
 have HL := hid hl
 clear hl
 go_enter Tryz.func32, Tryz.ntmps32
 go_wp2_with (at_make; refine wpList_make_own _ rfl _ _ 30 rfl w.heap.size 5 i0 (.int .u8 0) 1 Tryz.underlying30 hi hz0 hz1 .i64 .i64 _ s.size rfl rfl rfl (by rw [hz2]; omega) (by unfold maxLen; omega) (Nat.le_refl _) ?_)
 intro w1 hown1 hg1
 have gB : Below w.heap.size w w1 := (Below.refl _ _).grown hg1 (Nat.le_refl _) (by intro k h; cases h)
 clear hg1
 go_wp2
 go_loopw [3, 4] (fun v vk wr => ∃ (j : Nat) (X : List UInt8), j ≤ s.size ∧ X.length ≤ j ∧ vk = .int .i64 j ∧ wr.ownsRow w.heap.size 5 1 v X.length (ak X) ∧ Below w.heap.size w wr ∧ Hid (X ++ dec (s.data.toList.drop j) = dec s.data.toList)) (fun _ vk _ => s.size - (intOf vk).toNat)
 case atStart => exact ⟨0, [], Nat.zero_le _, Nat.le_refl _, rfl, hown1, gB, rfl⟩
 case round =>
  clear hown1 gB
  obtain ⟨j, X, hj, hX, rfl, hown, hbel, HT⟩ := hrel
  by_cases hlt : j < s.size
  ·obtain ⟨x, hx⟩ : ∃ x, s[j] = x := ⟨_, rfl⟩
   have hd : s.data.toList.drop j = x :: s.data.toList.drop (j + 1) := by
    rw [← hx]
    exact List.drop_eq_getElem_cons (by rw [HL.out]; exact hlt)
   have HD := hid hd
   clear hd
   have HEX : Hid ((s.extract j s.size).data.toList = s.data.toList.drop j) := extract_drop s j hj
   have hsz : (s.extract j s.size).size = s.size - j := by simp
   have JW := hid hsz
   clear hsz
   cases AZ : esc (s.data.toList.drop j) with
   | none =>
    have HV : Hid (zS (s.extract j s.size).data.toList = (.int .u8 0, false)) := by
     unfold zS
     rw [HEX.out, AZ]
     exact rfl
    have HN : Hid (dec (s.data.toList.drop j) = x :: dec (s.data.toList.drop (j + 1))) := by
     rw [HD.out] at AZ ⊢
     exact kC _ _ AZ
    clear AZ
    go_wp2_with fail
    refine (Fz _ _ (by rw [JW.out]; unfold maxLen; omega)).mono ?_
    rintro e w2 ⟨rfl, hb2⟩
    rw [HV.out]
    have hown2 := aI hown hb2
    have gG := hbel.trans (hb2.mono hbel.size)
    clear hown hbel
    go_wp2_with (at_builtin; refine bC rfl _ _ 30 rfl w.heap.size 5 i0 (.int .u8 0) 1 Tryz.underlying30 hi hz0 hz1 hz2 rfl _ X.length _ rfl hown2 gG gG.size [.int .u8 (x.toNat : Int)] 1 rfl rfl (by intro u hu; simp at hu; subst hu; rfl) (by unfold maxLen; omega) (by omega) ?_)
    intro v' w3 hown3 dK
    clear hown2 gG
    go_wp2
    go_roundw
    case rel => exact ⟨j + 1, X ++ [x], by omega, by simp; omega, by go_num, by rw [aX, List.length_append]; exact hown3, dK, by
      rw [List.append_assoc]
      have := HT.out
      rw [HN.out] at this
      exact this⟩
    case measure => simp [intOf]; omega
   | some c =>
    have h3 : j + 3 ≤ s.size := by
     rcases Nat.lt_or_ge (s.size - j) 3 with h | h
     ·have := Le (s.extract j s.size) (by rw [JW.out]; exact h)
      rw [HEX.out, AZ] at this
      cases this
     ·omega
    have HV : Hid (zS (s.extract j s.size).data.toList = (.int .u8 (c.toNat : Int), true)) := by
     unfold zS
     rw [HEX.out, AZ]
     exact rfl
    have HN : Hid (dec (s.data.toList.drop j) = c :: dec (s.data.toList.drop (j + 3))) := by
     rw [HD.out] at AZ ⊢
     rw [uI _ _ _ AZ, List.drop_drop]
     exact rfl
    clear AZ
    go_wp2_with fail
    refine (Fz _ _ (by rw [JW.out]; unfold maxLen; omega)).mono ?_
    rintro e w2 ⟨rfl, hb2⟩
    rw [HV.out]
    have hown2 := aI hown hb2
    have gG := hbel.trans (hb2.mono hbel.size)
    clear hown hbel
    go_wp2_with (at_builtin; refine bC rfl _ _ 30 rfl w.heap.size 5 i0 (.int .u8 0) 1 Tryz.underlying30 hi hz0 hz1 hz2 rfl _ X.length _ rfl hown2 gG gG.size [.int .u8 (c.toNat : Int)] 1 rfl rfl (by intro u hu; simp at hu; subst hu; rfl) (by unfold maxLen; omega) (by omega) ?_)
    intro v' w3 hown3 dK
    clear hown2 gG
    go_wp2
    go_roundw
    case rel => exact ⟨j + 3, X ++ [c], by omega, by simp; omega, by rw [show ((j + 3 : Nat) : Int) = (j : Int) + 2 + 1 by omega], by rw [aX, List.length_append]; exact hown3, dK, by
      rw [List.append_assoc]
      have := HT.out
      rw [HN.out] at this
      exact this⟩
    case measure => simp [intOf]; omega
  ·obtain rfl : j = s.size := by omega
   have HE : Hid (X = dec s.data.toList) := by
    have e := HT.out
    rw [← HL.out, List.drop_length, kK, List.append_nil] at e
    exact e
   go_wp2
   go_ret
   exact ⟨_, rfl, by rw [← HE.out]; exact hown, hbel⟩
end Go.Proofs.YtcfgioklgmlclaaGreatDoor.pO
namespace Go.Proofs.YtcfgioklgmlclaaGreatDoor.pV
open Go.RowKit Base fE eX
def BK (L : List UInt8) : Bool := decide (L = [46]) || decide (lower L = [37, 50, 101])
def Dc (L : List UInt8) : Bool := decide (lower L = [46, 46]) || decide (lower L = [46, 37, 50, 101]) || decide (lower L = [37, 50, 101, 46]) || decide (lower L = [37, 50, 101, 37, 50, 101])
def drv (L : List UInt8) : Bool := match L with
 | [a, b] => letter (a.toNat : Int) && (decide (b = 58) || decide (b = 124))
 | _ => false
def nrm (L : List UInt8) : Bool := match L with
 | [a, b] => letter (a.toNat : Int) && decide (b = 58)
 | _ => false
def Fp (L : List UInt8) : Bool := match L with
 | [a, b] => drv [a, b]
 | a :: b :: c :: _ => drv [a, b] && (decide (c = 47) || decide (c = 92) || decide (c = 63) || decide (c = 35))
 | _ => false
theorem low46 (c : UInt8) : low c = 46 ↔ c = 46 := by
 have H : ∀ n : Fin 256, low (UInt8.ofNat n.val) = 46 ↔ UInt8.ofNat n.val = 46 := by decide +kernel
 have := H ⟨c.toNat, c.toNat_lt⟩
 simpa using this
theorem iH (c : UInt8) (L : List UInt8) : lower (c :: L) = low c :: lower L := rfl
theorem zA (L : List UInt8) : lower L = [46] ↔ L = [46] := by
 constructor
 ·intro h
  match L, h with
  | [c], h => rw [iH] at h; injection h with h _; rw [(low46 c).1 h]
  | _ :: _ :: _, h => simp [lower] at h
  | [], h => simp [lower] at h
 ·rintro rfl; rfl
theorem dbl_dot (L : List UInt8) : Dc (46 :: L) = BK L := by
 have e : low 46 = 46 := rfl
 unfold Dc BK
 rw [iH, e, Bool.eq_iff_iff]
 simp [← zA L]
theorem KW (c : UInt8) (L : List UInt8) (hc : c ≠ 46) : Dc (c :: L) = (decide (3 < (c :: L).length) && (BK ((c :: L).take 3) && BK ((c :: L).drop 3))) := by
 have hl : low c ≠ 46 := fun h => hc ((low46 c).1 h)
 match L with
 | [] => simp [Dc, lower, hl]
 | [_] => simp [Dc, lower, hl]
 | [_, _] => simp [Dc, lower, hl]
 | a :: b :: d :: L =>
  unfold Dc BK
  simp only [List.take_succ_cons, List.take_zero, List.drop_succ_cons, List.drop_zero, iH, List.length_cons]
  rw [Bool.eq_iff_iff]
  simp [hl, ← zA (d :: L), iH, show lower ([] : List UInt8) = [] from rfl]
  constructor
  ·rintro (⟨h1, h2, h3, h4, h5⟩ | ⟨h1, h2, h3, h4⟩)
   ·exact ⟨⟨h1, h2, h3⟩, .inl ⟨h4, h5⟩⟩
   ·exact ⟨⟨h1, h2, h3⟩, .inr h4⟩
  ·rintro ⟨⟨h1, h2, h3⟩, ⟨h4, h5⟩ | h4⟩
   ·exact .inl ⟨h1, h2, h3, h4, h5⟩
   ·exact .inr ⟨h1, h2, h3, h4⟩
end Go.Proofs.YtcfgioklgmlclaaGreatDoor.pV
namespace Go.Proofs.YtcfgioklgmlclaaGreatDoor.Ur
open Go.RowKit Base aP fE eX pV
theorem tl (s : ByteArray) : s.toList = s.data.toList := by
 obtain ⟨d⟩ := s; rw [ByteArray.toList_mk]
theorem Hq (s : ByteArray) (L : List UInt8) : (s.toList == L) = decide (s.data.toList = L) := by
 rw [tl, Bool.eq_iff_iff]; simp
theorem Yx (M L : List UInt8) : ((strOf M).toList == L) = decide (M = L) := Hq (strOf M) L
theorem jG (s : ByteArray) (w : World) (hs : s.size ≤ maxLen) : Calls Tryz.prog 217 #[.string s] w fun e w' => e = .returned (.bool (BK s.data.toList)) ∧ Below w.heap.size w w' := by
 obtain ⟨o, ho⟩ : ∃ o, o = BK s.data.toList := ⟨_, rfl⟩
 rw [← ho]
 by_cases h1 : s.data.toList = [46]
 ·have q1 : (s.toList == [46]) = true := by rw [Hq]; exact decide_eq_true h1
  have HO : Hid (o = true) := by show _ = _; rw [ho]; unfold BK; rw [decide_eq_true h1]; rfl
  clear h1 ho
  go_enter Tryz.func217, Tryz.ntmps217
  go_wp2
  go_ret
  exact ⟨aB HO.out.symm, Below.refl _ _⟩
 ·have q1 : (s.toList == [46]) = false := by rw [Hq]; exact decide_eq_false h1
  obtain ⟨V, hV⟩ : ∃ V, V = strOf (lower s.data.toList) := ⟨_, rfl⟩
  have q2 : (V.toList == [37, 50, 101]) = o := by rw [hV, Yx, ho]; unfold BK; rw [decide_eq_false h1, Bool.false_or]
  have HV := hid hV
  have HQ := hid q2
  clear h1 ho hV q2
  go_enter Tryz.func217, Tryz.ntmps217
  go_wp2_with fail
  refine (fE.gq s _ hs).mono ?_
  rintro e w2 ⟨rfl, hb2⟩
  rw [← HV.out]
  go_wp2
  go_ret
  exact ⟨aB HQ.out, hb2⟩
end Go.Proofs.YtcfgioklgmlclaaGreatDoor.Ur
namespace Go.Proofs.YtcfgioklgmlclaaGreatDoor.G7
open Go.RowKit Base aP fE eX pV Ur
theorem u8_eq (c : UInt8) (n : Nat) (hn : n < 256) : decide (c = UInt8.ofNat n) = decide (c.toNat = n) := by
 refine decide_eq_decide.2 ⟨?_, ?_⟩
 ·rintro rfl; simp; omega
 ·intro h; rw [← h]; simp
theorem eq58 (c : UInt8) : decide (c = 58) = decide (c.toNat = 58) := u8_eq c 58 (by omega)
theorem eq124 (c : UInt8) : decide (c = 124) = decide (c.toNat = 124) := u8_eq c 124 (by omega)
theorem Pv (s : ByteArray) (h : s.size = 2) : s.data.toList = [s[0]'(by omega), s[1]'(by omega)] := by
 refine List.ext_getElem ((show s.data.toList.length = s.size from Array.length_toList).trans h) fun i h1 h2 => ?_
 have : i = 0 ∨ i = 1 := by simp at h2; omega
 rcases this with rfl | rfl <;> rfl
theorem Gg (L : List UInt8) (h : drv L = true) : L.length = 2 := by
 match L, h with
 | [_, _], _ => rfl
theorem drv_not (L : List UInt8) (h : L.length ≠ 2) : drv L = false := by
 cases e : drv L with
 | false => rfl
 | true => exact absurd (Gg L e) h
theorem nrm_not (L : List UInt8) (h : drv L = false) : nrm L = false := by
 match L, h with
 | [], _ => rfl
 | [_], _ => rfl
 | [a, b], h =>
  simp only [drv, nrm] at h ⊢
  cases hl : letter (a.toNat : Int) with
  | false => rfl
  | true =>
   rw [hl] at h
   simp at h
   simp [h.1]
 | _ :: _ :: _ :: _, _ => rfl
theorem nrm_yes (a b : UInt8) (h : drv [a, b] = true) : nrm [a, b] = decide (b = 58) := by
 simp only [drv, nrm, Bool.and_eq_true] at h ⊢
 rw [h.1, Bool.true_and]
theorem jL (s : ByteArray) (w : World) : Calls Tryz.prog 184 #[.string s] w fun e w' => e = .returned (.bool (drv s.data.toList)) ∧ w = w' := by
 obtain ⟨o, ho⟩ : ∃ o, o = drv s.data.toList := ⟨_, rfl⟩
 rw [← ho]
 by_cases h2 : s.size = 2
 ·have h0 : 0 < s.size := by omega
  have h1 : 1 < s.size := by omega
  obtain ⟨a, ha⟩ : ∃ a, s[0] = a := ⟨_, rfl⟩
  obtain ⟨b, hb⟩ : ∃ b, s[1] = b := ⟨_, rfl⟩
  have q1 : ((s.size : Int) == 2) = true := by simp; omega
  obtain ⟨p, hp⟩ : ∃ p, p = letter (a.toNat : Int) := ⟨_, rfl⟩
  have HO : Hid (o = (p && (decide (b.toNat = 58) || decide (b.toNat = 124)))) := by
   show _ = _
   rw [ho, Pv s h2, drv, ha, hb, hp, eq58, eq124]
  have HP := hid hp
  have H2 := hid h2
  clear ho hp h2
  by_cases e1 : b.toNat = 58
  ·have q2 : ((b.toNat : Int) == 58) = true := by simp; omega
   have HE : Hid (o = p) := by show _ = _; rw [HO.out, decide_eq_true e1]; simp
   clear e1
   cases p
   all_goals
    go_enter Tryz.func184, Tryz.ntmps184
    go_wp2_with fail
    refine (eX.fB _ _).mono ?_
    rintro e w2 ⟨rfl, rfl⟩
    rw [← HP.out]
    go_wp2
    go_ret
    exact ⟨aB HE.out.symm, rfl⟩
  ·have q2 : ((b.toNat : Int) == 58) = false := by simp; omega
   by_cases e2 : b.toNat = 124
   ·have q3 : ((b.toNat : Int) == 124) = true := by simp; omega
    have HE : Hid (o = p) := by show _ = _; rw [HO.out, decide_eq_true e2]; simp
    clear e1 e2
    cases p
    all_goals
     go_enter Tryz.func184, Tryz.ntmps184
     go_wp2_with fail
     refine (eX.fB _ _).mono ?_
     rintro e w2 ⟨rfl, rfl⟩
     rw [← HP.out]
     go_wp2
     go_ret
     exact ⟨aB HE.out.symm, rfl⟩
   ·have q3 : ((b.toNat : Int) == 124) = false := by simp; omega
    have HE : Hid (o = false) := by show _ = _; rw [HO.out, decide_eq_false e1, decide_eq_false e2]; simp
    clear e1 e2
    cases p
    all_goals
     go_enter Tryz.func184, Tryz.ntmps184
     go_wp2_with fail
     refine (eX.fB _ _).mono ?_
     rintro e w2 ⟨rfl, rfl⟩
     rw [← HP.out]
     go_wp2
     go_ret
     exact ⟨aB HE.out.symm, rfl⟩
 ·have q1 : ((s.size : Int) == 2) = false := by simp; omega
  have HE : Hid (o = false) := by show _ = _; rw [ho]; exact drv_not _ (by rw [show s.data.toList.length = s.size from Array.length_toList]; exact h2)
  clear h2 ho
  go_enter Tryz.func184, Tryz.ntmps184
  go_wp2
  go_ret
  exact ⟨aB HE.out.symm, rfl⟩
theorem Bq (s : ByteArray) (w : World) : Calls Tryz.prog 148 #[.string s] w fun e w' => e = .returned (.bool (nrm s.data.toList)) ∧ w = w' := by
 obtain ⟨o, ho⟩ : ∃ o, o = nrm s.data.toList := ⟨_, rfl⟩
 rw [← ho]
 obtain ⟨d, hd⟩ : ∃ d, d = drv s.data.toList := ⟨_, rfl⟩
 have HD := hid hd
 cases d with
 | false =>
  have HE : Hid (o = false) := by show _ = _; rw [ho]; exact nrm_not _ hd.symm
  clear hd ho
  go_enter Tryz.func148, Tryz.ntmps148
  go_wp2_with fail
  refine (jL _ _).mono ?_
  rintro e w2 ⟨rfl, rfl⟩
  rw [← HD.out]
  go_wp2
  go_ret
  exact ⟨aB HE.out.symm, rfl⟩
 | true =>
  have h2 : s.size = 2 := by
   have := Gg _ hd.symm
   rw [show s.data.toList.length = s.size from Array.length_toList] at this
   exact this
  have h1 : 1 < s.size := by omega
  obtain ⟨b, hb⟩ : ∃ b, s[1] = b := ⟨_, rfl⟩
  have HE : Hid (o = decide (b.toNat = 58)) := by
   show _ = _
   rw [ho, ← eq58]
   rw [Pv s h2] at hd ⊢
   rw [hb] at hd ⊢
   exact nrm_yes _ _ hd.symm
  clear hd ho h2
  by_cases e1 : b.toNat = 58
  ·have q2 : ((b.toNat : Int) == 58) = true := by simp; omega
   have HF : Hid (o = true) := HE.out.trans (decide_eq_true e1)
   clear e1
   go_enter Tryz.func148, Tryz.ntmps148
   go_wp2_with fail
   refine (jL _ _).mono ?_
   rintro e w2 ⟨rfl, rfl⟩
   rw [← HD.out]
   go_wp2
   go_ret
   exact ⟨aB HF.out.symm, rfl⟩
  ·have q2 : ((b.toNat : Int) == 58) = false := by simp; omega
   have HF : Hid (o = false) := HE.out.trans (decide_eq_false e1)
   clear e1
   go_enter Tryz.func148, Tryz.ntmps148
   go_wp2_with fail
   refine (jL _ _).mono ?_
   rintro e w2 ⟨rfl, rfl⟩
   rw [← HD.out]
   go_wp2
   go_ret
   exact ⟨aB HF.out.symm, rfl⟩
end Go.Proofs.YtcfgioklgmlclaaGreatDoor.G7
namespace Go.Proofs.YtcfgioklgmlclaaGreatDoor.PthC
open Go.RowKit Base aP fE eX pV Ur
theorem ext_size (s : ByteArray) (a b : Nat) : (s.extract a b).size ≤ s.size := by
 rw [ByteArray.size_extract]; omega
theorem lN (s : ByteArray) (w : World) (hs : s.size ≤ 1073741824) : Calls Tryz.prog 216 #[.string s] w fun e w' => e = .returned (.bool (Dc s.data.toList)) ∧ Below w.heap.size w w' := by
 have hl : s.data.toList.length = s.size := Array.length_toList
 obtain ⟨o, ho⟩ : ∃ o, o = Dc s.data.toList := ⟨_, rfl⟩
 rw [← ho]
 obtain ⟨P, hP⟩ : ∃ P, P = Lib.hasPrefix s.data.toList [46] := ⟨_, rfl⟩
 have HP := hid hP
 cases P with
 | true =>
  obtain ⟨t, ht⟩ : ∃ t, s.data.toList = 46 :: t := by
   unfold Lib.hasPrefix at hP
   match h : s.data.toList, hP with
   | c :: t, hP =>
    simp at hP
    exact ⟨t, by rw [hP]⟩
  have h1 : 1 ≤ s.size := by rw [← hl, ht]; simp
  obtain ⟨X, hX⟩ : ∃ X, X = s.extract 1 s.size := ⟨_, rfl⟩
  have hx : s.extract 1 s.size = X := hX.symm
  have Gh : X.data.toList = t := by rw [hX, fZ.ext_drop s 1 s.size rfl, ht]; rfl
  have Qd : X.size ≤ maxLen := by rw [hX]; have := ext_size s 1 s.size; unfold maxLen; omega
  have HE : Hid (o = BK X.data.toList) := by show _ = _; rw [ho, ht, dbl_dot, Gh]
  have HXS := hid Qd
  clear hP ht hX Gh ho hl Qd
  go_enter Tryz.func216, Tryz.ntmps216
  go_wp2_with fail
  refine (Tryz.strings_HasPrefix s ⟨#[46]⟩ _).mono ?_
  rintro e w2 ⟨rfl, rfl⟩
  rw [← HP.out]
  go_wp2_with fail
  refine (jG X _ HXS.out).mono ?_
  rintro e w3 ⟨rfl, hb3⟩
  rw [← HE.out]
  go_wp2
  go_ret
  exact ⟨rfl, hb3⟩
 | false =>
  by_cases h4 : 3 < s.size
  ·obtain ⟨X, hX⟩ : ∃ X, X = s.extract 0 3 := ⟨_, rfl⟩
   obtain ⟨Y, hY⟩ : ∃ Y, Y = s.extract 3 s.size := ⟨_, rfl⟩
   have hx : s.extract 0 3 = X := hX.symm
   have hy : s.extract 3 s.size = Y := hY.symm
   have HXS : Hid (X.size ≤ maxLen) := by show _ ≤ _; rw [hX]; have := ext_size s 0 3; unfold maxLen; omega
   have HYS : Hid (Y.size ≤ maxLen) := by show _ ≤ _; rw [hY]; have := ext_size s 3 s.size; unfold maxLen; omega
   obtain ⟨p, hp⟩ : ∃ p, p = BK X.data.toList := ⟨_, rfl⟩
   obtain ⟨q, hq⟩ : ∃ q, q = BK Y.data.toList := ⟨_, rfl⟩
   have HE : Hid (o = (p && q)) := by
    show _ = _
    rw [ho, hp, hq, hX, hY, fZ.ext_take, fZ.ext_drop s 3 s.size rfl]
    show Dc s.data.toList = (BK (s.data.toList.take 3) && BK (s.data.toList.drop 3))
    match h : s.data.toList, hP with
    | [], _ => rw [h] at hl; simp at hl; omega
    | c :: t, hP =>
     have hc : c ≠ 46 := by
      rintro rfl
      simp [Lib.hasPrefix] at hP
     rw [KW c t hc, decide_eq_true (by rw [← h, hl]; exact h4), Bool.true_and]
   have HPP := hid hp
   have Uf := hid hq
   have h4' : (3 : Int) < (s.size : Int) := by omega
   clear hP hX hY ho hl hp hq
   cases p with
   | true =>
    go_enter Tryz.func216, Tryz.ntmps216
    go_wp2_with fail
    refine (Tryz.strings_HasPrefix s ⟨#[46]⟩ _).mono ?_
    rintro e w2 ⟨rfl, rfl⟩
    rw [← HP.out]
    go_wp2_with fail
    refine (jG X _ HXS.out).mono ?_
    rintro e w3 ⟨rfl, hb3⟩
    rw [← HPP.out]
    go_wp2_with fail
    refine (jG Y _ HYS.out).mono ?_
    rintro e w4 ⟨rfl, hb4⟩
    rw [← Uf.out]
    have HF : Hid (o = q) := by show _ = _; rw [HE.out, Bool.true_and]
    go_wp2
    go_ret
    exact ⟨aB HF.out.symm, bel hb3 hb4⟩
   | false =>
    have HF : Hid (o = false) := by show _ = _; rw [HE.out, Bool.false_and]
    go_enter Tryz.func216, Tryz.ntmps216
    go_wp2_with fail
    refine (Tryz.strings_HasPrefix s ⟨#[46]⟩ _).mono ?_
    rintro e w2 ⟨rfl, rfl⟩
    rw [← HP.out]
    go_wp2_with fail
    refine (jG X _ HXS.out).mono ?_
    rintro e w3 ⟨rfl, hb3⟩
    rw [← HPP.out]
    go_wp2
    go_ret
    exact ⟨aB HF.out.symm, hb3⟩
  ·have HF : Hid (o = false) := by
    show _ = _
    rw [ho]
    match h : s.data.toList, hP with
    | [], _ => rfl
    | c :: t, hP =>
     have hc : c ≠ 46 := by
      rintro rfl
      simp [Lib.hasPrefix] at hP
     rw [KW c t hc, decide_eq_false (by rw [← h, hl]; exact h4), Bool.false_and]
   have h4' : ¬ (3 : Int) < (s.size : Int) := by omega
   clear hP ho hl
   go_enter Tryz.func216, Tryz.ntmps216
   go_wp2_with fail
   refine (Tryz.strings_HasPrefix s ⟨#[46]⟩ _).mono ?_
   rintro e w2 ⟨rfl, rfl⟩
   rw [← HP.out]
   go_wp2
   go_ret
   exact ⟨aB HF.out.symm, Below.refl _ _⟩
end Go.Proofs.YtcfgioklgmlclaaGreatDoor.PthC
namespace Go.Proofs.YtcfgioklgmlclaaGreatDoor.PthD
open Go.RowKit Base aP fE eX pV Ur G7
def inq (c : UInt8) : Bool := decide (c = 47) || decide (c = 92) || decide (c = 63) || decide (c = 35)
theorem Zb (c : UInt8) : 0 ≤ Lib.indexByte [47, 92, 63, 35] (c.toNat : Int).toNat.toUInt8 ↔ inq c = true := by
 have H : ∀ n : Fin 256, 0 ≤ Lib.indexByte [47, 92, 63, 35] ((n.val : Nat) : Int).toNat.toUInt8 ↔ inq (UInt8.ofNat n.val) = true := by decide +kernel
 have := H ⟨c.toNat, c.toNat_lt⟩
 simpa using this
theorem Yy (L : List UInt8) (h : L.length < 2) : Fp L = false := by
 match L, h with
 | [], _ => rfl
 | [_], _ => rfl
theorem bgn_two (L : List UInt8) (h : L.length = 2) : Fp L = drv (L.take 2) := by
 match L, h with
 | [_, _], _ => rfl
theorem abf (s : ByteArray) (h : 2 < s.size) : Fp s.data.toList = (drv (s.data.toList.take 2) && inq (s[2])) := by
 have hl : s.data.toList.length = s.size := Array.length_toList
 have h2 : s.data.toList[2]'(by rw [hl]; exact h) = s[2] := rfl
 rw [← h2]
 generalize s.data.toList = L at hl
 match L, hl with
 | [], hl => simp at hl; omega
 | [_], hl => simp at hl; omega
 | [_, _], hl => simp at hl; omega
 | a :: b :: c :: t, _ => rfl
theorem Ho (s : ByteArray) (w : World) (hs : s.size ≤ 1073741824) : Calls Tryz.prog 149 #[.string s] w fun e w' => e = .returned (.bool (Fp s.data.toList)) ∧ w = w' := by
 have hl : s.data.toList.length = s.size := Array.length_toList
 obtain ⟨o, ho⟩ : ∃ o, o = Fp s.data.toList := ⟨_, rfl⟩
 rw [← ho]
 by_cases h2 : s.size < 2
 ·have HE : Hid (o = false) := by show _ = _; rw [ho]; exact Yy _ (by rw [hl]; exact h2)
  have q1 : (s.size : Int) < 2 := by omega
  clear ho hl h2
  go_enter Tryz.func149, Tryz.ntmps149
  go_wp2
  go_ret
  exact ⟨aB HE.out.symm, rfl⟩
 ·have q1 : ¬ (s.size : Int) < 2 := by omega
  have q2 : 2 ≤ s.size := by omega
  obtain ⟨X, hX⟩ : ∃ X, X = s.extract 0 2 := ⟨_, rfl⟩
  have hx : s.extract 0 2 = X := hX.symm
  have Gh : X.data.toList = s.data.toList.take 2 := by rw [hX, fZ.ext_take]; rfl
  obtain ⟨d, hd⟩ : ∃ d, d = drv X.data.toList := ⟨_, rfl⟩
  have HD := hid hd
  by_cases h22 : s.size = 2
  ·have HE : Hid (o = d) := by show _ = _; rw [ho, hd, Gh]; exact bgn_two _ (by rw [hl]; exact h22)
   have q3 : ((s.size : Int) == 2) = true := by simp; omega
   clear ho hl h2 hX Gh hd h22
   cases d
   all_goals
    go_enter Tryz.func149, Tryz.ntmps149
    go_wp2_with fail
    refine (jL _ _).mono ?_
    rintro e w2 ⟨rfl, rfl⟩
    rw [← HD.out]
    go_wp2
    go_ret
    exact ⟨aB HE.out.symm, rfl⟩
  ·have q3 : ((s.size : Int) == 2) = false := by simp; omega
   have h3 : 2 < s.size := by omega
   obtain ⟨c, hc⟩ : ∃ c, s[2] = c := ⟨_, rfl⟩
   obtain ⟨i, hi⟩ : ∃ i, i = inq c := ⟨_, rfl⟩
   have HE : Hid (o = (d && i)) := by show _ = _; rw [ho, hd, Gh, hi, ← hc]; exact abf s h3
   have HI := hid hi
   clear ho hl h2 hX Gh hd h22
   cases d with
   | false =>
    have HF : Hid (o = false) := by show _ = _; rw [HE.out, Bool.false_and]
    clear hi
    go_enter Tryz.func149, Tryz.ntmps149
    go_wp2_with fail
    refine (jL _ _).mono ?_
    rintro e w2 ⟨rfl, rfl⟩
    rw [← HD.out]
    go_wp2
    go_ret
    exact ⟨aB HF.out.symm, rfl⟩
   | true =>
    have HF : Hid (o = i) := by show _ = _; rw [HE.out, Bool.true_and]
    obtain ⟨z, hz⟩ : ∃ z, z = Lib.indexByte [47, 92, 63, 35] (c.toNat : Int).toNat.toUInt8 := ⟨_, rfl⟩
    have hzi : (0 ≤ z) ↔ i = true := by rw [hz, hi]; exact Zb c
    have HZ := hid hz
    clear hi hz
    cases i with
    | true =>
     have q4 := hzi.2 rfl
     clear hzi
     go_enter Tryz.func149, Tryz.ntmps149
     go_wp2_with fail
     refine (jL _ _).mono ?_
     rintro e w2 ⟨rfl, rfl⟩
     rw [← HD.out]
     go_wp2_with fail
     refine (Tryz.strings_IndexByte ⟨#[47, 92, 63, 35]⟩ _ _).mono ?_
     rintro e w3 ⟨rfl, rfl⟩
     rw [show (⟨#[47, 92, 63, 35]⟩ : ByteArray).data.toList = [47, 92, 63, 35] from rfl, ← HZ.out]
     go_wp2
     go_ret
     exact ⟨aB HF.out.symm, rfl⟩
    | false =>
     have q4 : z < 0 := by
      rcases Int.lt_or_le z 0 with h | h
      ·exact h
      ·exact absurd (hzi.1 h) (by decide)
     have q5 : ¬ 0 ≤ z := by omega
     clear hzi
     go_enter Tryz.func149, Tryz.ntmps149
     go_wp2_with fail
     refine (jL _ _).mono ?_
     rintro e w2 ⟨rfl, rfl⟩
     rw [← HD.out]
     go_wp2_with fail
     refine (Tryz.strings_IndexByte ⟨#[47, 92, 63, 35]⟩ _ _).mono ?_
     rintro e w3 ⟨rfl, rfl⟩
     rw [show (⟨#[47, 92, 63, 35]⟩ : ByteArray).data.toList = [47, 92, 63, 35] from rfl, ← HZ.out]
     go_wp2
     go_ret
     exact ⟨aB ((decide_eq_false (by omega)).trans HF.out.symm), rfl⟩
end Go.Proofs.YtcfgioklgmlclaaGreatDoor.PthD
namespace Go.Proofs.YtcfgioklgmlclaaGreatDoor.xZ
open Go.RowKit Base aP pV Ur G7
def keep (file : Bool) : List ByteArray → Bool
 | [] => true
 | [x] => file && nrm x.data.toList
 | _ => false
def lG (file : Bool) (l : List ByteArray) : List ByteArray := if keep file l then l else l.take (l.length - 1)
theorem Bj (file : Bool) (l : List ByteArray) : (lG file l).length = if keep file l then l.length else l.length - 1 := by
 unfold lG
 split
 ·rfl
 ·rw [List.length_take]; omega
theorem tV (file : Bool) (A : Option Addr) (n cap : Nat) (l : List ByteArray) (w : World) (hR : dS w A n (l.map Value.string)) (hnc : n ≤ cap) (hcm : cap ≤ maxLen) :
  Calls Tryz.prog 185 #[.bool file, .slice A n cap] w fun e w' => e = .returned (.slice A (if keep file l then n else n - 1) cap) ∧ w = w' := by
 unfold maxLen at hcm
 have hn : l.length = n := by rw [← hR.1, List.length_map]
 obtain ⟨m, hm⟩ : ∃ m, m = if keep file l then n else n - 1 := ⟨_, rfl⟩
 rw [← hm]
 match l, hn with
 | [], hn =>
  obtain rfl : n = 0 := by simpa using hn.symm
  obtain rfl : m = 0 := by rw [hm]; rfl
  clear hm hn hR
  go_enter Tryz.func185, Tryz.ntmps185
  go_wp2
  go_ret
  exact ⟨rfl, rfl⟩
 | [x], hn =>
  obtain rfl : n = 1 := by simpa using hn.symm
  obtain ⟨g, off, rfl, hg, hcell⟩ := hR.spot (by omega)
  have hc := hcell 0 (by simp)
  rw [Nat.add_zero] at hc
  replace hc : w.cell? ⟨g, off, none⟩ = some (.string x) := hc
  cases file with
  | false =>
   obtain rfl : m = 0 := by rw [hm]; rfl
   clear hm hn hR hcell
   go_enter Tryz.func185, Tryz.ntmps185
   go_wp2
   go_ret
   exact ⟨rfl, rfl⟩
  | true =>
   obtain ⟨b, hb⟩ : ∃ b, b = nrm x.data.toList := ⟨_, rfl⟩
   have HM : Hid (m = if b then 1 else 0) := by
    show _ = _
    rw [hm, hb]
    simp [keep]
   have HB := hid hb
   clear hm hn hR hcell hb
   cases b with
   | true =>
    obtain rfl : m = 1 := HM.out
    go_enter Tryz.func185, Tryz.ntmps185
    go_wp2_with fail
    refine (Bq x _).mono ?_
    rintro e w2 ⟨rfl, rfl⟩
    rw [← HB.out]
    go_wp2
    go_ret
    exact ⟨rfl, rfl⟩
   | false =>
    obtain rfl : m = 0 := HM.out
    go_enter Tryz.func185, Tryz.ntmps185
    go_wp2_with fail
    refine (Bq x _).mono ?_
    rintro e w2 ⟨rfl, rfl⟩
    rw [← HB.out]
    go_wp2
    go_ret
    exact ⟨rfl, rfl⟩
 | x :: y :: r, hn =>
  have h2 : 2 ≤ n := by rw [← hn]; simp
  have HM : Hid (m = n - 1) := by show _ = _; rw [hm]; rfl
  have q1 : ((n : Int) == 0) = false := by simp; omega
  have q2 : ((n : Int) == 1) = false := by simp; omega
  obtain ⟨g, off, rfl, hg, hcell⟩ := hR.spot (by omega)
  have q3 : ((n : Int) - 1).toNat = m := by have := HM.out; omega
  clear hm hn hR hcell
  cases file
  all_goals
   go_enter Tryz.func185, Tryz.ntmps185
   go_wp2
   go_ret
   exact ⟨by first | rfl | simp [q3], rfl⟩
end Go.Proofs.YtcfgioklgmlclaaGreatDoor.xZ
namespace Go.Proofs.YtcfgioklgmlclaaGreatDoor.Us
open Go.RowKit Base aP pV Ur G7
def wr (first : Bool) (L : List UInt8) : List UInt8 := if first && drv L then L.take 1 ++ [58] else aJ.enc 4 L
theorem zn (first : Bool) (s : ByteArray) (w : World) (hs : s.size ≤ 1073741824) :
  Calls Tryz.prog 218 #[.bool first, .string s] w fun e w' => e = .returned (.string (strOf (wr first s.data.toList))) ∧ Below w.heap.size w w' := by
 obtain ⟨d, hd⟩ : ∃ d, d = drv s.data.toList := ⟨_, rfl⟩
 obtain ⟨R, hR⟩ : ∃ R, R = wr first s.data.toList := ⟨_, rfl⟩
 rw [← hR]
 have HD := hid hd
 cases first with
 | true =>
  cases d with
  | true =>
   have h2 : s.size = 2 := by
    have := Gg _ hd.symm
    rw [show s.data.toList.length = s.size from Array.length_toList] at this
    exact this
   obtain ⟨X, hX⟩ : ∃ X, X = s.extract 0 1 := ⟨_, rfl⟩
   have hx : s.extract 0 1 = X := hX.symm
   have Gh : X = strOf (s.data.toList.take 1) := by rw [hX, fZ.ext_take]
   have hRR : R = s.data.toList.take 1 ++ [58] := by rw [hR]; unfold wr; rw [← hd]; rfl
   have a1 : ∀ w : World, (Op.stringOp .add X ⟨#[58]⟩).run Tryz.prog w = .ok (.string (strOf R)) w := fun w => by
    rw [Gh, hRR]
    exact bf _ ⟨#[58]⟩ w (by rw [ah, List.length_take]; show _ + 1 ≤ _; omega)
   have q1 : (1 : Int) ≤ (s.size : Int) := by omega
   have q2 : 1 ≤ s.size := by omega
   clear hd hR hX Gh hRR h2
   go_enter Tryz.func218, Tryz.ntmps218
   go_wp2_with fail
   refine (jL s _).mono ?_
   rintro e w2 ⟨rfl, rfl⟩
   rw [← HD.out]
   go_wp2
   go_ret
   exact ⟨rfl, Below.refl _ _⟩
  | false =>
   have HRR : Hid (R = aJ.enc 4 s.data.toList) := by show _ = _; rw [hR]; unfold wr; rw [← hd]; rfl
   have hcv := fun (w : World) s => run_bytes_of_string (P := Tryz.prog) w 9 30 5 s Tryz.underlying9 Tryz.underlying30 Tryz.underlying5
   clear hd hR
   go_enter Tryz.func218, Tryz.ntmps218
   go_wp2_with fail
   refine (jL s _).mono ?_
   rintro e w2 ⟨rfl, rfl⟩
   rw [← HD.out]
   go_wp2_with fail
   clear hcv
   refine (aJ.fM 4 _ _ _ s.data.toList _ (iy s _ w _) hs).mono ?_
   rintro e w3 ⟨rfl, hb3⟩
   rw [← HRR.out]
   go_wp2
   go_ret
   exact ⟨rfl, bel (((Below.refl w.heap.size w).alloc (Nat.le_refl _) _).drew) hb3⟩
 | false =>
  have HRR : Hid (R = aJ.enc 4 s.data.toList) := by show _ = _; rw [hR]; rfl
  have hcv := fun (w : World) s => run_bytes_of_string (P := Tryz.prog) w 9 30 5 s Tryz.underlying9 Tryz.underlying30 Tryz.underlying5
  clear hd hR
  go_enter Tryz.func218, Tryz.ntmps218
  go_wp2_with fail
  clear hcv
  refine (aJ.fM 4 _ _ _ s.data.toList _ (iy s _ w _) hs).mono ?_
  rintro e w3 ⟨rfl, hb3⟩
  rw [← HRR.out]
  go_wp2
  go_ret
  exact ⟨rfl, bel (((Below.refl w.heap.size w).alloc (Nat.le_refl _) _).drew) hb3⟩
end Go.Proofs.YtcfgioklgmlclaaGreatDoor.Us
namespace Go.Proofs.YtcfgioklgmlclaaGreatDoor.pU
open Go.RowKit Base aP pV Ur G7 PthC xZ Us
theorem IB : (Tryz.prog.info? 9).map (fun i => (i.zero, i.size, i.bytes)) = some (some (.string ByteArray.empty), 1, 16) := by kernel_rfl
theorem Zq {w : World} {B : Nat} {e : TypeId} {A : Option Addr} {n cap : Nat} {xs : List Value} (h : w.ownsRow B e 1 (.slice A n cap) n xs) (m : Nat) (hm : m ≤ n) : w.ownsRow B e 1 (.slice A m cap) m (xs.take m) := by
 obtain ⟨hl, h⟩ := h
 rw [Nat.mul_one] at hl
 refine ⟨by rw [List.length_take]; omega, ?_⟩
 rcases h with ⟨hv, h0⟩ | ⟨g, cap', cur, hv, hb, hh, hc, hmm, hs, ht⟩
 ·injection hv with h1 h2 h3
  obtain rfl : m = 0 := by omega
  exact .inl ⟨by rw [h1, h3], rfl⟩
 ·injection hv with h1 h2 h3
  subst h3
  refine .inr ⟨g, cap, cur, by rw [h1], hb, hh, by omega, hmm, hs, ?_⟩
  rw [Nat.mul_one] at ht ⊢
  rw [← ht, List.take_take, Nat.min_eq_left hm]
def Aj (file last : Bool) (l : List ByteArray) (L : List UInt8) : List ByteArray :=
 if Dc L then (if last then lG file l ++ [strOf []] else lG file l) else if BK L then (if last then l ++ [strOf []] else l) else l ++ [strOf (wr (file && l.isEmpty) L)]
def jT (B : Nat) (w : World) (l : List ByteArray) (e : Ending) (w' : World) : Prop := ∃ v, e = .returned v ∧ w'.ownsRow B 9 1 v l.length (l.map Value.string) ∧ Below B w w'
theorem D7 (file last : Bool) (B : Nat) (v : Value) (l : List ByteArray) (s : ByteArray) (w : World) (hown : w.ownsRow B 9 1 v l.length (l.map Value.string)) (hB : B ≤ w.heap.size) (hl : l.length ≤ 1000000) (hs : s.size ≤ 1073741824) :
  Calls Tryz.prog 203 #[.bool file, .bool last, v, .string s] w (jT B w (Aj file last l s.data.toList)) := by
 obtain ⟨i0, hi, hz0, hz1, hz2⟩ := info_parts IB
 obtain ⟨A, cap, rfl, hnc, hcm, hR⟩ := bZ hown
 obtain ⟨n, hn⟩ : ∃ n, n = l.length := ⟨_, rfl⟩
 rw [← hn] at hown hl hnc hR ⊢
 obtain ⟨S, hS⟩ : ∃ S, S = Aj file last l s.data.toList := ⟨_, rfl⟩
 rw [← hS]
 have HN := hid hn
 obtain ⟨d, hd⟩ : ∃ d, d = Dc s.data.toList := ⟨_, rfl⟩
 have HD := hid hd
 cases d with
 | true =>
  obtain ⟨m, hm⟩ : ∃ m, m = if keep file l then n else n - 1 := ⟨_, rfl⟩
  have hmn : m ≤ n := by rw [hm]; split <;> omega
  have Rk : lG file l = l.take m := by
   unfold lG
   rw [hm]
   split
   ·rw [List.take_of_length_le (by omega)]
   ·rw [hn]
  have hlt : (l.take m).length = m := by rw [List.length_take]; omega
  have hown2 := Zq hown m hmn
  rw [← List.map_take] at hown2
  have HOWN2 := hid hown2
  have HR := hid hR
  have HM := hid hm
  have HLT := hid hlt
  have HSH := hid Rk
  cases last with
  | false =>
   have FU : Hid (S = l.take m) := by show _ = _; rw [hS]; unfold Aj; rw [← hd, if_pos rfl, if_neg (by decide), Rk]
   clear hown hown2 hR hm Rk hS hd hn hlt
   go_enter Tryz.func203, Tryz.ntmps203
   go_wp2_with fail
   refine (lN s _ hs).mono ?_
   rintro e w2 ⟨rfl, hb2⟩
   rw [← HD.out]
   go_wp2_with fail
   refine (tV file A n cap l _ (HR.out.below hb2) hnc hcm).mono ?_
   rintro e w3 ⟨rfl, rfl⟩
   rw [← HM.out]
   have HX : Hid (jT B w S (.returned (.slice A m cap)) w2) := ⟨_, rfl, by rw [FU.out, HLT.out]; exact aI HOWN2.out hb2, hb2.mono hB⟩
   go_wp2
   go_ret
   exact HX
  | true =>
   have FU : Hid (S = l.take m ++ [strOf []]) := by show _ = _; rw [hS]; unfold Aj; rw [← hd, if_pos rfl, if_pos rfl, Rk]
   clear hown hown2 hR hm Rk hS hd hn hlt
   go_enter Tryz.func203, Tryz.ntmps203
   go_wp2_with fail
   refine (lN s _ hs).mono ?_
   rintro e w2 ⟨rfl, hb2⟩
   rw [← HD.out]
   go_wp2_with fail
   refine (tV file A n cap l _ (HR.out.below hb2) hnc hcm).mono ?_
   rintro e w3 ⟨rfl, rfl⟩
   rw [← HM.out]
   have hown3 := aI HOWN2.out hb2
   have hbel : Below B w w2 := hb2.mono hB
   have hB2 : B ≤ w2.heap.size := Nat.le_trans hB hb2.size
   go_wp2_with (at_builtin; refine bC rfl _ _ 22 rfl B 9 i0 (.string ByteArray.empty) 16 Tryz.underlying22 hi hz0 hz1 hz2 rfl _ m _ rfl hown3 hbel hB2 [.string (strOf [])] 1 rfl rfl (by intro u hu; simp at hu; subst hu; rfl) (by unfold maxLen; omega) (by omega) ?_)
   intro v4 w4 hown4 jl
   have HX : Hid (jT B w S (.returned v4) w4) := ⟨_, rfl, by rw [FU.out, List.length_append, List.map_append, HLT.out, List.map_take]; exact hown4, jl⟩
   clear hown3 hown4 hbel
   go_wp2
   go_ret
   exact HX
 | false =>
  obtain ⟨g, hg⟩ : ∃ g, g = BK s.data.toList := ⟨_, rfl⟩
  have HG := hid hg
  have hsm : s.size ≤ maxLen := by unfold maxLen; omega
  have Ug := hid hsm
  have HOWN := hid hown
  cases g with
  | true =>
   cases last with
   | false =>
    have FU : Hid (S = l) := by show _ = _; rw [hS]; unfold Aj; rw [← hd, if_neg (by decide), ← hg, if_pos rfl, if_neg (by decide)]
    clear hown hR hS hd hg hn hsm
    go_enter Tryz.func203, Tryz.ntmps203
    go_wp2_with fail
    refine (lN s _ hs).mono ?_
    rintro e w2 ⟨rfl, hb2⟩
    rw [← HD.out]
    go_wp2_with fail
    refine (jG s _ Ug.out).mono ?_
    rintro e w3 ⟨rfl, hb3⟩
    rw [← HG.out]
    have HX : Hid (jT B w S (.returned (.slice A n cap)) w3) := ⟨_, rfl, by rw [FU.out, ← HN.out]; exact aI (aI HOWN.out hb2) hb3, (bel hb2 hb3).mono hB⟩
    go_wp2
    go_ret
    exact HX
   | true =>
    have FU : Hid (S = l ++ [strOf []]) := by show _ = _; rw [hS]; unfold Aj; rw [← hd, if_neg (by decide), ← hg, if_pos rfl, if_pos rfl]
    clear hown hR hS hd hg hn hsm
    go_enter Tryz.func203, Tryz.ntmps203
    go_wp2_with fail
    refine (lN s _ hs).mono ?_
    rintro e w2 ⟨rfl, hb2⟩
    rw [← HD.out]
    go_wp2_with fail
    refine (jG s _ Ug.out).mono ?_
    rintro e w3 ⟨rfl, hb3⟩
    rw [← HG.out]
    have hown3 := aI (aI HOWN.out hb2) hb3
    have hbel : Below B w w3 := (bel hb2 hb3).mono hB
    have hB2 : B ≤ w3.heap.size := Nat.le_trans hB (Nat.le_trans hb2.size hb3.size)
    go_wp2_with (at_builtin; refine bC rfl _ _ 22 rfl B 9 i0 (.string ByteArray.empty) 16 Tryz.underlying22 hi hz0 hz1 hz2 rfl _ n _ rfl hown3 hbel hB2 [.string (strOf [])] 1 rfl rfl (by intro u hu; simp at hu; subst hu; rfl) (by unfold maxLen; omega) (by omega) ?_)
    intro v4 w4 hown4 jl
    have HX : Hid (jT B w S (.returned v4) w4) := ⟨_, rfl, by rw [FU.out, List.length_append, List.map_append, ← HN.out]; exact hown4, jl⟩
    clear hown3 hown4 hbel
    go_wp2
    go_ret
    exact HX
  | false =>
   obtain ⟨f, hf⟩ : ∃ f, f = (file && l.isEmpty) := ⟨_, rfl⟩
   obtain ⟨R, hR2⟩ : ∃ R, R = strOf (wr f s.data.toList) := ⟨_, rfl⟩
   have FU : Hid (S = l ++ [R]) := by show _ = _; rw [hS]; unfold Aj; rw [← hd, if_neg (by decide), ← hg, if_neg (by decide), ← hf, hR2]
   have HR2 := hid hR2
   have hcase : (file = false ∧ f = false) ∨ (file = true ∧ n = 0 ∧ f = true) ∨ (file = true ∧ n ≠ 0 ∧ f = false) := by
    cases file with
    | false => exact .inl ⟨rfl, by rw [hf]; rfl⟩
    | true =>
     match l, hn with
     | [], hn => exact .inr (.inl ⟨rfl, by simpa using hn, by rw [hf]; rfl⟩)
     | _ :: _, hn => exact .inr (.inr ⟨rfl, by simp at hn; omega, by rw [hf]; rfl⟩)
   clear hown hR hS hd hg hn hsm hf hR2
   rcases hcase with ⟨rfl, rfl⟩ | ⟨rfl, h0, rfl⟩ | ⟨rfl, h0, rfl⟩
   ·go_enter Tryz.func203, Tryz.ntmps203
    go_wp2_with fail
    refine (lN s _ hs).mono ?_
    rintro e w2 ⟨rfl, hb2⟩
    rw [← HD.out]
    go_wp2_with fail
    refine (jG s _ Ug.out).mono ?_
    rintro e w3 ⟨rfl, hb3⟩
    rw [← HG.out]
    go_wp2_with fail
    refine (zn _ s _ hs).mono ?_
    rintro e w5 ⟨rfl, hb5⟩
    rw [← HR2.out]
    have hown3 := aI (aI (aI HOWN.out hb2) hb3) hb5
    have hbel : Below B w w5 := (bel (bel hb2 hb3) hb5).mono hB
    have hB2 : B ≤ w5.heap.size := Nat.le_trans hB (Nat.le_trans hb2.size (Nat.le_trans hb3.size hb5.size))
    go_wp2_with (at_builtin; refine bC rfl _ _ 22 rfl B 9 i0 (.string ByteArray.empty) 16 Tryz.underlying22 hi hz0 hz1 hz2 rfl _ n _ rfl hown3 hbel hB2 [.string R] 1 rfl rfl (by intro u hu; simp at hu; subst hu; rfl) (by unfold maxLen; omega) (by omega) ?_)
    intro v4 w4 hown4 jl
    have HX : Hid (jT B w S (.returned v4) w4) := ⟨_, rfl, by rw [FU.out, List.length_append, List.map_append, ← HN.out]; exact hown4, jl⟩
    clear hown3 hown4 hbel
    go_wp2
    go_ret
    exact HX
   ·have q0 : ((n : Int) == 0) = true := by simp; omega
    have HN0 := hid h0
    clear h0
    go_enter Tryz.func203, Tryz.ntmps203
    go_wp2_with fail
    refine (lN s _ hs).mono ?_
    rintro e w2 ⟨rfl, hb2⟩
    rw [← HD.out]
    go_wp2_with fail
    refine (jG s _ Ug.out).mono ?_
    rintro e w3 ⟨rfl, hb3⟩
    rw [← HG.out]
    go_wp2_with fail
    refine (zn _ s _ hs).mono ?_
    rintro e w5 ⟨rfl, hb5⟩
    rw [← HR2.out]
    have hown3 := aI (aI (aI HOWN.out hb2) hb3) hb5
    have hbel : Below B w w5 := (bel (bel hb2 hb3) hb5).mono hB
    have hB2 : B ≤ w5.heap.size := Nat.le_trans hB (Nat.le_trans hb2.size (Nat.le_trans hb3.size hb5.size))
    go_wp2_with (at_builtin; refine bC rfl _ _ 22 rfl B 9 i0 (.string ByteArray.empty) 16 Tryz.underlying22 hi hz0 hz1 hz2 rfl _ n _ rfl hown3 hbel hB2 [.string R] 1 rfl rfl (by intro u hu; simp at hu; subst hu; rfl) (by unfold maxLen; omega) (by omega) ?_)
    intro v4 w4 hown4 jl
    have HX : Hid (jT B w S (.returned v4) w4) := ⟨_, rfl, by rw [FU.out, List.length_append, List.map_append, ← HN.out]; exact hown4, jl⟩
    clear hown3 hown4 hbel
    go_wp2
    go_ret
    exact HX
   ·have q0 : ((n : Int) == 0) = false := by simp; omega
    clear h0
    go_enter Tryz.func203, Tryz.ntmps203
    go_wp2_with fail
    refine (lN s _ hs).mono ?_
    rintro e w2 ⟨rfl, hb2⟩
    rw [← HD.out]
    go_wp2_with fail
    refine (jG s _ Ug.out).mono ?_
    rintro e w3 ⟨rfl, hb3⟩
    rw [← HG.out]
    go_wp2_with fail
    refine (zn _ s _ hs).mono ?_
    rintro e w5 ⟨rfl, hb5⟩
    rw [← HR2.out]
    have hown3 := aI (aI (aI HOWN.out hb2) hb3) hb5
    have hbel : Below B w w5 := (bel (bel hb2 hb3) hb5).mono hB
    have hB2 : B ≤ w5.heap.size := Nat.le_trans hB (Nat.le_trans hb2.size (Nat.le_trans hb3.size hb5.size))
    go_wp2_with (at_builtin; refine bC rfl _ _ 22 rfl B 9 i0 (.string ByteArray.empty) 16 Tryz.underlying22 hi hz0 hz1 hz2 rfl _ n _ rfl hown3 hbel hB2 [.string R] 1 rfl rfl (by intro u hu; simp at hu; subst hu; rfl) (by unfold maxLen; omega) (by omega) ?_)
    intro v4 w4 hown4 jl
    have HX : Hid (jT B w S (.returned v4) w4) := ⟨_, rfl, by rw [FU.out, List.length_append, List.map_append, ← HN.out]; exact hown4, jl⟩
    clear hown3 hown4 hbel
    go_wp2
    go_ret
    exact HX
end Go.Proofs.YtcfgioklgmlclaaGreatDoor.pU
namespace Go.Proofs.YtcfgioklgmlclaaGreatDoor.AO
open Go.RowKit Base aP uf xZ pU
theorem adT (l : List ByteArray) : ∀ u ∈ l.map Value.string, u.oneCell' = true := by
 intro u hu
 simp only [List.mem_map] at hu
 obtain ⟨s, _, rfl⟩ := hu
 rfl
theorem qP (A : Option Addr) (n cap : Nat) (l : List ByteArray) (w : World) (h : dS w A n (l.map Value.string)) (hm : n ≤ 1000000) :
  Calls Tryz.prog 160 #[.slice A n cap] w (jT w.heap.size w l) := by
 have hl : l.length = n := by rw [← h.1, List.length_map]
 have HH := hid h
 clear h
 obtain ⟨i0, hi, hz0, hz1, hz2⟩ := info_parts IB
 have hnil := fun (W : World) => Lib.run_eql_slice_nil (P := Tryz.prog) W 22 9 A n cap 0 0 Tryz.underlying22
 cases A with
 | none =>
  have h0 : n = 0 := by
   rcases Nat.eq_zero_or_pos n with h0 | h0
   ·exact h0
   ·obtain ⟨_, _, e, _⟩ := HH.out.spot h0
    cases e
  subst h0
  obtain rfl : l = [] := List.eq_nil_of_length_eq_zero hl
  have HX : Hid (jT w.heap.size w [] (.returned (.slice none 0 0)) w) := ⟨_, rfl, World.ownsRow_nil _ _ _ _, Below.refl _ _⟩
  clear hl
  go_enter Tryz.func160, Tryz.ntmps160
  go_wp2
  go_ret
  exact HX
 | some ad =>
  have hownA : (w.alloc (.cells #[] 9)).ownsRow w.heap.size 9 1 (.slice (some ⟨w.heap.size, 0, none⟩) 0 0) 0 [] := World.ownsRow_made w #[] 0 (Nat.le_refl _) (by decide) rfl
  have Xg : Below w.heap.size w (w.alloc (.cells #[] 9)) := (Below.refl _ _).alloc (Nat.le_refl _) _
  have HRA : Hid (dS (w.alloc (.cells #[] 9)) (some ad) n (l.map Value.string)) := HH.out.below Xg
  have HL := hid hl
  clear hl
  go_enter Tryz.func160, Tryz.ntmps160
  go_wp2_with (at_builtin; refine nK rfl _ _ 22 rfl w.heap.size 9 i0 (.string ByteArray.empty) 16 Tryz.underlying22 hi hz0 hz1 hz2 rfl _ 0 [] rfl hownA Xg Xg.size (some ad) n cap (l.map Value.string) rfl HRA.out (adT _) (by unfold maxLen; omega) (by omega) ?_)
  intro v3 w3 hown3 dK
  have HX : Hid (jT w.heap.size w l (.returned v3) w3) := ⟨_, rfl, by rw [HL.out]; simpa using hown3, dK⟩
  clear hownA Xg HRA hown3
  go_wp2
  go_ret
  exact HX
theorem rds_sho {w : World} {A : Option Addr} {n : Nat} {l : List ByteArray} (file : Bool) (hR : dS w A n (l.map Value.string)) : dS w A (if keep file l then n else n - 1) ((lG file l).map Value.string) := by
 have hl : l.length = n := by rw [← hR.1, List.length_map]
 unfold lG
 cases e : keep file l with
 | true => simpa using hR
 | false =>
  rcases Nat.eq_zero_or_pos n with h0 | h0
  ·obtain rfl : l = [] := List.eq_nil_of_length_eq_zero (by omega)
   cases e
  ·obtain ⟨g, off, rfl, _⟩ := hR.spot h0
   have := hR.upto (n - 1) (by omega)
   rw [if_neg (by decide), if_neg (by decide), List.map_take, hl]
   exact this
theorem yY (file : Bool) (A : Option Addr) (n cap : Nat) (l : List ByteArray) (w : World) (hR : dS w A n (l.map Value.string)) (hnc : n ≤ cap) (hcm : cap ≤ maxLen) (hm : n ≤ 1000000) :
  Calls Tryz.prog 151 #[.bool file, .slice A n cap] w (jT w.heap.size w (lG file l)) := by
 have HS := hid (rds_sho file hR)
 have HR := hid hR
 obtain ⟨m, hmm⟩ : ∃ m, m = if keep file l then n else n - 1 := ⟨_, rfl⟩
 have hmn : m ≤ 1000000 := by rw [hmm]; split <;> omega
 have HM := hid hmm
 clear hR hmm
 go_enter Tryz.func151, Tryz.ntmps151
 go_wp2_with fail
 refine (tV file A n cap l _ HR.out hnc hcm).mono ?_
 rintro e w2 ⟨rfl, rfl⟩
 rw [← HM.out]
 go_wp2_with fail
 refine (qP A m cap (lG file l) _ (by rw [HM.out]; exact HS.out) hmn).mono ?_
 rintro e w3 ⟨v, rfl, hown, hb3⟩
 have HX : Hid (jT w.heap.size w (lG file l) (.returned v) w3) := ⟨v, rfl, hown, hb3⟩
 clear hown
 go_wp2
 go_ret
 exact HX
end Go.Proofs.YtcfgioklgmlclaaGreatDoor.AO
namespace Go.Proofs.YtcfgioklgmlclaaGreatDoor.qM
open Go.RowKit Base aP pV G7 xZ Us pU
def fP (sp : Bool) (c : UInt8) : Bool := decide (c = 47) || (sp && decide (c = 92))
def upto (sp : Bool) : List UInt8 → Nat
 | [] => 0
 | c :: L => if fP sp c = true then 0 else upto sp L + 1
theorem Gv (sp : Bool) : ∀ L : List UInt8, upto sp L ≤ L.length
 | [] => Nat.le_refl _
 | c :: L => by
  have := Gv sp L
  unfold upto
  split
  ·omega
  ·simp; omega
def chs (sp : Bool) : List UInt8 := if sp then [47, 92] else [47]
theorem WS (sp : Bool) (c : UInt8) : (chs sp).contains c = fP sp c := by
 rw [Bool.eq_iff_iff]
 cases sp <;> simp [chs, fP]
theorem Lu (sp : Bool) : ∀ L : List UInt8, Lib.indexAny L (chs sp) = if upto sp L < L.length then (upto sp L : Int) else -1
 | [] => by simp [Lib.indexAny]
 | c :: L => by
  have ih := Lu sp L
  rw [Lib.indexAny, WS, ih, upto]
  cases h : fP sp c with
  | true => simp
  | false =>
   simp only [Bool.false_eq_true, if_false]
   by_cases h2 : upto sp L < L.length
   ·have h3 : ((upto sp L : Int) == -1) = false := by rw [beq_eq_false_iff_ne]; omega
    have h4 : upto sp L + 1 < (c :: L).length := by simp; omega
    simp only [if_pos h2, h3, h4, Bool.false_eq_true, if_false, if_true]
    omega
   ·have h4 : ¬ upto sp L + 1 < (c :: L).length := by simp; omega
    simp only [if_neg h2, if_neg h4]
    rfl
def wb (file sp : Bool) : List ByteArray → List UInt8 → List UInt8 → List ByteArray
 | l, b, [] => Aj file true l b
 | l, b, c :: M => if fP sp c = true then wb file sp (Aj file false l b) [] M else wb file sp l (b ++ [c]) M
theorem PK (file sp : Bool) : ∀ (M : List UInt8) (l : List ByteArray) (b : List UInt8), ¬ upto sp M < M.length → wb file sp l b M = Aj file true l (b ++ M)
 | [], l, b, _ => by rw [List.append_nil]; rfl
 | c :: M, l, b, h => by
  unfold upto at h
  cases hs : fP sp c with
  | true => rw [hs] at h; simp at h
  | false =>
   rw [hs, if_neg (by decide)] at h
   rw [wb, hs, if_neg (by decide), PK file sp M l (b ++ [c]) (by simp at h; omega), List.append_assoc]
   rfl
theorem PN (file sp : Bool) : ∀ (M : List UInt8) (l : List ByteArray) (b : List UInt8), upto sp M < M.length → wb file sp l b M = wb file sp (Aj file false l (b ++ M.take (upto sp M))) [] (M.drop (upto sp M + 1))
 | [], l, b, h => by simp [upto] at h
 | c :: M, l, b, h => by
  unfold upto at h
  cases hs : fP sp c with
  | true =>
   rw [wb, hs, if_pos rfl, upto, hs, if_pos rfl]
   simp
  | false =>
   rw [hs, if_neg (by decide)] at h
   rw [wb, hs, if_neg (by decide), PN file sp M l (b ++ [c]) (by simp at h; omega), List.append_assoc, upto, hs, if_neg (by decide)]
   rfl
theorem oz (file last : Bool) (l : List ByteArray) (L : List UInt8) : (Aj file last l L).length ≤ l.length + 1 := by
 have h : (lG file l).length ≤ l.length := by rw [Bj]; split <;> omega
 unfold Aj
 repeat' split
 all_goals simp
 all_goals omega
end Go.Proofs.YtcfgioklgmlclaaGreatDoor.qM
namespace Go.Proofs.YtcfgioklgmlclaaGreatDoor.dD
open Go.RowKit Base
def aN (l : List ByteArray) : List UInt8 := l.flatMap fun s => 47 :: s.data.toList
def lq (b6 : Bool) (s7 : ByteArray) (l : List ByteArray) : List UInt8 := if b6 then s7.data.toList else aN l
def iT (s1 s2 : ByteArray) : List UInt8 := if s2.data.toList = [] then (if s1.data.toList = [] then [] else s1.data.toList ++ [64]) else s1.data.toList ++ [58] ++ s2.data.toList ++ [64]
def iI (z5 : Int) : List UInt8 := if z5 = -1 then [] else 58 :: Lib.itoa z5
def dotted (b6 : Bool) (l : List ByteArray) : Bool := !b6 && match l with
 | a :: _ :: _ => decide (a.data.toList = [])
 | _ => false
def kF (s1 s2 s3 : ByteArray) (b4 : Bool) (z5 : Int) (b6 : Bool) (l : List ByteArray) : List UInt8 :=
 if b4 then [47, 47] ++ iT s1 s2 ++ s3.data.toList ++ iI z5 else if dotted b6 l then [47, 46] else []
def uG (s0 s1 s2 s3 : ByteArray) (b4 : Bool) (z5 : Int) (b6 : Bool) (s7 : ByteArray) (l : List ByteArray) (b9 : Bool) (s11 : ByteArray) : List UInt8 :=
 s0.data.toList ++ [58] ++ kF s1 s2 s3 b4 z5 b6 l ++ lq b6 s7 l ++ (if b9 then 63 :: s11.data.toList else [])
def txt (h : Bool) (s : ByteArray) : Option (List UInt8) := if h then some s.data.toList else none
def vG (s0 s1 s2 s3 : ByteArray) (b4 : Bool) (z5 : Int) (b6 : Bool) (s7 : ByteArray) (l : List ByteArray) (b9 b10 : Bool) (s11 s12 : ByteArray) : List (Option (List UInt8)) × Int × Bool × List ByteArray :=
 ([some s0.data.toList, some s1.data.toList, some s2.data.toList, txt b4 s3, txt b6 s7, txt b9 s11, txt b10 s12], z5, b6, if b6 then [] else l)
def Dp (s0 s1 s2 s3 s7 s11 s12 : ByteArray) (l : List ByteArray) : Nat := s0.size + s1.size + s2.size + s3.size + s7.size + s11.size + s12.size + (l.map (·.size)).sum
theorem Je (l : List ByteArray) (s : ByteArray) : aN (l ++ [s]) = aN l ++ (47 :: s.data.toList) := by simp [aN]
theorem jE (l : List ByteArray) : (aN l).length = l.length + (l.map (·.size)).sum := by
 induction l with
 | nil => rfl
 | cons a l ih =>
  have e : aN (a :: l) = (47 :: a.data.toList) ++ aN l := rfl
  rw [e, List.length_append, ih]
  simp only [List.length_cons, List.map_cons, List.sum_cons]
  rw [show a.data.toList.length = a.size from Array.length_toList]
  omega
theorem take_snoc (l : List ByteArray) (k : Nat) (h : k < l.length) : l.take (k + 1) = l.take k ++ [l[k]] := by
 rw [List.take_succ_eq_append_getElem h]
theorem JD (l : List ByteArray) (k : Nat) : ((l.take k).map (·.size)).sum ≤ (l.map (·.size)).sum := by
 have h : l.map (·.size) = (l.take k).map (·.size) ++ (l.drop k).map (·.size) := by rw [← List.map_append, List.take_append_drop]
 rw [h, List.sum_append]
 omega
theorem V5 (l : List ByteArray) (k : Nat) (h : k < l.length) : ((l.take (k + 1)).map (·.size)).sum = ((l.take k).map (·.size)).sum + l[k].size := by
 rw [take_snoc l k h, List.map_append, List.sum_append]
 simp
theorem jV (L : List UInt8) : (strOf L).data.toList = L := rfl
theorem ext_str {a b : ByteArray} (h : a.data.toList = b.data.toList) : a = b := by
 cases a; cases b; simp at h; subst h; rfl
theorem tl (s : ByteArray) : s.toList = s.data.toList := by
 obtain ⟨d⟩ := s; rw [ByteArray.toList_mk]
theorem rW (a b : ByteArray) : (a.toList == b.toList) = decide (a.data.toList = b.data.toList) := by
 rw [tl, tl, Bool.eq_iff_iff]; simp
end Go.Proofs.YtcfgioklgmlclaaGreatDoor.dD
namespace Go.Proofs.YtcfgioklgmlclaaGreatDoor.ng
open Go.RowKit Base aP dD
def portOf (L : List UInt8) : Int := if L = [102, 116, 112] then 21 else if L = [104, 116, 116, 112] ∨ L = [119, 115] then 80 else if L = [104, 116, 116, 112, 115] ∨ L = [119, 115, 115] then 443 else -1
def special (L : List UInt8) : Bool := decide (L = [102, 105, 108, 101]) || decide (portOf L ≠ -1)
theorem sorts (L : List UInt8) : L = [102, 116, 112] ∨ L = [104, 116, 116, 112] ∨ L = [119, 115] ∨ L = [104, 116, 116, 112, 115] ∨ L = [119, 115, 115] ∨ L = [102, 105, 108, 101] ∨ (L ≠ [102, 116, 112] ∧ L ≠ [104, 116, 116, 112] ∧ L ≠ [119, 115] ∧ L ≠ [104, 116, 116, 112, 115] ∧ L ≠ [119, 115, 115] ∧ L ≠ [102, 105, 108, 101]) := by
 by_cases h1 : L = [102, 116, 112]
 ·exact .inl h1
 by_cases h2 : L = [104, 116, 116, 112]
 ·exact .inr (.inl h2)
 by_cases h3 : L = [119, 115]
 ·exact .inr (.inr (.inl h3))
 by_cases h4 : L = [104, 116, 116, 112, 115]
 ·exact .inr (.inr (.inr (.inl h4)))
 by_cases h5 : L = [119, 115, 115]
 ·exact .inr (.inr (.inr (.inr (.inl h5))))
 by_cases h6 : L = [102, 105, 108, 101]
 ·exact .inr (.inr (.inr (.inr (.inr (.inl h6)))))
 exact .inr (.inr (.inr (.inr (.inr (.inr ⟨h1, h2, h3, h4, h5, h6⟩)))))
theorem lQ {s : ByteArray} {L : List UInt8} (h : s.data.toList = L) : s = ⟨L.toArray⟩ := by
 obtain ⟨d⟩ := s
 subst h
 rfl
theorem nY {s : ByteArray} {L : List UInt8} (h : s.data.toList ≠ L) : (s.toList == L) = false := by
 rw [tl]; simpa using h
theorem Fv (s : ByteArray) (w : World) : Calls Tryz.prog 153 #[.string s] w fun e w' => e = .returned (.int .i64 (portOf s.data.toList)) ∧ w' = w := by
 rcases sorts s.data.toList with h | h | h | h | h | h | ⟨h1, h2, h3, h4, h5, h6⟩
 ·obtain rfl := lQ h
  clear h
  go_enter Tryz.func153, Tryz.ntmps153
  go_wp2
  go_ret
  exact ⟨rfl, rfl⟩
 ·obtain rfl := lQ h
  clear h
  go_enter Tryz.func153, Tryz.ntmps153
  go_wp2
  go_ret
  exact ⟨rfl, rfl⟩
 ·obtain rfl := lQ h
  clear h
  go_enter Tryz.func153, Tryz.ntmps153
  go_wp2
  go_ret
  exact ⟨rfl, rfl⟩
 ·obtain rfl := lQ h
  clear h
  go_enter Tryz.func153, Tryz.ntmps153
  go_wp2
  go_ret
  exact ⟨rfl, rfl⟩
 ·obtain rfl := lQ h
  clear h
  go_enter Tryz.func153, Tryz.ntmps153
  go_wp2
  go_ret
  exact ⟨rfl, rfl⟩
 ·obtain rfl := lQ h
  clear h
  go_enter Tryz.func153, Tryz.ntmps153
  go_wp2
  go_ret
  exact ⟨rfl, rfl⟩
 ·have HP : Hid (portOf s.data.toList = -1) := by
   unfold portOf
   show _ = _
   rw [if_neg h1, if_neg (by rintro (h | h); exact h2 h; exact h3 h), if_neg (by rintro (h | h); exact h4 h; exact h5 h)]
  have HS : Hid (special s.data.toList = false) := by
   unfold special
   show _ = _
   rw [HP.out]
   simpa using h6
  replace h1 := nY h1
  replace h2 := nY h2
  replace h3 := nY h3
  replace h4 := nY h4
  replace h5 := nY h5
  replace h6 := nY h6
  go_enter Tryz.func153, Tryz.ntmps153
  go_wp2
  go_ret
  exact ⟨jW HP.out.symm, rfl⟩
theorem jq (s : ByteArray) (w : World) : Calls Tryz.prog 97 #[.string s] w fun e w' => e = .returned (.bool (special s.data.toList)) ∧ w' = w := by
 by_cases h : s.data.toList = [102, 105, 108, 101]
 ·obtain rfl := lQ h
  clear h
  go_enter Tryz.func97, Tryz.ntmps97
  go_wp2
  go_ret
  exact ⟨rfl, rfl⟩
 ·obtain ⟨p, hp⟩ : ∃ p, p = portOf s.data.toList := ⟨_, rfl⟩
  have HS : Hid (special s.data.toList = decide (p ≠ -1)) := by
   unfold special
   show _ = _
   rw [← hp, decide_eq_false h]
   rfl
  have HP := hid hp
  replace h := nY h
  clear hp
  go_enter Tryz.func97, Tryz.ntmps97
  go_wp2_with fail
  refine (Fv _ _).mono ?_
  rintro e w1 ⟨rfl, rfl⟩
  rw [← HP.out]
  by_cases e1 : p = -1
  ·subst e1
   go_wp2
   go_ret
   exact ⟨aB HS.out.symm, rfl⟩
  ·have q1 : (p == -1) = false := by simpa using e1
   have q2 : (p != -1) = true := by simpa using e1
   have HE : Hid (decide (p ≠ -1) = true) := decide_eq_true e1
   clear e1
   go_wp2
   go_ret
   exact ⟨aB (by rw [HS.out, HE.out]), rfl⟩
end Go.Proofs.YtcfgioklgmlclaaGreatDoor.ng
namespace Go.Proofs.YtcfgioklgmlclaaGreatDoor.xw
open Go.RowKit Base
def enc (l : List Int) : List UInt8 := l.flatMap Lib.encodeRune
theorem UD (r : Int) : Lib.runeCells r = ak (Lib.encodeRune r) := (Lib.byteCells_encodeRune r).symm
theorem uJ (l : List Int) (r : Int) : enc (l ++ [r]) = enc l ++ Lib.encodeRune r := by simp [enc]
theorem D5 (r : Int) : 1 ≤ (Lib.encodeRune r).length ∧ (Lib.encodeRune r).length ≤ 4 := by
 have := Lib.runeCells_le r
 rw [Lib.runeCells_length] at this
 exact this
theorem iL (l : List Int) : (enc l).length ≤ 4 * l.length ∧ l.length ≤ (enc l).length := by
 induction l with
 | nil => simp [enc]
 | cons r l ih =>
  have h := D5 r
  have e : enc (r :: l) = Lib.encodeRune r ++ enc l := by simp [enc]
  rw [e, List.length_append, List.length_cons]
  omega
def Yo (r : Int) : Prop := -2147483648 ≤ r ∧ r ≤ 2147483647
theorem fM (A : Option Addr) (n cap : Nat) (l : List Int) (w : World) (h : dS w A n (jk .i32 l)) (hr : ∀ r ∈ l, Yo r) (hm : n ≤ 1073741824) :
  Calls Tryz.prog 90 #[.slice A n cap] w fun e w' => ∃ v, e = .returned v ∧ w'.ownsRow w.heap.size 5 1 v (enc l).length (ak (enc l)) ∧ Below w.heap.size w w' := by
 have hl : l.length = n := by rw [← lg .i32]; exact h.1
 have HL := hid hl
 clear hl
 have HH := hid h
 clear h
 have HR := hid hr
 clear hr
 go_enter Tryz.func90, Tryz.ntmps90
 go_wp2
 go_loopw [3, 8] (fun v vk wr => ∃ (k : Nat), k ≤ n ∧ vk = .int .i64 k ∧ wr.ownsRow w.heap.size 5 1 v (enc (l.take k)).length (ak (enc (l.take k))) ∧ Below w.heap.size w wr) (fun _ vk _ => n - (intOf vk).toNat)
 case atStart => exact ⟨0, Nat.zero_le _, rfl, World.ownsRow_nil _ _ _ _, Below.refl _ _⟩
 case round =>
  obtain ⟨k, hk, rfl, hown, hbel⟩ := hrel
  by_cases hlt : k < n
  ·obtain ⟨b, off, rfl, hb, _⟩ := (HH.out).spot (by omega)
   obtain ⟨r, hx⟩ : ∃ r, r = l[k]'(by rw [HL.out]; exact hlt) := ⟨_, rfl⟩
   have hcell : wr.cell? ⟨b, off + k, none⟩ = some (.int .i32 r) := by
    rw [hx, ← HH.out.int k (by rw [HL.out]; exact hlt)]
    exact hbel.cell (p := ⟨b, off + k, none⟩) hb
   have hRr : Yo r := by rw [hx]; exact HR.out _ (List.getElem_mem _)
   obtain ⟨hr1, hr2⟩ := hRr
   have HS : Hid (l.take (k + 1) = l.take k ++ [r]) := by
    rw [hx]
    exact List.take_succ_eq_append_getElem (by rw [HL.out]; exact hlt)
   clear hx
   have hle := (iL (l.take k)).1
   have hle2 : (l.take k).length ≤ k := List.length_take_le _ _
   obtain ⟨m, hmm⟩ : ∃ m, m = (enc (l.take k)).length := ⟨_, rfl⟩
   rw [← hmm] at hle hown
   have HM := hid hmm
   clear hmm
   go_wp2_with fail
   refine (Tryz.utf8_AppendRune_plain w.heap.size _ _ _ r hr1 hr2 _ hown (by omega) hbel.size).mono ?_
   rintro e w1 ⟨v', rfl, hown1, o, hg⟩
   have gB : Below w.heap.size w w1 := (hbel.alloc hbel.size o).grown hg (by have := hbel.size; simp; omega) (fun g hg => (hown.lt g hg).1)
   clear hown hbel
   go_wp2
   go_roundw
   case rel => exact ⟨k + 1, by omega, by go_num, by
     rw [HS.out, uJ, List.length_append, aX, ← UD, ← Lib.runeCells_length, ← HM.out]
     exact hown1, gB⟩
   case measure => simp [intOf]; omega
  ·obtain rfl : k = n := by omega
   have HE : Hid (l.take k = l) := by
    rw [← HL.out]; exact List.take_length
   go_wp2
   go_ret
   exact ⟨_, rfl, by rw [HE.out] at hown; exact hown, hbel⟩
end Go.Proofs.YtcfgioklgmlclaaGreatDoor.xw
namespace Go.Proofs.YtcfgioklgmlclaaGreatDoor.PthK
open Go.RowKit Base aP qM fZ
theorem qV (w : World) (s : ByteArray) (p : Nat) : Below w.heap.size w (w.iter s p) := (Below.refl _ _).alloc (Nat.le_refl _) _
theorem iP (r : Int) (w : World) (h0 : 128 ≤ r) : Calls Tryz.prog 198 #[.int .i32 r] w fun e w' => e = .returned (.bool (validRune r)) ∧ w = w' := by
 have q0 : (0 : Int) ≤ r := by omega
 by_cases h1 : r < 55296
 ·have HV : Hid (validRune r = true) := decide_eq_true (.inl ⟨q0, h1⟩)
  go_enter Tryz.func198, Tryz.ntmps198
  go_wp2
  go_ret
  exact ⟨aB HV.out.symm, rfl⟩
 ·by_cases h2 : 57343 < r
  ·by_cases h3 : r ≤ 1114111
   ·have HV : Hid (validRune r = true) := decide_eq_true (.inr ⟨h2, h3⟩)
    go_enter Tryz.func198, Tryz.ntmps198
    go_wp2
    go_ret
    exact ⟨aB HV.out.symm, rfl⟩
   ·have HV : Hid (validRune r = false) := decide_eq_false (by omega)
    go_enter Tryz.func198, Tryz.ntmps198
    go_wp2
    go_ret
    exact ⟨aB HV.out.symm, rfl⟩
  ·have HV : Hid (validRune r = false) := decide_eq_false (by omega)
   go_enter Tryz.func198, Tryz.ntmps198
   go_wp2
   go_ret
   exact ⟨aB HV.out.symm, rfl⟩
def two : ByteArray := ⟨#[47, 92]⟩
theorem Jp (r : Int) (w : World) (h0 : 128 ≤ r) : Calls Tryz.prog 171 #[.string two, .int .i32 r] w fun e w' => e = .returned (.int .i64 (-1)) ∧ Below w.heap.size w w' := by
 have q0 : (0 : Int) ≤ r := by omega
 have q1 : ¬ r < 128 := by omega
 obtain ⟨T, hT⟩ : ∃ T, T = two := ⟨_, rfl⟩
 have hsz : T.size = 2 := by rw [hT]; rfl
 have g0 : ∀ h, T[0]'h = 47 := by subst hT; intro h; rfl
 have g1 : ∀ h, T[1]'h = 92 := by subst hT; intro h; rfl
 rw [← hT]
 by_cases hE : r = 65533
 ·subst hE
  have hn0 : ∀ ty, (Instr.next (.pointer (some ⟨w.heap.size, 0, none⟩)) true ty).run Tryz.prog (w.iter T 0) = .ok (.tuple #[.bool true, .int .i64 0, .int .i32 47]) (w.iter T 1) := fun ty => by
   have := run_next_ascii (P := Tryz.prog) w T 0 ty (by omega) (by rw [g0]; decide)
   rw [g0] at this
   exact this
  have hn1 : ∀ ty, (Instr.next (.pointer (some ⟨w.heap.size, 0, none⟩)) true ty).run Tryz.prog (w.iter T 1) = .ok (.tuple #[.bool true, .int .i64 1, .int .i32 92]) (w.iter T 2) := fun ty => by
   have := run_next_ascii (P := Tryz.prog) w T 1 ty (by omega) (by rw [g1]; decide)
   rw [g1] at this
   exact this
  have hn2 : ∀ ty, (Instr.next (.pointer (some ⟨w.heap.size, 0, none⟩)) true ty).run Tryz.prog (w.iter T 2) = .ok (.tuple #[.bool false]) (w.iter T 2) := fun ty => run_next_end w T 2 ty (by omega)
  clear hT g0 g1 hsz
  go_enter Tryz.func171, Tryz.ntmps171
  go_wp2
  go_loopg [5, 6] 2 (fun g _ _ wx => ∃ i : Nat, i + g = 2 ∧ wx = w.iter T i)
  case atStart => exact ⟨0, rfl, rfl⟩
  case round =>
   obtain ⟨i, hig, rfl⟩ := hrel
   cases gk with
   | zero =>
    obtain rfl : i = 2 := by omega
    go_wp2
    go_ret
    exact ⟨rfl, qV _ _ _⟩
   | succ g =>
    cases g with
    | zero =>
     obtain rfl : i = 1 := by omega
     go_wp2
     go_roundg 0
     case measure => omega
     case rel => exact ⟨2, rfl, rfl⟩
    | succ g =>
     obtain rfl : g = 0 := by omega
     obtain rfl : i = 0 := by omega
     go_wp2
     go_roundg 1
     case measure => omega
     case rel => exact ⟨1, rfl, rfl⟩
 ·cases hv : validRune r with
  | false =>
   have HV := hid hv
   clear hT g0 g1 hsz hv
   go_enter Tryz.func171, Tryz.ntmps171
   go_wp2_with fail
   refine (iP r _ h0).mono ?_
   rintro e w2 ⟨rfl, rfl⟩
   rw [HV.out]
   go_wp2
   go_ret
   exact ⟨rfl, Below.refl _ _⟩
  | true =>
   have HV := hid hv
   obtain ⟨hE2, hE4, hEl⟩ := encode_facts r (by rw [validRune_eq]; exact hv) h0
   obtain ⟨E, hEE⟩ : ∃ E, E = Utf8.encode r := ⟨_, rfl⟩
   rw [← hEE] at hE2 hE4 hEl
   have hcv : ∀ w : World, (convert 21 9 (.int .i32 r)).run Tryz.prog w = .ok (.string E) w := fun w => by
    rw [hEE]
    exact run_convert_int_string w _ _ .i32 r (by rw [Tryz.underlying21]; rfl) Tryz.underlying9
   clear hT hv hEE
   by_cases h2 : E.size = 2
   ·obtain ⟨c, hc⟩ : ∃ c, c = E[1]'(by omega) := ⟨_, rfl⟩
    have hc128 : 128 ≤ c.toNat := by
     have := hEl (by omega)
     rw [hc]
     have e : E.size - 1 = 1 := by omega
     simpa [e] using this
    have g92 := g1 (by omega)
    have hne : ((92 : Int) != (c.toNat : Int)) = true := by simp; omega
    have HC := hid hc128
    have hcE : E[1]'(by omega) = c := hc.symm
    have hz : (E.size : Int) - 1 = 1 := by omega
    clear hEl hE2 hE4 hc hc128 g0
    go_enter Tryz.func171, Tryz.ntmps171
    go_wp2_with fail
    refine (iP r _ h0).mono ?_
    rintro e w2 ⟨rfl, rfl⟩
    rw [HV.out]
    go_wp2
    go_step3
    go_wp2
    go_loopg [9] 0 (fun _ s9 wx => s9 = .int .i64 1 ∧ wx = w)
    case atStart => exact ⟨int_eq (by omega), rfl⟩
    case round =>
     obtain ⟨rfl, rfl⟩ := hrel
     go_wp2
     go_step3
     go_wp2
     go_region
     go_wp2_with fail
     refine dY (by kernel_rfl) [is (.string T), is (.int .i64 1), is (.int .i64 2), is (.string ByteArray.empty), is (.string E), is (.int .i64 1), is (.int .u8 (c.toNat : Int)), is (.int .i64 (-1)), is (.int .i64 (-1))] [[], [], [1], [0, 2], [], [], [4, 5], [3, 6], [7]] (by kernel_rfl) ?_ ?_
     ·refine ⟨?_, ?_, ?_, ?_, ?_, ?_, ?_, ?_, ?_, trivial⟩
      all_goals (intro t wq hbq hh K hK; simp only [filled, upd, Have, is, any, row, pick, Act.put, List.setIfInBounds_toArray, List.set_cons_zero, List.set_cons_succ, Nat.reduceAdd, Nat.reduceEqDiff, reduceIte, List.tail_cons, List.headD_cons] at hh hK ⊢; (try simp only [hh] at hK ⊢); try clear hh)
      iterate 2 · go_simp; exact hK _ _ (Below.refl _ _) rfl
      ·go_simp; first | exact hK _ _ (Below.refl _ _) rfl | exact hK _ _ (Below.refl _ _) (iU (by omega) (by omega))
      iterate 4 · go_simp; exact hK _ _ (Below.refl _ _) rfl
      ·go_simp; refine (Tryz.strings_IndexByte ByteArray.empty _ _).mono ?_; rintro e wz ⟨rfl, hwz⟩; subst hwz; exact hK _ _ (Below.refl _ _) rfl
      ·go_simp; exact hK _ _ (Below.refl _ _) rfl
     ·intro t wq hbq hh
      have f8 := aS hh 8 (by decide)
      simp only [pick] at f8
      replace f8 : t 8 = (.int .i64 (-1)) := f8
      clear hh
      simp only [filled, upd, Have, is, any, row, pick, Act.put, List.setIfInBounds_toArray, List.set_cons_zero, List.set_cons_succ, Nat.reduceAdd, Nat.reduceEqDiff, reduceIte]
      simp only [f8]
      go_wp2
      rw [Exit.noGoto_ret]
      go_simp
      go_ret
      exact ⟨rfl, CV (Below.refl _ _) hbq⟩
   ·have h3 : 3 ≤ E.size := by omega
    clear hEl g0 g1 h2
    have q3 : ¬ ((E.size : Int) - 1 < 2) := by omega
    go_enter Tryz.func171, Tryz.ntmps171
    go_wp2_with fail
    refine (iP r _ h0).mono ?_
    rintro e w2 ⟨rfl, rfl⟩
    rw [HV.out]
    go_wp2
    go_step3
    go_wp2
    go_loopg [9] 0 (fun _ s9 wx => s9 = .int .i64 ((E.size : Int) - 1) ∧ wx = w)
    case atStart => exact ⟨rfl, rfl⟩
    case round =>
     obtain ⟨rfl, rfl⟩ := hrel
     go_wp2
     rw [Exit.noGoto_ret]
     go_ret
     exact ⟨rfl, Below.refl _ _⟩
theorem IQ (r : Int) (w : World) (h0 : 0 ≤ r) (h1 : r < 128) : Calls Tryz.prog 171 #[.string two, .int .i32 r] w fun e w' => e = .returned (.int .i64 (Lib.indexByte two.data.toList r.toNat.toUInt8)) ∧ w' = w := Any.strings_IndexRune_ascii { Tryz.l153 with } two r w h0 h1
theorem adS (c : UInt8) (h : 128 ≤ c.toNat) (sp : Bool) : fP sp c = false := by
 have h1 : c ≠ 47 := by rintro rfl; exact absurd h (by decide)
 have h2 : c ≠ 92 := by rintro rfl; exact absurd h (by decide)
 unfold fP
 rw [decide_eq_false h1, decide_eq_false h2]
 cases sp <;> rfl
theorem UW (s : ByteArray) (i : Nat) (h : i < s.size) : (s.get! i) = s[i]'h := by
 simp [ByteArray.get!, getElem!_pos, h]
 rfl
theorem wide (s : ByteArray) (i : Nat) (h : i < s.size) (ha : 128 ≤ (s[i]'h).toNat) : i + (Utf8.decode s i).2 ≤ s.size ∧ ∀ j (hj : j < s.size), i ≤ j → j < i + (Utf8.decode s i).2 → 128 ≤ (s[j]'hj).toNat := by
 have hn : ¬ (s[i]'h).toNat < 128 := by omega
 have one : i + 1 ≤ s.size ∧ ∀ j (hj : j < s.size), i ≤ j → j < i + 1 → 128 ≤ (s[j]'hj).toNat := ⟨by omega, fun j hj h1 h2 => by
  obtain rfl : j = i := by omega
  exact ha⟩
 simp only [Utf8.decode, get_at s i h, hn, if_false]
 have c1 : ∀ k, (decide (i + k < s.size) && (s.get! (i + k)).toNat / 64 == 2) = true → ∃ hk : i + k < s.size, 128 ≤ (s[i + k]'hk).toNat := fun k hk => by
  simp only [Bool.and_eq_true, decide_eq_true_eq, beq_iff_eq] at hk
  refine ⟨hk.1, ?_⟩
  have := hk.2
  rw [UW s _ hk.1] at this
  omega
 split
 ·rename_i h2
  simp only [Bool.and_eq_true] at h2
  obtain ⟨k1, b1⟩ := c1 1 (by simpa using h2.2)
  split
  ·refine ⟨by show i + 2 ≤ _; omega, fun j hj h1 h2 => ?_⟩
   replace h2 : j < i + 2 := h2
   have : j = i ∨ j = i + 1 := by omega
   rcases this with rfl | rfl
   ·exact ha
   ·exact b1
  ·exact one
 ·split
  ·rename_i h2
   simp only [Bool.and_eq_true] at h2
   obtain ⟨k1, b1⟩ := c1 1 (by simpa using h2.1.2)
   obtain ⟨k2, b2⟩ := c1 2 (by simpa using h2.2)
   split
   ·refine ⟨by show i + 3 ≤ _; omega, fun j hj h1 h2 => ?_⟩
    replace h2 : j < i + 3 := h2
    have : j = i ∨ j = i + 1 ∨ j = i + 2 := by omega
    rcases this with rfl | rfl | rfl
    ·exact ha
    ·exact b1
    ·exact b2
   ·exact one
  ·split
   ·rename_i h2
    simp only [Bool.and_eq_true] at h2
    obtain ⟨k1, b1⟩ := c1 1 (by simpa using h2.1.1.2)
    obtain ⟨k2, b2⟩ := c1 2 (by simpa using h2.1.2)
    obtain ⟨k3, b3⟩ := c1 3 (by simpa using h2.2)
    split
    ·refine ⟨by show i + 4 ≤ _; omega, fun j hj h1 h2 => ?_⟩
     replace h2 : j < i + 4 := h2
     have : j = i ∨ j = i + 1 ∨ j = i + 2 ∨ j = i + 3 := by omega
     rcases this with rfl | rfl | rfl | rfl
     ·exact ha
     ·exact b1
     ·exact b2
     ·exact b3
    ·exact one
   ·exact one
def adv (w : World) (k : Nat) (s : ByteArray) (p : Nat) : World := { w with heap := w.heap.setIfInBounds k (.stringIter s p) }
theorem Ux (w : World) (k : Nat) (s : ByteArray) (p : Nat) (h : k < w.heap.size) : (adv w k s p).heap[k]? = some (.stringIter s p) := by
 show (w.heap.setIfInBounds k _)[k]? = _
 simp [h]
theorem Eo {w0 w : World} (h : Below w0.heap.size w0 w) (s : ByteArray) (p : Nat) : Below w0.heap.size w0 (adv w w0.heap.size s p) :=
 ⟨h.os, h.tape, h.output, by show _ ≤ (w.heap.setIfInBounds _ _).size; simpa using h.size, fun k hk => by
  show (w.heap.setIfInBounds _ _)[k]? = _
  rw [Array.getElem?_setIfInBounds_ne (by omega)]
  exact h.block k hk⟩
theorem next_any {P : Program} (w : World) (k : Nat) (s : ByteArray) (pos : Nat) (ty : TypeId) (hk : w.heap[k]? = some (.stringIter s pos)) (h : pos < s.size) :
  (Instr.next (.pointer (some ⟨k, 0, none⟩)) true ty).run P w = .ok (.tuple #[.bool true, .int .i64 pos, .int .i32 (Utf8.decode s pos).1]) (adv w k s (pos + (Utf8.decode s pos).2)) := by
 simp only [Instr.next, getObj, setObj, Sem.run_bind, Sem.run, hk, Result.andThen, h, if_true]
 simp [goInt, adv]
theorem IU {P : Program} (w : World) (k : Nat) (s : ByteArray) (pos : Nat) (ty : TypeId) (hk : w.heap[k]? = some (.stringIter s pos)) (h : ¬ pos < s.size) :
  (Instr.next (.pointer (some ⟨k, 0, none⟩)) true ty).run P w = .ok (.tuple #[.bool false]) w := by
 simp [Instr.next, getObj, Sem.run, hk, h]
theorem short_any (s : ByteArray) (w : World) (h8 : s.size ≤ 8) :
  Calls Tryz.prog 174 #[.string s, .string two] w fun e w' => e = .returned (.int .i64 (Lib.indexAny s.data.toList [47, 92])) ∧ Below w.heap.size w w' := by
 have hemp : two.toList.isEmpty = false := by unfold two; rw [ByteArray.toList_mk]; rfl
 have hsz2 : ((two.size : Int) == 1) = false := rfl
 have h8z : decide ((8 : Int) < (s.size : Int)) = false := decide_eq_false (by omega)
 have hL : s.data.toList.length = s.size := Array.length_toList
 have HL := hid hL
 clear hL
 have Ir := IQ
 have Iu := Jp
 obtain ⟨T, hT⟩ : ∃ T, T = two := ⟨_, rfl⟩
 rw [← hT] at Ir Iu
 have Qn := hid Ir
 have aaF := hid Iu
 clear Ir Iu
 rw [← hT] at hemp hsz2 ⊢
 have HT := hid hT
 clear hT
 go_enter Tryz.func174, Tryz.ntmps174
 go_wp2_with fail
 refine (Any.strings_shouldUseASCIISet { Tryz.l153 with } _ _).mono ?_
 rintro e w2 ⟨rfl, hw2⟩
 subst hw2
 rw [h8z]
 go_wp2
 go_loopg [9, 10] s.size (fun g _ _ wx => ∃ i : Nat, i ≤ s.size ∧ s.size ≤ i + g ∧ wx.heap[w2.heap.size]? = some (.stringIter s i) ∧ Hid (Below w2.heap.size w2 wx) ∧ Hid (Lib.NoAny s.data.toList [47, 92] i))
 case atStart => exact ⟨0, Nat.zero_le _, by omega, World.iter_heap _ _ _, qV _ _ _, Lib.NoAny.zero _ _⟩
 case round =>
  obtain ⟨i, hile, hig, hit, HB, HN⟩ := hrel
  have acw : w2.heap.size < wr.heap.size := (Array.getElem?_eq_some_iff.1 hit).1
  by_cases hi : i < s.size
  ·obtain ⟨g, rfl⟩ : ∃ g, gk = g + 1 := ⟨gk - 1, by omega⟩
   obtain ⟨x, hx⟩ : ∃ x : UInt8, s[i]'hi = x := ⟨_, rfl⟩
   have hxl : s.data.toList[i]? = some x := by rw [← hx]; exact Lib.data_getElem? s i hi
   have hnx := fun ty => next_any (P := Tryz.prog) wr w2.heap.size s i ty hit hi
   obtain ⟨r, hr⟩ : ∃ r : Nat, r = (Utf8.decode s i).1 := ⟨_, rfl⟩
   obtain ⟨d, hd⟩ : ∃ d : Nat, d = (Utf8.decode s i).2 := ⟨_, rfl⟩
   rw [← hr, ← hd] at hnx
   obtain ⟨wa, gI⟩ : ∃ wa, wa = adv wr w2.heap.size s (i + d) := ⟨_, rfl⟩
   have hia : wa.heap[w2.heap.size]? = some (.stringIter s (i + d)) := by rw [gI]; exact Ux _ _ _ _ acw
   have Qh : Hid (Below w2.heap.size w2 wa) := by show Below _ _ _; rw [gI]; exact Eo HB.out _ _
   have hka : w2.heap.size < wa.heap.size := (Array.getElem?_eq_some_iff.1 hia).1
   rw [← gI] at hnx
   have HIA := hid hia
   have HKA := hid hka
   clear gI hit acw hia hka
   by_cases hx128 : x.toNat < 128
   ·obtain rfl : d = 1 := by rw [hd, decode_ascii s i hi (by rw [hx]; exact hx128)]
    obtain rfl : r = x.toNat := by rw [hr, decode_ascii s i hi (by rw [hx]; exact hx128), hx]
    have Hx := hid hxl
    have HBK : Hid (((x.toNat : Int)).toNat.toUInt8 = x) := by show _ = _; simp
    have aax := hid (Lib.contains_iff_indexByte [47, 92] x)
    have hx0 : (0 : Int) ≤ (x.toNat : Int) := by omega
    clear hxl hx hr hd
    cases hin : ([47, 92] : List UInt8).contains x
    ·have hlt : ¬ ((0 : Int) ≤ Lib.indexByte T.data.toList x) := by rw [HT.out]; exact of_decide_eq_false (aax.out.symm.trans hin)
     have Nb := hid hin
     clear hin
     go_wp2_with fail
     refine (Qn.out _ _ hx0 (by omega)).mono ?_
     rintro e w3 ⟨rfl, hw3⟩
     subst hw3
     rw [HBK.out]
     go_wp2
     go_roundg g
     case measure => omega
     case rel => exact ⟨i + 1, by omega, by omega, HIA.out, Qh, HN.out.succ Hx.out Nb.out⟩
    ·have hlt : (0 : Int) ≤ Lib.indexByte T.data.toList x := by rw [HT.out]; exact of_decide_eq_true (aax.out.symm.trans hin)
     have Nb := hid hin
     clear hin
     go_wp2_with fail
     refine (Qn.out _ _ hx0 (by omega)).mono ?_
     rintro e w3 ⟨rfl, hw3⟩
     subst hw3
     rw [HBK.out]
     go_wp2
     go_ret
     exact ⟨by rw [Lib.indexAny_hit HN.out Hx.out Nb.out]; rfl, Qh.out⟩
   ·obtain ⟨acs, hpos⟩ := decode_high s i hi (by rw [hx]; omega)
    have HWD := wide s i hi (by rw [hx]; omega)
    rw [← hr] at acs
    rw [← hd] at hpos HWD
    have HNX : Hid (Lib.NoAny s.data.toList [47, 92] (i + d)) := fun j b hj hb => by
     by_cases hji : j < i
     ·exact HN.out j b hji hb
     ·obtain ⟨hjs, e⟩ := List.getElem?_eq_some_iff.1 hb
      have acv : j < s.size := by rw [HL.out] at hjs; exact hjs
      have := HWD.2 j acv (by omega) hj
      have hb' : s[j]'acv = b := e
      rw [hb'] at this
      have := adS b this true
      rw [← WS] at this
      exact this
    have hid1 := HWD.1
    have HFAR : Hid (128 ≤ (r : Int)) := by show _ ≤ _; omega
    clear hr hd HWD hx hxl acs
    go_wp2_with fail
    refine (aaF.out _ _ HFAR.out).mono ?_
    rintro e w3 ⟨rfl, hb3⟩
    have HI3 : Hid (w3.heap[w2.heap.size]? = some (.stringIter s (i + d))) := (hb3.block _ HKA.out).trans HIA.out
    have HB3 : Hid (Below w2.heap.size w2 w3) := bel Qh.out hb3
    clear hb3
    go_wp2
    go_roundg g
    case measure => omega
    case rel => exact ⟨i + d, by omega, by omega, HI3.out, HB3, HNX⟩
  ·obtain rfl : i = s.size := by omega
   have hnx := fun ty => IU (P := Tryz.prog) wr w2.heap.size s s.size ty hit hi
   go_wp2
   go_ret
   exact ⟨by rw [Lib.indexAny_none (by rw [HL.out]; exact HN.out)]; rfl, HB.out⟩
end Go.Proofs.YtcfgioklgmlclaaGreatDoor.PthK
namespace Go.Proofs.YtcfgioklgmlclaaGreatDoor.Qy
open Go.RowKit Base aP uf pV xZ pU AO qM
def cs (sp : Bool) : ByteArray := strOf (chs sp)
theorem Uy (sp : Bool) (s : ByteArray) (w : World) (hs : s.size ≤ 1073741824) :
  Calls Tryz.prog 174 #[.string s, .string (cs sp)] w fun e w' => e = .returned (.int .i64 (if upto sp s.data.toList < s.size then (upto sp s.data.toList : Int) else -1)) ∧ Below w.heap.size w w' := by
 have hsz : s.data.toList.length = s.size := Array.length_toList
 have hi := Lu sp s.data.toList
 rw [hsz] at hi
 rw [← hi]
 cases sp with
 | false => exact (Tryz.strings_IndexAny_one s (cs false) w rfl (by intro j b h; match j, h with | 0, h => simp [cs, chs, strOf] at h; subst h; decide)).mono fun e w' ⟨h1, h2⟩ => ⟨h1, h2 ▸ Below.refl _ _⟩
 | true =>
  by_cases h8 : 8 < s.size
  ·exact Tryz.strings_IndexAny_long s (cs true) w (Nat.le_refl _) h8 (by omega) (by decide) (by intro j b h; match j, h with | 0, h => (simp [cs, chs, strOf] at h; subst h; decide) | 1, h => (simp [cs, chs, strOf] at h; subst h; decide))
  ·exact PthK.short_any s w (by omega)
theorem walk_any (file sp : Bool) (A : Option Addr) (n cap : Nat) (l : List ByteArray) (s : ByteArray) (w : World) (hR : dS w A n (l.map Value.string)) (hnc : n ≤ cap) (hcm : cap ≤ maxLen) (hm : n + s.size ≤ 900000) :
  Calls Tryz.prog 186 #[.bool file, .bool sp, .slice A n cap, .string s] w (jT w.heap.size w (wb file sp l [] s.data.toList)) := by
 have hln : l.length = n := by rw [← hR.1, List.length_map]
 have hsl : s.data.toList.length = s.size := Array.length_toList
 obtain ⟨S, hS⟩ : ∃ S, S = wb file sp l [] s.data.toList := ⟨_, rfl⟩
 rw [← hS]
 have HS := hid hS
 have HR := hid hR
 have HL := hid hln
 have HSL := hid hsl
 have hn6 : n ≤ 1000000 := by omega
 clear hS hR hln hsl
 cases sp
 focus
  have HIX : Hid (∀ (s : ByteArray) (w : World), s.size ≤ 1073741824 → Calls Tryz.prog 174 #[.string s, .string ⟨#[47]⟩] w fun e w' => e = .returned (.int .i64 (if upto false s.data.toList < s.size then (upto false s.data.toList : Int) else -1)) ∧ Below w.heap.size w w') := fun s w h => Uy false s w h
  obtain ⟨p, hp⟩ : ∃ p, p = false := ⟨_, rfl⟩
 rotate_left
 focus
  have HIX : Hid (∀ (s : ByteArray) (w : World), s.size ≤ 1073741824 → Calls Tryz.prog 174 #[.string s, .string ⟨#[47, 92]⟩] w fun e w' => e = .returned (.int .i64 (if upto true s.data.toList < s.size then (upto true s.data.toList : Int) else -1)) ∧ Below w.heap.size w w') := fun s w h => Uy true s w h
  obtain ⟨p, hp⟩ : ∃ p, p = true := ⟨_, rfl⟩
 rotate_left
 all_goals
  rw [← hp] at HIX HS
  clear hp
  go_enter Tryz.func186, Tryz.ntmps186
  go_wp2_with fail
  refine (qP A n cap l _ HR.out hn6).mono ?_
  rintro e w2 ⟨v, rfl, hown2, hb2⟩
  have jI := hid hown2
  clear hown2
  go_wp2
  go_loopw [3, 10, 11] (fun vs vo _ wr => ∃ (M : List UInt8) (l' : List ByteArray), vs = .string (strOf M) ∧ l'.length + M.length ≤ n + s.size ∧ Hid (wr.ownsRow w.heap.size 9 1 vo l'.length (l'.map Value.string)) ∧ Hid (Below w.heap.size w wr) ∧ Hid (S = wb file p l' [] M)) (fun vs _ _ _ => match vs with | .string x => x.size | _ => 0)
  case atStart => exact ⟨s.data.toList, l, by rw [ay], by rw [HL.out, HSL.out]; exact Nat.le_refl _, jI, hb2, HS⟩
  case round =>
   clear jI
   obtain ⟨M, l', rfl, hlen, HO, HB, HW⟩ := hrel
   obtain ⟨U, hU⟩ : ∃ U, U = upto p M := ⟨_, rfl⟩
   obtain ⟨Z, hZ⟩ : ∃ Z, Z = strOf M := ⟨_, rfl⟩
   have hzs : Z.size = M.length := by rw [hZ, ah]
   have hzl : Z.data.toList = M := by rw [hZ]; rfl
   have hul : U ≤ M.length := by rw [hU]; exact Gv p M
   rw [← hZ]
   have HU := hid hU
   have J5 := hid hzl
   have HZ := hid hZ
   clear hU hZ hzl
   obtain ⟨m, hm⟩ : ∃ m, m = M.length := ⟨_, rfl⟩
   obtain ⟨k, hk⟩ : ∃ k, k = l'.length := ⟨_, rfl⟩
   rw [← hm] at hul hlen hzs
   rw [← hk] at hlen
   have HM := hid hm
   have HK := hid hk
   clear hm hk
   by_cases hlt : U < m
   ·have HRV : Hid ((if upto p Z.data.toList < Z.size then (upto p Z.data.toList : Int) else -1) = (U : Int)) := by
     show _ = _
     rw [J5.out, ← HU.out, if_pos (by omega)]
    have HT1 : Hid (Z.extract 0 U = strOf (M.take U)) := by show _ = _; rw [fZ.ext_take, J5.out]
    have HT2 : Hid (Z.extract (U + 1) m = strOf (M.drop (U + 1))) := by show _ = _; rw [fZ.ext_drop _ _ _ hzs.symm, J5.out]
    obtain ⟨X, hX⟩ : ∃ X, X = Z.extract 0 U := ⟨_, rfl⟩
    obtain ⟨Y, hY⟩ : ∃ Y, Y = Z.extract (U + 1) m := ⟨_, rfl⟩
    rw [← hX] at HT1
    rw [← hY] at HT2
    have hxe : Z.extract 0 U = X := hX.symm
    have hye : Z.extract (U + 1) m = Y := hY.symm
    clear hX hY
    have hxs : X.size ≤ 1073741824 := by rw [HT1.out, ah, List.length_take]; omega
    have hys : Y.size < m := by rw [HT2.out, ah, List.length_drop, ← HM.out]; omega
    have hxd : Hid (X.data.toList = M.take U) := by show _ = _; rw [HT1.out]; rfl
    have HYS := hid hys
    have hkm : k ≤ 1000000 := by omega
    have hls := oz file false l' X.data.toList
    rw [← HK.out] at hls
    have Yg := hid hls
    clear hls hys
    go_wp2_with fail
    refine (HIX.out Z _ (by omega)).mono ?_
    rintro e w3 ⟨rfl, hb3⟩
    rw [HRV.out]
    go_wp2_with fail
    refine (D7 file false w.heap.size _ l' X _ (aI HO.out hb3) (Nat.le_trans HB.out.size hb3.size) (by rw [← HK.out]; exact hkm) hxs).mono ?_
    rintro e w4 ⟨v4, rfl, hown4, hb4⟩
    have GN := hid hown4
    have HB4 : Hid (Below w.heap.size w w4) := (bel HB.out hb3).trans (hb4.mono (Nat.le_refl _))
    clear hown4 hb4 hb3
    go_wp2
    go_roundw
    case rel => exact ⟨M.drop (U + 1), Aj file false l' X.data.toList, by rw [HT2.out], by rw [List.length_drop, ← HM.out]; have := Yg.out; omega, GN, HB4, by show _ = _; rw [HW.out, PN file p M l' [] (by rw [← HU.out, ← HM.out]; exact hlt), ← HU.out, hxd.out]; rfl⟩
    case measure => show Y.size < Z.size; rw [hzs]; exact HYS.out
   ·have HRV : Hid ((if upto p Z.data.toList < Z.size then (upto p Z.data.toList : Int) else -1) = -1) := by
     show _ = _
     rw [J5.out, ← HU.out, if_neg (by omega)]
    have hkm : k ≤ 1000000 := by omega
    have HE : Hid (S = Aj file true l' Z.data.toList) := by
     show _ = _
     rw [HW.out, PK file p M l' [] (by rw [← HU.out, ← HM.out]; exact hlt), J5.out]
     rfl
    go_wp2_with fail
    refine (HIX.out Z _ (by omega)).mono ?_
    rintro e w3 ⟨rfl, hb3⟩
    rw [HRV.out]
    go_wp2_with fail
    refine (D7 file true w.heap.size _ l' Z _ (aI HO.out hb3) (Nat.le_trans HB.out.size hb3.size) (by rw [← HK.out]; exact hkm) (by omega)).mono ?_
    rintro e w4 ⟨v4, rfl, hown4, hb4⟩
    have HX : Hid (jT w.heap.size w S (.returned v4) w4) := ⟨v4, rfl, by rw [HE.out]; exact hown4, (bel HB.out hb3).trans (hb4.mono (Nat.le_refl _))⟩
    clear hown4 hb4 hb3
    go_wp2
    go_ret
    exact HX.out
end Go.Proofs.YtcfgioklgmlclaaGreatDoor.Qy
namespace Go.Proofs.YtcfgioklgmlclaaGreatDoor.Uw
open Go.RowKit Base uy xw
def xM (r : Int) : Prop := 0 ≤ r ∧ r ≤ 1114111 ∧ ¬ (55296 ≤ r ∧ r ≤ 57343)
instance (r : Int) : Decidable (xM r) := by unfold xM; exact inferInstance
def u (x : Int) : UInt8 := x.toNat.toUInt8
theorem iW (x : Int) (h0 : 0 ≤ x) (h1 : x ≤ 255) : ((u x).toNat : Int) = x := by
 unfold u
 simp
 omega
theorem enc1 (r : Int) (h0 : 0 ≤ r) (h1 : r ≤ 127) : Lib.encodeRune r = [u r] := by unfold Lib.encodeRune; rw [Lib.encodeRuneZ_one h0 h1]; rfl
theorem enc2 (r : Int) (h0 : 128 ≤ r) (h1 : r ≤ 2047) : Lib.encodeRune r = [u (192 + r / 64), u (128 + r % 64)] := by unfold Lib.encodeRune; rw [Lib.encodeRuneZ_two h0 h1]; rfl
theorem enc3 (r : Int) (h : (2048 ≤ r ∧ r < 55296) ∨ (57343 < r ∧ r ≤ 65535)) : Lib.encodeRune r = [u (224 + r / 4096), u (128 + r / 64 % 64), u (128 + r % 64)] := by unfold Lib.encodeRune; rw [Lib.encodeRuneZ_three h]; rfl
theorem enc4 (r : Int) (h0 : 65536 ≤ r) (h1 : r ≤ 1114111) : Lib.encodeRune r = [u (240 + r / 262144), u (128 + r / 4096 % 64), u (128 + r / 64 % 64), u (128 + r % 64)] := by unfold Lib.encodeRune; rw [Lib.encodeRuneZ_four h0 h1]; rfl
theorem encBad (r : Int) (h : ¬ xM r) : Lib.encodeRune r = Lib.encodeRune 65533 := by
 unfold Lib.encodeRune
 rw [Lib.encodeRuneZ_bad (by unfold xM at h; omega), Lib.encodeRuneZ_three (r := 65533) (by omega)]
 rfl
theorem rd_enc (r : Int) (h : xM r) (t : List UInt8) : rd (Lib.encodeRune r ++ t) = (r, ((Lib.encodeRune r).length : Int), true) := by
 obtain ⟨h0, h1, h2⟩ := h
 by_cases a : r ≤ 127
 ·rw [enc1 r h0 a]
  simp only [List.cons_append, List.nil_append, rd, iW r h0 (by omega)]
  rw [if_pos a]
  rfl
 by_cases b : r ≤ 2047
 ·rw [enc2 r (by omega) b]
  have e1 := iW (192 + r / 64) (by omega) (by omega)
  have e2 := iW (128 + r % 64) (by omega) (by omega)
  simp only [List.cons_append, List.nil_append, rd, e1]
  rw [if_neg (by omega), if_neg (by omega), if_pos (by omega), tail, e2, if_neg (by unfold lo hi; (repeat' split) <;> omega), tail]
  refine Prod.ext ?_ rfl
  simp only
  omega
 by_cases c : r ≤ 65535
 ·rw [enc3 r (by omega)]
  have e1 := iW (224 + r / 4096) (by omega) (by omega)
  have e2 := iW (128 + r / 64 % 64) (by omega) (by omega)
  have e3 := iW (128 + r % 64) (by omega) (by omega)
  simp only [List.cons_append, List.nil_append, rd, e1]
  rw [if_neg (by omega), if_neg (by omega), if_neg (by omega), if_pos (by omega), tail, e2, if_neg (by unfold lo hi; (repeat' split) <;> omega), tail, e3, if_neg (by omega), tail]
  refine Prod.ext ?_ rfl
  simp only
  omega
 ·rw [enc4 r (by omega) h1]
  have e1 := iW (240 + r / 262144) (by omega) (by omega)
  have e2 := iW (128 + r / 4096 % 64) (by omega) (by omega)
  have e3 := iW (128 + r / 64 % 64) (by omega) (by omega)
  have e4 := iW (128 + r % 64) (by omega) (by omega)
  simp only [List.cons_append, List.nil_append, rd, e1]
  rw [if_neg (by omega), if_neg (by omega), if_neg (by omega), if_neg (by omega), tail, e2, if_neg (by unfold lo hi; (repeat' split) <;> omega), tail, e3, if_neg (by omega), tail, e4, if_neg (by omega), tail]
  refine Prod.ext ?_ rfl
  simp only
  omega
theorem u_of (c : UInt8) : u (c.toNat : Int) = c := by unfold u; simp
theorem KG (x : Int) (c : UInt8) (h : x = (c.toNat : Int)) : u x = c := by rw [h, u_of]
theorem pJ (x : UInt8) (t : List UInt8) :
  ((rd (x :: t)).2.2 = true → xM (rd (x :: t)).1 ∧ Lib.encodeRune (rd (x :: t)).1 = (x :: t).take (rd (x :: t)).2.1.toNat) ∧ ((rd (x :: t)).2.2 = false → (rd (x :: t)).1 = 65533) := by
 have hx : (x.toNat : Int) < 256 := by have := x.toNat_lt; omega
 simp only [rd]
 by_cases a : (x.toNat : Int) ≤ 127
 ·rw [if_pos a]
  refine ⟨fun _ => ⟨by unfold xM; simp only; omega, ?_⟩, fun h => by cases h⟩
  simp only
  rw [enc1 _ (by omega) a, u_of]
  rfl
 rw [if_neg a]
 by_cases b : (x.toNat : Int) ≤ 193 ∨ 245 ≤ (x.toNat : Int)
 ·rw [if_pos b]
  exact ⟨(fun h => by cases h), fun _ => rfl⟩
 rw [if_neg b]
 by_cases c2 : (x.toNat : Int) ≤ 223
 ·rw [if_pos c2]
  have el : lo x.toNat = 128 := by unfold lo; (repeat' split) <;> omega
  have eh : hi x.toNat = 191 := by unfold hi; (repeat' split) <;> omega
  match t with
  | [] => simp [tail]
  | y :: t =>
   have hy : (y.toNat : Int) < 256 := by have := y.toNat_lt; omega
   rw [tail, el, eh]
   by_cases d : (y.toNat : Int) < 128 ∨ 191 < (y.toNat : Int)
   ·rw [if_pos d]; exact ⟨(fun h => by cases h), fun _ => rfl⟩
   ·rw [if_neg d, tail]
    refine ⟨fun _ => ⟨by unfold xM; simp only; omega, ?_⟩, fun h => by cases h⟩
    simp only
    rw [enc2 _ (by omega) (by omega), KG _ x (by omega), KG _ y (by omega)]
    rfl
 rw [if_neg c2]
 by_cases c3 : (x.toNat : Int) ≤ 239
 ·rw [if_pos c3]
  match t with
  | [] => simp [tail]
  | y :: t =>
   have hy : (y.toNat : Int) < 256 := by have := y.toNat_lt; omega
   rw [tail]
   by_cases d : (y.toNat : Int) < lo x.toNat ∨ hi x.toNat < (y.toNat : Int)
   ·rw [if_pos d]; exact ⟨(fun h => by cases h), fun _ => rfl⟩
   ·rw [if_neg d]
    have hd : 128 ≤ (y.toNat : Int) ∧ (y.toNat : Int) ≤ 191 ∧ ((x.toNat : Int) = 224 → 160 ≤ (y.toNat : Int)) ∧ ((x.toNat : Int) = 237 → (y.toNat : Int) ≤ 159) := by
     unfold lo hi at d
     (repeat' split at d) <;> omega
    match t with
    | [] => simp [tail]
    | z :: t =>
     have hz : (z.toNat : Int) < 256 := by have := z.toNat_lt; omega
     rw [tail]
     by_cases f : (z.toNat : Int) < 128 ∨ 191 < (z.toNat : Int)
     ·rw [if_pos f]; exact ⟨(fun h => by cases h), fun _ => rfl⟩
     ·rw [if_neg f, tail]
      refine ⟨fun _ => ⟨by unfold xM; simp only; omega, ?_⟩, fun h => by cases h⟩
      simp only
      rw [enc3 _ (by omega), KG _ x (by omega), KG _ y (by omega), KG _ z (by omega)]
      rfl
 ·rw [if_neg c3]
  match t with
  | [] => simp [tail]
  | y :: t =>
   have hy : (y.toNat : Int) < 256 := by have := y.toNat_lt; omega
   rw [tail]
   by_cases d : (y.toNat : Int) < lo x.toNat ∨ hi x.toNat < (y.toNat : Int)
   ·rw [if_pos d]; exact ⟨(fun h => by cases h), fun _ => rfl⟩
   ·rw [if_neg d]
    have hd : 128 ≤ (y.toNat : Int) ∧ (y.toNat : Int) ≤ 191 ∧ ((x.toNat : Int) = 240 → 144 ≤ (y.toNat : Int)) ∧ ((x.toNat : Int) = 244 → (y.toNat : Int) ≤ 143) := by
     unfold lo hi at d
     (repeat' split at d) <;> omega
    match t with
    | [] => simp [tail]
    | z :: t =>
     have hz : (z.toNat : Int) < 256 := by have := z.toNat_lt; omega
     rw [tail]
     by_cases f : (z.toNat : Int) < 128 ∨ 191 < (z.toNat : Int)
     ·rw [if_pos f]; exact ⟨(fun h => by cases h), fun _ => rfl⟩
     ·rw [if_neg f]
      match t with
      | [] => simp [tail]
      | v :: t =>
       have hv : (v.toNat : Int) < 256 := by have := v.toNat_lt; omega
       rw [tail]
       by_cases g : (v.toNat : Int) < 128 ∨ 191 < (v.toNat : Int)
       ·rw [if_pos g]; exact ⟨(fun h => by cases h), fun _ => rfl⟩
       ·rw [if_neg g, tail]
        refine ⟨fun _ => ⟨by unfold xM; simp only; omega, ?_⟩, fun h => by cases h⟩
        simp only
        rw [enc4 _ (by omega) (by omega), KG _ x (by omega), KG _ y (by omega), KG _ z (by omega), KG _ v (by omega)]
        rfl
theorem AX (L : List UInt8) (h : L ≠ []) : dec L = (rd L).1 :: dec (L.drop (rd L).2.1.toNat) := by
 cases L with
 | nil => exact absurd rfl h
 | cons x t => exact gV x t
theorem val_ne (L : List UInt8) (h : L ≠ []) : val L = ((rd L).2.2 && val (L.drop (rd L).2.1.toNat)) := by
 cases L with
 | nil => exact absurd rfl h
 | cons x t => exact Ec x t
theorem UN (r : Int) (t : List UInt8) : Lib.encodeRune r ++ t ≠ [] := by
 intro h
 have := D5 r
 have e := congrArg List.length h
 simp at e
 rw [e.1] at this
 simp at this
theorem dW (r : Int) (l : List Int) : enc (r :: l) = Lib.encodeRune r ++ enc l := by simp [enc]
theorem F9 (l : List Int) (b : List UInt8) (h : ∀ r ∈ l, xM r) : dec (enc l ++ b) = l ++ dec b ∧ val (enc l ++ b) = val b := by
 induction l with
 | nil => exact ⟨rfl, rfl⟩
 | cons r l ih =>
  have hr := rd_enc r (h r (by simp)) (enc l ++ b)
  have hi := ih (fun r hr => h r (by simp [hr]))
  rw [dW, List.append_assoc]
  constructor
  ·rw [AX _ (UN r _), hr]
   simp only [Int.toNat_natCast, List.drop_left, hi.1, List.cons_append]
  ·rw [val_ne _ (UN r _), hr]
   simp only [Int.toNat_natCast, List.drop_left, hi.2, Bool.true_and]
theorem WM : xM 65533 := by decide
theorem WO : ∀ (n : Nat) (L : List UInt8), L.length ≤ n → ∀ r ∈ dec L, xM r
 | _, [], _, r, h => by simp [kK] at h
 | 0, _ :: _, h, _, _ => by simp at h
 | n + 1, x :: t, hl, r, h => by
  have hs := lF x t
  rw [gV, List.mem_cons] at h
  rcases h with rfl | h
  ·cases hw : (rd (x :: t)).2.2
   ·rw [(pJ x t).2 hw]; exact WM
   ·exact ((pJ x t).1 hw).1
  ·exact WO n _ (by simp only [List.length_drop, List.length_cons] at hl ⊢; omega) r h
theorem vV (L : List UInt8) : ∀ r ∈ dec L, xM r := WO _ L (Nat.le_refl _)
theorem PG : ∀ (n : Nat) (L : List UInt8), L.length ≤ n → val L = true → enc (dec L) = L
 | _, [], _, _ => rfl
 | 0, _ :: _, h, _ => by simp at h
 | n + 1, x :: t, hl, h => by
  have hs := lF x t
  rw [Ec, Bool.and_eq_true] at h
  rw [gV, dW, PG n _ (by simp only [List.length_drop, List.length_cons] at hl ⊢; omega) h.2, ((pJ x t).1 h.1).2, List.take_append_drop]
theorem val_iff (L : List UInt8) : val L = decide (enc (dec L) = L) := by
 rw [Bool.eq_iff_iff, decide_eq_true_iff]
 constructor
 ·exact PG _ L (Nat.le_refl _)
 ·intro h
  have := (F9 (dec L) [] (vV L)).2
  rw [List.append_nil, h] at this
  rw [this]
  rfl
end Go.Proofs.YtcfgioklgmlclaaGreatDoor.Uw
