/- Texts that belong together: UtfE, UtfP, Tab, EscI, EscE, EscR, EscD, PthP, PthA, PthB, UrlP, UrlA. -/
import Derived.Test.YtleecmapaihhmaaGreatDoorMA
import Derived.Lib.RuneBytes
import Derived.Test.YtleecmapaihhmaaGreatDoorShelf
import Derived.Lib.LaidU8
import Derived.Lib.LaidTab
import Derived.Lib.SmallJoins
import Derived.Sort.Grow
import Derived.Laws.IdiomStrings
import Derived.Deep.QuietTactic
import Derived.BigQuiet
import Derived.Lib.ItoaNum
set_option linter.unusedSimpArgs false
set_option linter.unusedVariables false
namespace Go.Proofs.YtleecmapaihhmaaGreatDoor.UtfE
open Go.RowKit Go.Proofs.YtleecmapaihhmaaGreatDoor.Base

def enc (l : List Int) : List UInt8 := l.flatMap Lib.encodeRune
theorem cells_rune (r : Int) : Lib.runeCells r = bcells (Lib.encodeRune r) := (Lib.byteCells_encodeRune r).symm
theorem enc_snoc (l : List Int) (r : Int) : enc (l ++ [r]) = enc l ++ Lib.encodeRune r := by simp [enc]
theorem rune_len (r : Int) : 1 ≤ (Lib.encodeRune r).length ∧ (Lib.encodeRune r).length ≤ 4 := by
  have := Lib.runeCells_le r
  rw [Lib.runeCells_length] at this
  exact this
theorem enc_len (l : List Int) : (enc l).length ≤ 4 * l.length ∧ l.length ≤ (enc l).length := by
  induction l with
  | nil => simp [enc]
  | cons r l ih =>
    have h := rune_len r
    have e : enc (r :: l) = Lib.encodeRune r ++ enc l := by simp [enc]
    rw [e, List.length_append, List.length_cons]
    omega
def Rune (r : Int) : Prop := -2147483648 ≤ r ∧ r ≤ 2147483647
end Go.Proofs.YtleecmapaihhmaaGreatDoor.UtfE
namespace Go.Proofs.YtleecmapaihhmaaGreatDoor.UtfP
open Go.RowKit Go.Proofs.YtleecmapaihhmaaGreatDoor.Base Go.Proofs.YtleecmapaihhmaaGreatDoor.UtfR Go.Proofs.YtleecmapaihhmaaGreatDoor.UtfE

/-- Is a number a character? -/
def Chr (r : Int) : Prop := 0 ≤ r ∧ r ≤ 1114111 ∧ ¬ (55296 ≤ r ∧ r ≤ 57343)
instance (r : Int) : Decidable (Chr r) := by unfold Chr; exact inferInstance
def u (x : Int) : UInt8 := x.toNat.toUInt8
theorem u_nat (x : Int) (h0 : 0 ≤ x) (h1 : x ≤ 255) : ((u x).toNat : Int) = x := by
  unfold u
  simp
  omega
theorem run_map (l : List Int) : (l.map fun x => x.toNat.toUInt8) = l.map u := rfl
theorem enc1 (r : Int) (h0 : 0 ≤ r) (h1 : r ≤ 127) : Lib.encodeRune r = [u r] := by unfold Lib.encodeRune; rw [Lib.encodeRuneZ_one h0 h1]; rfl
theorem enc2 (r : Int) (h0 : 128 ≤ r) (h1 : r ≤ 2047) : Lib.encodeRune r = [u (192 + r / 64), u (128 + r % 64)] := by unfold Lib.encodeRune; rw [Lib.encodeRuneZ_two h0 h1]; rfl
theorem enc3 (r : Int) (h : (2048 ≤ r ∧ r < 55296) ∨ (57343 < r ∧ r ≤ 65535)) : Lib.encodeRune r = [u (224 + r / 4096), u (128 + r / 64 % 64), u (128 + r % 64)] := by unfold Lib.encodeRune; rw [Lib.encodeRuneZ_three h]; rfl
theorem enc4 (r : Int) (h0 : 65536 ≤ r) (h1 : r ≤ 1114111) : Lib.encodeRune r = [u (240 + r / 262144), u (128 + r / 4096 % 64), u (128 + r / 64 % 64), u (128 + r % 64)] := by unfold Lib.encodeRune; rw [Lib.encodeRuneZ_four h0 h1]; rfl
theorem encBad (r : Int) (h : ¬ Chr r) : Lib.encodeRune r = Lib.encodeRune 65533 := by
  unfold Lib.encodeRune
  rw [Lib.encodeRuneZ_bad (by unfold Chr at h; omega), Lib.encodeRuneZ_three (r := 65533) (by omega)]
  rfl
/-- A character's bytes, whatever stands behind, are read as it, whole. -/
theorem rd_enc (r : Int) (h : Chr r) (t : List UInt8) : rd (Lib.encodeRune r ++ t) = (r, ((Lib.encodeRune r).length : Int), true) := by
  obtain ⟨h0, h1, h2⟩ := h
  by_cases a : r ≤ 127
  · rw [enc1 r h0 a]
    simp only [List.cons_append, List.nil_append, rd, u_nat r h0 (by omega)]
    rw [if_pos a]
    rfl
  by_cases b : r ≤ 2047
  · rw [enc2 r (by omega) b]
    have e1 := u_nat (192 + r / 64) (by omega) (by omega)
    have e2 := u_nat (128 + r % 64) (by omega) (by omega)
    simp only [List.cons_append, List.nil_append, rd, e1]
    rw [if_neg (by omega), if_neg (by omega), if_pos (by omega), tail, e2, if_neg (by unfold lo hi; (repeat' split) <;> omega), tail]
    refine Prod.ext ?_ rfl
    simp only
    omega
  by_cases c : r ≤ 65535
  · rw [enc3 r (by omega)]
    have e1 := u_nat (224 + r / 4096) (by omega) (by omega)
    have e2 := u_nat (128 + r / 64 % 64) (by omega) (by omega)
    have e3 := u_nat (128 + r % 64) (by omega) (by omega)
    simp only [List.cons_append, List.nil_append, rd, e1]
    rw [if_neg (by omega), if_neg (by omega), if_neg (by omega), if_pos (by omega), tail, e2, if_neg (by unfold lo hi; (repeat' split) <;> omega), tail, e3, if_neg (by omega), tail]
    refine Prod.ext ?_ rfl
    simp only
    omega
  · rw [enc4 r (by omega) h1]
    have e1 := u_nat (240 + r / 262144) (by omega) (by omega)
    have e2 := u_nat (128 + r / 4096 % 64) (by omega) (by omega)
    have e3 := u_nat (128 + r / 64 % 64) (by omega) (by omega)
    have e4 := u_nat (128 + r % 64) (by omega) (by omega)
    simp only [List.cons_append, List.nil_append, rd, e1]
    rw [if_neg (by omega), if_neg (by omega), if_neg (by omega), if_neg (by omega), tail, e2, if_neg (by unfold lo hi; (repeat' split) <;> omega), tail, e3, if_neg (by omega), tail, e4, if_neg (by omega), tail]
    refine Prod.ext ?_ rfl
    simp only
    omega
theorem u_of (c : UInt8) : u (c.toNat : Int) = c := by unfold u; simp
theorem u_eq (x : Int) (c : UInt8) (h : x = (c.toNat : Int)) : u x = c := by rw [h, u_of]
/-- What is read whole is a character, and its bytes are those that were taken; what is read otherwise is FFFD. -/
theorem rd_whole (x : UInt8) (t : List UInt8) :
    ((rd (x :: t)).2.2 = true → Chr (rd (x :: t)).1 ∧ Lib.encodeRune (rd (x :: t)).1 = (x :: t).take (rd (x :: t)).2.1.toNat) ∧ ((rd (x :: t)).2.2 = false → (rd (x :: t)).1 = 65533) := by
  have hx : (x.toNat : Int) < 256 := by have := x.toNat_lt; omega
  simp only [rd]
  by_cases a : (x.toNat : Int) ≤ 127
  · rw [if_pos a]
    refine ⟨fun _ => ⟨by unfold Chr; simp only; omega, ?_⟩, fun h => by cases h⟩
    simp only
    rw [enc1 _ (by omega) a, u_of]
    rfl
  rw [if_neg a]
  by_cases b : (x.toNat : Int) ≤ 193 ∨ 245 ≤ (x.toNat : Int)
  · rw [if_pos b]
    exact ⟨(fun h => by cases h), fun _ => rfl⟩
  rw [if_neg b]
  by_cases c2 : (x.toNat : Int) ≤ 223
  · rw [if_pos c2]
    have el : lo x.toNat = 128 := by unfold lo; (repeat' split) <;> omega
    have eh : hi x.toNat = 191 := by unfold hi; (repeat' split) <;> omega
    match t with
    | [] => simp [tail]
    | y :: t =>
      have hy : (y.toNat : Int) < 256 := by have := y.toNat_lt; omega
      rw [tail, el, eh]
      by_cases d : (y.toNat : Int) < 128 ∨ 191 < (y.toNat : Int)
      · rw [if_pos d]; exact ⟨(fun h => by cases h), fun _ => rfl⟩
      · rw [if_neg d, tail]
        refine ⟨fun _ => ⟨by unfold Chr; simp only; omega, ?_⟩, fun h => by cases h⟩
        simp only
        rw [enc2 _ (by omega) (by omega), u_eq _ x (by omega), u_eq _ y (by omega)]
        rfl
  rw [if_neg c2]
  by_cases c3 : (x.toNat : Int) ≤ 239
  · rw [if_pos c3]
    match t with
    | [] => simp [tail]
    | y :: t =>
      have hy : (y.toNat : Int) < 256 := by have := y.toNat_lt; omega
      rw [tail]
      by_cases d : (y.toNat : Int) < lo x.toNat ∨ hi x.toNat < (y.toNat : Int)
      · rw [if_pos d]; exact ⟨(fun h => by cases h), fun _ => rfl⟩
      · rw [if_neg d]
        have hd : 128 ≤ (y.toNat : Int) ∧ (y.toNat : Int) ≤ 191 ∧ ((x.toNat : Int) = 224 → 160 ≤ (y.toNat : Int)) ∧ ((x.toNat : Int) = 237 → (y.toNat : Int) ≤ 159) := by
          unfold lo hi at d
          (repeat' split at d) <;> omega
        match t with
        | [] => simp [tail]
        | z :: t =>
          have hz : (z.toNat : Int) < 256 := by have := z.toNat_lt; omega
          rw [tail]
          by_cases f : (z.toNat : Int) < 128 ∨ 191 < (z.toNat : Int)
          · rw [if_pos f]; exact ⟨(fun h => by cases h), fun _ => rfl⟩
          · rw [if_neg f, tail]
            refine ⟨fun _ => ⟨by unfold Chr; simp only; omega, ?_⟩, fun h => by cases h⟩
            simp only
            rw [enc3 _ (by omega), u_eq _ x (by omega), u_eq _ y (by omega), u_eq _ z (by omega)]
            rfl
  · rw [if_neg c3]
    match t with
    | [] => simp [tail]
    | y :: t =>
      have hy : (y.toNat : Int) < 256 := by have := y.toNat_lt; omega
      rw [tail]
      by_cases d : (y.toNat : Int) < lo x.toNat ∨ hi x.toNat < (y.toNat : Int)
      · rw [if_pos d]; exact ⟨(fun h => by cases h), fun _ => rfl⟩
      · rw [if_neg d]
        have hd : 128 ≤ (y.toNat : Int) ∧ (y.toNat : Int) ≤ 191 ∧ ((x.toNat : Int) = 240 → 144 ≤ (y.toNat : Int)) ∧ ((x.toNat : Int) = 244 → (y.toNat : Int) ≤ 143) := by
          unfold lo hi at d
          (repeat' split at d) <;> omega
        match t with
        | [] => simp [tail]
        | z :: t =>
          have hz : (z.toNat : Int) < 256 := by have := z.toNat_lt; omega
          rw [tail]
          by_cases f : (z.toNat : Int) < 128 ∨ 191 < (z.toNat : Int)
          · rw [if_pos f]; exact ⟨(fun h => by cases h), fun _ => rfl⟩
          · rw [if_neg f]
            match t with
            | [] => simp [tail]
            | v :: t =>
              have hv : (v.toNat : Int) < 256 := by have := v.toNat_lt; omega
              rw [tail]
              by_cases g : (v.toNat : Int) < 128 ∨ 191 < (v.toNat : Int)
              · rw [if_pos g]; exact ⟨(fun h => by cases h), fun _ => rfl⟩
              · rw [if_neg g, tail]
                refine ⟨fun _ => ⟨by unfold Chr; simp only; omega, ?_⟩, fun h => by cases h⟩
                simp only
                rw [enc4 _ (by omega) (by omega), u_eq _ x (by omega), u_eq _ y (by omega), u_eq _ z (by omega), u_eq _ v (by omega)]
                rfl
theorem dec_ne (L : List UInt8) (h : L ≠ []) : dec L = (rd L).1 :: dec (L.drop (rd L).2.1.toNat) := by
  cases L with
  | nil => exact absurd rfl h
  | cons x t => exact dec_cons x t
theorem val_ne (L : List UInt8) (h : L ≠ []) : val L = ((rd L).2.2 && val (L.drop (rd L).2.1.toNat)) := by
  cases L with
  | nil => exact absurd rfl h
  | cons x t => exact val_cons x t
theorem enc_ne (r : Int) (t : List UInt8) : Lib.encodeRune r ++ t ≠ [] := by
  intro h
  have := rune_len r
  have e := congrArg List.length h
  simp at e
  rw [e.1] at this
  simp at this
theorem enc_cons (r : Int) (l : List Int) : enc (r :: l) = Lib.encodeRune r ++ enc l := by simp [enc]
theorem dec_enc (l : List Int) (b : List UInt8) (h : ∀ r ∈ l, Chr r) : dec (enc l ++ b) = l ++ dec b ∧ val (enc l ++ b) = val b := by
  induction l with
  | nil => exact ⟨rfl, rfl⟩
  | cons r l ih =>
    have hr := rd_enc r (h r (by simp)) (enc l ++ b)
    have hi := ih (fun r hr => h r (by simp [hr]))
    rw [enc_cons, List.append_assoc]
    constructor
    · rw [dec_ne _ (enc_ne r _), hr]
      simp only [Int.toNat_natCast, List.drop_left, hi.1, List.cons_append]
    · rw [val_ne _ (enc_ne r _), hr]
      simp only [Int.toNat_natCast, List.drop_left, hi.2, Bool.true_and]
theorem chr_bad : Chr 65533 := by decide
theorem chr_dec : ∀ (n : Nat) (L : List UInt8), L.length ≤ n → ∀ r ∈ dec L, Chr r
  | _, [], _, r, h => by simp [dec_nil] at h
  | 0, _ :: _, h, _, _ => by simp at h
  | n + 1, x :: t, hl, r, h => by
    have hs := rd_size x t
    rw [dec_cons, List.mem_cons] at h
    rcases h with rfl | h
    · cases hw : (rd (x :: t)).2.2
      · rw [(rd_whole x t).2 hw]; exact chr_bad
      · exact ((rd_whole x t).1 hw).1
    · exact chr_dec n _ (by simp only [List.length_drop, List.length_cons] at hl ⊢; omega) r h
theorem dec_chr (L : List UInt8) : ∀ r ∈ dec L, Chr r := chr_dec _ L (Nat.le_refl _)
theorem val_yes : ∀ (n : Nat) (L : List UInt8), L.length ≤ n → val L = true → enc (dec L) = L
  | _, [], _, _ => rfl
  | 0, _ :: _, h, _ => by simp at h
  | n + 1, x :: t, hl, h => by
    have hs := rd_size x t
    rw [val_cons, Bool.and_eq_true] at h
    rw [dec_cons, enc_cons, val_yes n _ (by simp only [List.length_drop, List.length_cons] at hl ⊢; omega) h.2, ((rd_whole x t).1 h.1).2, List.take_append_drop]
theorem val_iff (L : List UInt8) : val L = decide (enc (dec L) = L) := by
  rw [Bool.eq_iff_iff, decide_eq_true_iff]
  constructor
  · exact val_yes _ L (Nat.le_refl _)
  · intro h
    have := (dec_enc (dec L) [] (dec_chr L)).2
    rw [List.append_nil, h] at this
    rw [this]
    rfl
def norm (l : List Int) : List Int := l.map fun r => if Chr r then r else 65533
theorem norm_chr (l : List Int) : ∀ r ∈ norm l, Chr r := by
  intro r h
  simp only [norm, List.mem_map] at h
  obtain ⟨x, _, rfl⟩ := h
  split
  · assumption
  · exact chr_bad
theorem enc_norm (l : List Int) : enc (norm l) = enc l := by
  induction l with
  | nil => rfl
  | cons r l ih =>
    have e : norm (r :: l) = (if Chr r then r else 65533) :: norm l := rfl
    rw [e, enc_cons, enc_cons, ih]
    split
    · rfl
    · rw [encBad r (by assumption)]
theorem dec_all (l : List Int) : dec (enc l) = norm l ∧ val (enc l) = true := by
  have h := dec_enc (norm l) [] (norm_chr l)
  rw [List.append_nil, enc_norm] at h
  exact ⟨by rw [h.1, dec_nil, List.append_nil], by rw [h.2]; rfl⟩
theorem dec_join (a b : List UInt8) (h : val a = true) : dec (a ++ b) = dec a ++ dec b := by
  have e := val_yes _ a (Nat.le_refl _) h
  have := (dec_enc (dec a) b (dec_chr a)).1
  rw [e] at this
  exact this
theorem chr_rune (r : Int) (h : Chr r) : Rune r := by unfold Chr at h; unfold Rune; omega
/-- One less of a character's bytes is nothing, or read as FFFD alone. -/
theorem dec_short (r : Int) (h : Chr r) : (Lib.encodeRune r).length = 1 ∧ dec (Lib.encodeRune r).dropLast = [] ∨ 1 < (Lib.encodeRune r).length ∧ dec (Lib.encodeRune r).dropLast = [65533] := by
  obtain ⟨h0, h1, h2⟩ := h
  by_cases a : r ≤ 127
  · rw [enc1 r h0 a]
    exact .inl ⟨rfl, rfl⟩
  by_cases b : r ≤ 2047
  · rw [enc2 r (by omega) b]
    have e1 := u_nat (192 + r / 64) (by omega) (by omega)
    refine .inr ⟨by simp, ?_⟩
    simp only [List.dropLast]
    have hr : rd [u (192 + r / 64)] = (65533, 1, false) := by
      simp only [rd, e1]
      rw [if_neg (by omega), if_neg (by omega), if_pos (by omega)]
      rfl
    rw [dec_cons, hr]
    rfl
  by_cases c : r ≤ 65535
  · rw [enc3 r (by omega)]
    have e1 := u_nat (224 + r / 4096) (by omega) (by omega)
    have e2 := u_nat (128 + r / 64 % 64) (by omega) (by omega)
    refine .inr ⟨by simp, ?_⟩
    simp only [List.dropLast]
    have hr : rd [u (224 + r / 4096), u (128 + r / 64 % 64)] = (65533, 2, false) := by
      simp only [rd, e1]
      rw [if_neg (by omega), if_neg (by omega), if_neg (by omega), if_pos (by omega), tail, e2, if_neg (by unfold lo hi; (repeat' split) <;> omega)]
      rfl
    rw [dec_cons, hr]
    rfl
  · rw [enc4 r (by omega) h1]
    have e1 := u_nat (240 + r / 262144) (by omega) (by omega)
    have e2 := u_nat (128 + r / 4096 % 64) (by omega) (by omega)
    have e3 := u_nat (128 + r / 64 % 64) (by omega) (by omega)
    refine .inr ⟨by simp, ?_⟩
    simp only [List.dropLast]
    have hr : rd [u (240 + r / 262144), u (128 + r / 4096 % 64), u (128 + r / 64 % 64)] = (65533, 3, false) := by
      simp only [rd, e1]
      rw [if_neg (by omega), if_neg (by omega), if_neg (by omega), if_neg (by omega), tail, e2, if_neg (by unfold lo hi; (repeat' split) <;> omega), tail, e3, if_neg (by omega)]
      rfl
    rw [dec_cons, hr]
    rfl
end Go.Proofs.YtleecmapaihhmaaGreatDoor.UtfP
namespace Go.Proofs.YtleecmapaihhmaaGreatDoor.Tab
open Go.RowKit Go.Proofs.YtleecmapaihhmaaGreatDoor.Base

def Pow (w : World) : Prop := Lib.TabIs Tryz.prog w "internal/strconv.uint64pow10" .u64 Lib.pow10Tab
theorem pow_global : Tryz.prog.globalNamed "internal/strconv.uint64pow10" = some 3 := by kernel_rfl
theorem pow_of {W : World} {l : List (String × DataW Unit)} (h : laidMet Tryz.prog l W) (hm : ("internal/strconv.uint64pow10", Lib.tabData .u64 Lib.pow10Tab) ∈ l) : Pow W := by
  obtain ⟨g', t', cs, fuel, p, hg', ht', hvar, hd⟩ := Lib.laidMet.reads h hm
  obtain rfl := Option.some.inj (pow_global.symm.trans hg')
  obtain rfl := Option.some.inj ((show (Tryz.prog.globals[3]?).map (·.type) = some 142 by kernel_rfl).symm.trans ht')
  show World.var? _ _ _ = _
  rw [hvar, ← Lib.cells_of_tab (k := .u64) (zs := Lib.pow10Tab) Tryz.underlying142 Tryz.underlying112 (by kernel_rfl) (by kernel_rfl) hd]
theorem Pow.below {w w' : World} (h : Pow w) (hb : Below w.heap.size w w') : Pow w' := Joins.tab_stays pow_global h hb (Nat.le_refl _)
theorem Pow.under {B : Nat} {w w' : World} (h : Pow w) (hb : Below B w w') (hB : w.heap.size ≤ B) : Pow w' := Joins.tab_stays pow_global h hb hB
theorem below_grow (w : World) (k : Nat) (os : Array Obj) : Below w.heap.size w (Sort.grow (w.drewN k) os) :=
  ⟨rfl, rfl, rfl, by rw [Sort.size_grow]; exact Nat.le_add_right _ _, fun g hg => by
    show (w.heap ++ os)[g]? = w.heap[g]?
    rw [Array.getElem?_append_left hg]⟩
theorem itoa_nat (n : Nat) : Lib.itoa (n : Int) = Lib.decDigits n := by unfold Lib.itoa; rw [if_neg (by omega)]; simp
theorem itoa_any (n : Nat) (hn : n ≤ 9223372036854775807) (w : World) (hT : Pow w) :
    Calls Tryz.prog 35 #[.int .i64 (n : Int)] w fun e w' => e = .returned (.string (strOf (Lib.decDigits n))) ∧ Below w.heap.size w w' :=
  (Tryz.strconv_Itoa (n : Int) (by omega) (by omega) w hT).mono fun e w' ⟨he, k, os, hw⟩ => ⟨by rw [he, itoa_nat]; rfl, by rw [hw]; exact below_grow w k os⟩
end Go.Proofs.YtleecmapaihhmaaGreatDoor.Tab
namespace Go.Proofs.YtleecmapaihhmaaGreatDoor.EscI
open Go.RowKit Go.Proofs.YtleecmapaihhmaaGreatDoor.Base

def P1 (c : Int) : Prop := c = 32 ∨ c = 34 ∨ c = 60 ∨ c = 62 ∨ c = 96
instance (c : Int) : Decidable (P1 c) := by unfold P1; exact inferInstance
def P2 (c : Int) : Prop := c = 32 ∨ c = 34 ∨ c = 35 ∨ c = 60 ∨ c = 62
instance (c : Int) : Decidable (P2 c) := by unfold P2; exact inferInstance
def P3 (c : Int) : Prop := c = 32 ∨ c = 34 ∨ c = 35 ∨ c = 60 ∨ c = 62 ∨ c = 39
instance (c : Int) : Decidable (P3 c) := by unfold P3; exact inferInstance
def P4 (c : Int) : Prop := c = 32 ∨ c = 34 ∨ c = 35 ∨ c = 60 ∨ c = 62 ∨ c = 63 ∨ c = 94 ∨ c = 96 ∨ c = 123 ∨ c = 125
instance (c : Int) : Decidable (P4 c) := by unfold P4; exact inferInstance
def P5 (c : Int) : Prop := c = 32 ∨ c = 34 ∨ c = 35 ∨ c = 60 ∨ c = 62 ∨ c = 63 ∨ c = 94 ∨ c = 96 ∨ c = 123 ∨ c = 125 ∨ c = 47 ∨ c = 58 ∨ c = 59 ∨ c = 61 ∨ c = 64 ∨ c = 91 ∨ c = 92 ∨ c = 93 ∨ c = 124
instance (c : Int) : Decidable (P5 c) := by unfold P5; exact inferInstance
def P6 (c : Int) : Prop := c = 32 ∨ c = 34 ∨ c = 35 ∨ c = 60 ∨ c = 62 ∨ c = 63 ∨ c = 94 ∨ c = 96 ∨ c = 123 ∨ c = 125 ∨ c = 47 ∨ c = 58 ∨ c = 59 ∨ c = 61 ∨ c = 64 ∨ c = 91 ∨ c = 92 ∨ c = 93 ∨ c = 124 ∨ c = 36 ∨ c = 37 ∨ c = 38 ∨ c = 43 ∨ c = 44
instance (c : Int) : Decidable (P6 c) := by unfold P6; exact inferInstance
def inS (k c : Int) : Bool := decide (0 ≤ k ∧ k ≤ 6 ∧ (c < 32 ∨ 126 < c ∨ k = 1 ∧ P1 c ∨ k = 2 ∧ P2 c ∨ k = 3 ∧ P3 c ∨ k = 4 ∧ P4 c ∨ k = 5 ∧ P5 c ∨ k = 6 ∧ P6 c))
def S : Int → List UInt8
  | 1 => [32, 34, 60, 62, 96]
  | 2 => [32, 34, 35, 60, 62]
  | 3 => [32, 34, 35, 60, 62, 39]
  | 4 => [32, 34, 35, 60, 62, 63, 94, 96, 123, 125]
  | 5 => [32, 34, 35, 60, 62, 63, 94, 96, 123, 125, 47, 58, 59, 61, 64, 91, 92, 93, 124]
  | 6 => [32, 34, 35, 60, 62, 63, 94, 96, 123, 125, 47, 58, 59, 61, 64, 91, 92, 93, 124, 36, 37, 38, 43, 44]
  | _ => []
theorem S_in (k : Int) (hk : 0 ≤ k ∧ k ≤ 6) (c : UInt8) (h1 : 32 ≤ (c.toNat : Int)) (h2 : (c.toNat : Int) ≤ 126) : decide (0 ≤ Lib.indexByte (S k) c) = inS k c.toNat := by
  obtain ⟨ha, hb⟩ := hk
  have hcase : k = 0 ∨ k = 1 ∨ k = 2 ∨ k = 3 ∨ k = 4 ∨ k = 5 ∨ k = 6 := by omega
  have H : ∀ n : Fin 256, (32 ≤ n.val ∧ n.val ≤ 126) → ∀ k : Fin 7, decide (0 ≤ Lib.indexByte (S (k.val : Int)) (UInt8.ofNat n.val)) = inS (k.val : Int) (n.val : Int) := by decide +kernel
  have hn := H ⟨c.toNat, c.toNat_lt⟩ ⟨by simp; omega, by simp; omega⟩ ⟨k.toNat, by omega⟩
  simpa [Int.toNat_of_nonneg ha] using hn
theorem inS_out (k : Int) (c : Int) (h : k < 0 ∨ 6 < k) : inS k c = false := by unfold inS; rw [decide_eq_false_iff_not]; omega
theorem inS_far (k : Int) (c : Int) (h1 : 0 ≤ k) (h2 : k ≤ 6) (h : c < 32 ∨ 126 < c) : inS k c = true := by unfold inS; rw [decide_eq_true_iff]; omega
theorem inS_0 (c : Int) : inS 0 c = decide (c < 32 ∨ 126 < c) := by unfold inS; congr 1; simp
theorem inS_1 (c : Int) : inS 1 c = decide (c < 32 ∨ 126 < c ∨ P1 c) := by unfold inS; congr 1; simp
theorem inS_2 (c : Int) : inS 2 c = decide (c < 32 ∨ 126 < c ∨ P2 c) := by unfold inS; congr 1; simp
theorem inS_3 (c : Int) : inS 3 c = decide (c < 32 ∨ 126 < c ∨ P3 c) := by unfold inS; congr 1; simp
theorem inS_4 (c : Int) : inS 4 c = decide (c < 32 ∨ 126 < c ∨ P4 c) := by unfold inS; congr 1; simp
theorem inS_5 (c : Int) : inS 5 c = decide (c < 32 ∨ 126 < c ∨ P5 c) := by unfold inS; congr 1; simp
theorem inS_6 (c : Int) : inS 6 c = decide (c < 32 ∨ 126 < c ∨ P6 c) := by unfold inS; congr 1; simp
theorem printable_any (k : Int) (w : World) (h0 : 0 ≤ k) (h1 : k ≤ 6) : Calls Tryz.prog 70 #[.int .i64 k] w fun e w' => e = .returned (.string (strOf (S k))) ∧ w = w' := by
  have hcase : k = 0 ∨ k = 1 ∨ k = 2 ∨ k = 3 ∨ k = 4 ∨ k = 5 ∨ k = 6 := by omega
  rcases hcase with rfl | rfl | rfl | rfl | rfl | rfl | rfl
  all_goals
    go_enter Tryz.func70, Tryz.ntmps70
    go_wp2
    go_ret
    exact ⟨rfl, rfl⟩
theorem in_any (k : Int) (c : UInt8) (w : World) : Calls Tryz.prog 46 #[.int .i64 k, .int .u8 (c.toNat : Int)] w fun e w' => e = .returned (.bool (inS k c.toNat)) ∧ w = w' := by
  by_cases ho : k < 0 ∨ 6 < k
  · have HE := hid (inS_out k c.toNat ho)
    rcases ho with ho | ho
    all_goals
      go_enter Tryz.func46, Tryz.ntmps46
      go_wp2
      go_ret
      rw [HE.out]
      exact ⟨rfl, rfl⟩
  · have h0 : 0 ≤ k := by omega
    have h1 : k ≤ 6 := by omega
    clear ho
    by_cases hf : (c.toNat : Int) < 32 ∨ 126 < (c.toNat : Int)
    · have HE := hid (inS_far k c.toNat h0 h1 hf)
      rcases hf with hf | hf
      · go_enter Tryz.func46, Tryz.ntmps46
        go_wp2
        go_ret
        rw [HE.out]
        exact ⟨rfl, rfl⟩
      · have hg : ¬ (c.toNat : Int) < 32 := by omega
        go_enter Tryz.func46, Tryz.ntmps46
        go_wp2
        go_ret
        rw [HE.out]
        exact ⟨rfl, rfl⟩
    · have h2 : 32 ≤ (c.toNat : Int) := by omega
      have h3 : (c.toNat : Int) ≤ 126 := by omega
      clear hf
      have HE := hid (S_in k ⟨h0, h1⟩ c h2 h3)
      go_enter Tryz.func46, Tryz.ntmps46
      go_wp2_with fail
      refine (printable_any k _ h0 h1).mono ?_
      rintro e w1 ⟨rfl, rfl⟩
      go_wp2_with fail
      refine (Tryz.strings_IndexByte _ _ _).mono ?_
      rintro e w1 ⟨rfl, rfl⟩
      rw [show (strOf (S k)).data.toList = S k from rfl, show ((c.toNat : Int).toNat).toUInt8 = c by simp]
      go_wp2_with fail
      go_ret
      exact ⟨ret_bool (by rw [← HE.out, decide_eq_false (show ¬ (c.toNat : Int) < 32 by omega), decide_eq_false (show ¬ 126 < (c.toNat : Int) by omega)]; simp), rfl⟩
set_option maxRecDepth 100000 in
theorem ref_out (k c : Int) (w : World) (ho : k < 0 ∨ 6 < k) : Calls Tryz.prog 53 #[.int .i64 k, .int .u8 c] w fun e w' => e = .returned (.bool (inS k c)) ∧ w = w' := by
  have HE := hid (inS_out k c ho)
  rcases ho with ho | ho
  all_goals
    go_enter Tryz.func53, Tryz.ntmps53
    go_wp2
    go_ret
    rw [HE.out]
    exact ⟨rfl, rfl⟩
set_option maxRecDepth 100000 in
theorem ref_far (k c : Int) (w : World) (h0 : 0 ≤ k) (h1 : k ≤ 6) (hf : c < 32 ∨ 126 < c) : Calls Tryz.prog 53 #[.int .i64 k, .int .u8 c] w fun e w' => e = .returned (.bool (inS k c)) ∧ w = w' := by
  have HE := hid (inS_far k c h0 h1 hf)
  rcases hf with hf | hf
  · go_enter Tryz.func53, Tryz.ntmps53
    go_wp2
    go_ret
    rw [HE.out]
    exact ⟨rfl, rfl⟩
  · have hg : ¬ c < 32 := by omega
    go_enter Tryz.func53, Tryz.ntmps53
    go_wp2
    go_ret
    rw [HE.out]
    exact ⟨rfl, rfl⟩
end Go.Proofs.YtleecmapaihhmaaGreatDoor.EscI
namespace Go.Proofs.YtleecmapaihhmaaGreatDoor.EscE
open Go.RowKit Go.Proofs.YtleecmapaihhmaaGreatDoor.Base Go.Proofs.YtleecmapaihhmaaGreatDoor.EscI

def dig (n : Nat) : UInt8 := if n < 10 then UInt8.ofNat (48 + n) else UInt8.ofNat (55 + n)
def one (k : Int) (c : UInt8) : List UInt8 := if inS k c.toNat = true then [37, dig (c.toNat / 16), dig (c.toNat % 16)] else [c]
def enc (k : Int) (L : List UInt8) : List UInt8 := L.flatMap (one k)
theorem enc_snoc (k : Int) (L : List UInt8) (c : UInt8) : enc k (L ++ [c]) = enc k L ++ one k c := by simp [enc]
theorem one_len (k : Int) (c : UInt8) : 1 ≤ (one k c).length ∧ (one k c).length ≤ 3 := by unfold one; split <;> simp
theorem enc_len (k : Int) (L : List UInt8) : (enc k L).length ≤ 3 * L.length := by
  induction L with
  | nil => simp [enc]
  | cons c L ih =>
    have h := one_len k c
    have e : enc k (c :: L) = one k c ++ enc k L := by simp [enc]
    rw [e, List.length_append, List.length_cons]
    omega
theorem dig_at (k : Nat) (h : k < (⟨#[48, 49, 50, 51, 52, 53, 54, 55, 56, 57, 65, 66, 67, 68, 69, 70]⟩ : ByteArray).size) : (⟨#[48, 49, 50, 51, 52, 53, 54, 55, 56, 57, 65, 66, 67, 68, 69, 70]⟩ : ByteArray)[k]'h = dig k := by
  have h' : k < 16 := h
  have hcase : k = 0 ∨ k = 1 ∨ k = 2 ∨ k = 3 ∨ k = 4 ∨ k = 5 ∨ k = 6 ∨ k = 7 ∨ k = 8 ∨ k = 9 ∨ k = 10 ∨ k = 11 ∨ k = 12 ∨ k = 13 ∨ k = 14 ∨ k = 15 := by omega
  rcases hcase with rfl | rfl | rfl | rfl | rfl | rfl | rfl | rfl | rfl | rfl | rfl | rfl | rfl | rfl | rfl | rfl <;> rfl
theorem three_one (a b c : Int) : ∀ u ∈ [Value.int .u8 a, Value.int .u8 b, Value.int .u8 c], u.oneCell' = true := by
  intro u hu
  simp at hu
  rcases hu with rfl | rfl | rfl <;> rfl
attribute [local go_sem ↓] Go.wp_at_zero Go.wp_at_succ
set_option maxRecDepth 100000 in
theorem encode_any (k : Int) (A : Option Addr) (n cap : Nat) (L : List UInt8) (w : World) (h : Rds w A n (bcells L)) (hm : n ≤ 1073741824) :
    Calls Tryz.prog 27 #[.int .i64 k, .slice A n cap] w fun e w' => e = .returned (.string (strOf (enc k L))) ∧ Below w.heap.size w w' := by
  have hl : L.length = n := by rw [← length_bcells]; exact h.1
  have HL := hid hl
  clear hl
  obtain ⟨i0, hi, hz0, hz1, hz2⟩ := info_parts info_u8
  have HH := hid h
  clear h
  go_enter Tryz.func27, Tryz.ntmps27
  go_wp2_with (at_make; refine wpList_make_own _ rfl _ _ 44 rfl w.heap.size 5 i0 (.int .u8 0) 1 Tryz.underlying44 hi hz0 hz1 .i64 .i64 _ n rfl rfl rfl (by rw [hz2]; omega) (by unfold maxLen; omega) (Nat.le_refl _) ?_)
  intro w1 hown1 hg1
  have hbel1 : Below w.heap.size w w1 := (Below.refl _ _).grown hg1 (Nat.le_refl _) (by intro k h; cases h)
  clear hg1
  go_wp2
  go_loopw [5, 13] (fun v vk wr => ∃ (j : Nat), j ≤ n ∧ vk = .int .i64 j ∧ wr.ownsRow w.heap.size 5 1 v (enc k (L.take j)).length (bcells (enc k (L.take j))) ∧ Below w.heap.size w wr) (fun _ vk _ => n - (intOf vk).toNat)
  case atStart => exact ⟨0, Nat.zero_le _, rfl, hown1, hbel1⟩
  case round =>
    clear hown1 hbel1
    obtain ⟨j, hj, rfl, hown, hbel⟩ := hrel
    by_cases hlt : j < n
    · obtain ⟨b, off, rfl, hb, _⟩ := (HH.out).spot (by omega)
      obtain ⟨c, hx⟩ : ∃ c, c = L[j]'(by rw [HL.out]; exact hlt) := ⟨_, rfl⟩
      have hcell : wr.cell? ⟨b, off + j, none⟩ = some (.int .u8 (c.toNat : Int)) := by
        rw [hx, ← HH.out.byte j (by rw [HL.out]; exact hlt)]
        exact hbel.cell (p := ⟨b, off + j, none⟩) hb
      have HS : Hid (L.take (j + 1) = L.take j ++ [c]) := by
        rw [hx]
        exact List.take_succ_eq_append_getElem (by rw [HL.out]; exact hlt)
      clear hx
      have hle := enc_len k (L.take j)
      have hle2 : (L.take j).length ≤ j := List.length_take_le _ _
      obtain ⟨m, hmm⟩ : ∃ m, m = (enc k (L.take j)).length := ⟨_, rfl⟩
      rw [← hmm] at hle hown
      have HM := hid hmm
      clear hmm
      have hc0 : (c.toNat : Int) < 256 := by have := c.toNat_lt; omega
      cases hin : inS k c.toNat
      · have HI := hid hin
        clear hin
        go_wp2_with fail
        refine (in_any _ _ _).mono ?_
        rintro e w2 ⟨rfl, rfl⟩
        rw [HI.out]
        go_wp2_with (at_builtin; refine wpList_app rfl _ _ 44 rfl w.heap.size 5 i0 (.int .u8 0) 1 Tryz.underlying44 hi hz0 hz1 hz2 rfl _ m _ rfl hown hbel hbel.size [.int .u8 (c.toNat : Int)] 1 rfl rfl (by intro u hu; simp at hu; subst hu; rfl) (by unfold maxLen; omega) (by omega) ?_)
        intro v' w2 hown2 hbel2
        clear hown hbel
        go_wp2
        go_roundw
        case rel => exact ⟨j + 1, by omega, by go_num, by
            have e1 : one k c = [c] := by unfold one; rw [HI.out]; rfl
            rw [HS.out, enc_snoc, e1, List.length_append, bcells_append, ← HM.out]
            exact hown2, hbel2⟩
        case measure => simp [intOf]; omega
      · have HI := hid hin
        clear hin
        go_wp2_with fail
        refine (in_any _ _ _).mono ?_
        rintro e w2 ⟨rfl, rfl⟩
        rw [HI.out]
        go_wp2
        have q1 : (0 : Int) ≤ (c.toNat : Int) / 16 := by omega
        have q2 : (c.toNat : Int) / 16 < 16 := by omega
        have q3 : (0 : Int) ≤ (c.toNat : Int) % 16 := by omega
        have q4 : (c.toNat : Int) % 16 < 16 := by omega
        have q5 := and15 c
        have q6 : ∀ h, (⟨#[48, 49, 50, 51, 52, 53, 54, 55, 56, 57, 65, 66, 67, 68, 69, 70]⟩ : ByteArray)[((c.toNat : Int) / 16).toNat]'h = dig (c.toNat / 16) := fun h => dig_at _ h
        have q7 : ∀ h, (⟨#[48, 49, 50, 51, 52, 53, 54, 55, 56, 57, 65, 66, 67, 68, 69, 70]⟩ : ByteArray)[((c.toNat : Int) % 16).toNat]'h = dig (c.toNat % 16) := fun h => dig_at _ h
        go_region_held3 (fun _ => True) (trivial) ((refine step_app (by rfl) _ _ 44 (by rfl) w.heap.size 5 i0 (.int .u8 0) 1 Tryz.underlying44 hi hz0 hz1 hz2 (by rfl) _ m _ (by rfl) hown hbel hbel.size [.int .u8 37, .int .u8 ((dig (c.toNat / 16)).toNat : Int), .int .u8 ((dig (c.toNat % 16)).toNat : Int)] 3 (by rfl) (by decide) (by rfl) (three_one _ _ _) (by unfold maxLen; omega) (by omega) ⟨(Below.refl _ _).drew, fun _ => rfl, by simp⟩ ?_; intro v' w2 hown2 hbel2))
        all_goals
          clear hown hbel q1 q2 q3 q4 q5 q6 q7
          go_wp2
          go_roundw
          case rel => exact ⟨j + 1, by omega, by go_num, by
              have e1 : one k c = [37, dig (c.toNat / 16), dig (c.toNat % 16)] := by unfold one; rw [if_pos HI.out]
              rw [HS.out, enc_snoc, e1, List.length_append, bcells_append, ← HM.out]
              exact hown2, hbel2⟩
          case measure => simp [intOf]; omega
    · obtain rfl : j = n := by omega
      have HE : Hid (L.take j = L) := by
        rw [← HL.out]; exact List.take_length
      rw [HE.out] at hown
      obtain ⟨A', c', rfl, _, _, hrd⟩ := owns_form hown
      have hst := run_string_of 44 9 5 Tryz.underlying44 Tryz.underlying5 Tryz.underlying9 _ c' hrd
      go_wp2
      go_ret
      exact ⟨rfl, hbel⟩
end Go.Proofs.YtleecmapaihhmaaGreatDoor.EscE
namespace Go.Proofs.YtleecmapaihhmaaGreatDoor.EscR
open Go.RowKit Go.Proofs.YtleecmapaihhmaaGreatDoor.Base Go.Proofs.YtleecmapaihhmaaGreatDoor.EscI Go.Proofs.YtleecmapaihhmaaGreatDoor.EscE

theorem three_row (a b c : UInt8) (w : World) : Rds (w.alloc (.cells #[.int .u8 (a.toNat : Int), .int .u8 (b.toNat : Int), .int .u8 (c.toNat : Int)] 5)) (some ⟨w.heap.size, 0, none⟩) 3 (bcells [a, b, c]) :=
  Rds.of_spot rfl (by simp) (fun j hj => by
    have hj' : j < 3 := hj
    rw [World.cell?_alloc_mark]
    have hcase : j = 0 ∨ j = 1 ∨ j = 2 := by omega
    rcases hcase with rfl | rfl | rfl <;> rfl)
attribute [local go_sem ↓] Go.wp_at_zero Go.wp_at_succ
theorem wrap16 (c : UInt8) : IntKind.u8.wrap ((c.toNat : Int) / 16) = (c.toNat : Int) / 16 := by
  have H : ∀ n : Fin 256, IntKind.u8.wrap ((n.val : Int) / 16) = (n.val : Int) / 16 := by decide +kernel
  exact H ⟨c.toNat, c.toNat_lt⟩
theorem tmod16 (c : UInt8) : (c.toNat : Int).tmod 16 = (c.toNat : Int) % 16 := Int.tmod_eq_emod_of_nonneg (by omega)
set_option maxRecDepth 100000 in
theorem one_any (c : UInt8) (w : World) : Calls Tryz.prog 54 #[.int .u8 (c.toNat : Int)] w fun e w' => e = .returned (.string (strOf [37, dig (c.toNat / 16), dig (c.toNat % 16)])) ∧ Below w.heap.size w w' := by
  have hc0 : (c.toNat : Int) < 256 := by have := c.toNat_lt; omega
  have q1 : (0 : Int) ≤ (c.toNat : Int) / 16 := by omega
  have q2 : (c.toNat : Int) / 16 < 16 := by omega
  have q3 : (0 : Int) ≤ (c.toNat : Int) % 16 := by omega
  have q4 : (c.toNat : Int) % 16 < 16 := by omega
  have q6 : ∀ h, (⟨#[48, 49, 50, 51, 52, 53, 54, 55, 56, 57, 65, 66, 67, 68, 69, 70]⟩ : ByteArray)[((c.toNat : Int) / 16).toNat]'h = dig (c.toNat / 16) := fun h => dig_at _ h
  have q7 : ∀ h, (⟨#[48, 49, 50, 51, 52, 53, 54, 55, 56, 57, 65, 66, 67, 68, 69, 70]⟩ : ByteArray)[((c.toNat : Int) % 16).toNat]'h = dig (c.toNat % 16) := fun h => dig_at _ h
  have hst := run_string_of 44 9 5 Tryz.underlying44 Tryz.underlying5 Tryz.underlying9 _ 3 (three_row 37 (dig (c.toNat / 16)) (dig (c.toNat % 16)) w)
  have hr2 : Rds (w.alloc (.cells #[.int .u8 ((37 : UInt8).toNat : Int), .int .u8 ((dig (c.toNat / 16)).toNat : Int), .int .u8 ((dig (c.toNat % 16)).toNat : Int)] 5)).drew (some ⟨w.heap.size, 0, none⟩) 3 (bcells [37, dig (c.toNat / 16), dig (c.toNat % 16)]) := three_row 37 (dig (c.toNat / 16)) (dig (c.toNat % 16)) w
  have hst2 := run_string_of 44 9 5 Tryz.underlying44 Tryz.underlying5 Tryz.underlying9 _ 3 hr2
  clear hr2
  rw [show ((37 : UInt8).toNat : Int) = 37 from rfl] at hst hst2
  have qa := wrap16 c
  have qb := tmod16 c
  go_enter Tryz.func54, Tryz.ntmps54
  go_wp2
  go_region
  go_wp2
  go_ret
  exact ⟨rfl, ((Below.refl _ _).alloc (Nat.le_refl _) _).drew⟩

theorem str_add (X Y : List UInt8) (w : World) (h : X.length + Y.length ≤ 9223372036854775807) : (Op.stringOp .add (strOf X) (strOf Y)).run Tryz.prog w = .ok (.string (strOf (X ++ Y))) w := by
  rw [run_string_add_sum w _ _ (by rw [size_strOf, size_strOf]; exact h)]
  congr 2
theorem str_cut (s : ByteArray) (k : Nat) (h : k < s.size) : s.extract k (k + 1) = strOf [s[k]] := by
  apply ByteArray.ext
  have h' : k < s.data.size := h
  apply Array.ext'
  rw [ByteArray.data_extract]
  simp [strOf, Array.toList_extract, List.extract_eq_take_drop]
  rw [List.drop_eq_getElem_cons (by simpa using h')]
  rfl
theorem ref_encode (k : Int) (s : ByteArray) (w : World) (hm : s.size ≤ 1073741824) (hin : ∀ (c : UInt8) (w : World), Calls Tryz.prog 53 #[.int .i64 k, .int .u8 (c.toNat : Int)] w fun e w' => e = .returned (.bool (inS k c.toNat)) ∧ w = w') :
    Calls Tryz.prog 76 #[.int .i64 k, .string s] w fun e w' => e = .returned (.string (strOf (enc k s.data.toList))) ∧ Below w.heap.size w w' := by
  have hl : s.data.toList.length = s.size := Array.length_toList
  have HL := hid hl
  have HI := hid hin
  clear hl hin
  go_enter Tryz.func76, Tryz.ntmps76
  go_wp2
  go_loopw [5, 9] (fun v vk wr => ∃ (j : Nat) (X : List UInt8), j ≤ s.size ∧ vk = .int .i64 j ∧ v = .string (strOf X) ∧ X.length ≤ 3 * j ∧ Hid (X = enc k (s.data.toList.take j)) ∧ Below w.heap.size w wr) (fun _ vk _ => s.size - (intOf vk).toNat)
  case atStart => exact ⟨0, [], Nat.zero_le _, rfl, rfl, Nat.le_refl _, rfl, Below.refl _ _⟩
  case round =>
    obtain ⟨j, X, hj, rfl, rfl, hX, HX, hbel⟩ := hrel
    by_cases hlt : j < s.size
    · obtain ⟨c, hc⟩ : ∃ c, s[j] = c := ⟨_, rfl⟩
      have HS : Hid (s.data.toList.take (j + 1) = s.data.toList.take j ++ [c]) := by
        rw [← hc, List.take_succ_eq_append_getElem (by rw [HL.out]; exact hlt)]
        rfl
      have hcut := str_cut s j hlt
      rw [hc] at hcut
      have hc0 : (c.toNat : Int) < 256 := by have := c.toNat_lt; omega
      cases hin : inS k c.toNat
      · have HN := hid hin
        clear hin
        go_wp2_with fail
        refine (HI.out _ _).mono ?_
        rintro e w2 ⟨rfl, rfl⟩
        rw [HN.out]
        have hadd := str_add X [c] wr (by simp; omega)
        go_wp2
        go_roundw
        case rel => exact ⟨j + 1, X ++ [c], by omega, by go_num, rfl, by simp; omega, by
            have e1 : one k c = [c] := by unfold one; rw [HN.out]; rfl
            rw [HS.out, enc_snoc, e1, HX.out]
            exact rfl, hbel⟩
        case measure => simp [intOf]; omega
      · have HN := hid hin
        clear hin
        go_wp2_with fail
        refine (HI.out _ _).mono ?_
        rintro e w2 ⟨rfl, rfl⟩
        rw [HN.out]
        go_wp2_with fail
        refine (one_any _ _).mono ?_
        rintro e w2 ⟨rfl, hb2⟩
        have hadd := str_add X [37, dig (c.toNat / 16), dig (c.toNat % 16)] w2 (by simp; omega)
        have hbel2 := hbel.trans (hb2.mono hbel.size)
        clear hbel
        go_wp2
        go_roundw
        case rel => exact ⟨j + 1, X ++ [37, dig (c.toNat / 16), dig (c.toNat % 16)], by omega, by go_num, rfl, by simp; omega, by
            have e1 : one k c = [37, dig (c.toNat / 16), dig (c.toNat % 16)] := by unfold one; rw [if_pos HN.out]
            rw [HS.out, enc_snoc, e1, HX.out]
            exact rfl, hbel2⟩
        case measure => simp [intOf]; omega
    · obtain rfl : j = s.size := by omega
      have HE : Hid (X = enc k s.data.toList) := by
        rw [HX.out, ← HL.out, List.take_length]
        exact rfl
      go_wp2
      go_ret
      rw [HE.out]
      exact ⟨rfl, hbel⟩
end Go.Proofs.YtleecmapaihhmaaGreatDoor.EscR
namespace Go.Proofs.YtleecmapaihhmaaGreatDoor.EscD
open Go.RowKit Go.Proofs.YtleecmapaihhmaaGreatDoor.Base Go.Proofs.YtleecmapaihhmaaGreatDoor.UtfA

/-- The byte that a text begins with, escaped, and whether it does. -/
def esc : List UInt8 → Option UInt8
  | a :: b :: c :: _ => if a = 37 ∧ 0 ≤ hex b.toNat ∧ 0 ≤ hex c.toNat then some (UInt8.ofNat (16 * hex b.toNat + hex c.toNat).toNat) else none
  | _ => none
def decF : Nat → List UInt8 → List UInt8
  | 0, _ => []
  | _ + 1, [] => []
  | n + 1, x :: t => match esc (x :: t) with
    | some c => c :: decF n (t.drop 2)
    | none => x :: decF n t
def dec (L : List UInt8) : List UInt8 := decF L.length L
theorem decF_more : ∀ (n m : Nat) (L : List UInt8), L.length ≤ n → L.length ≤ m → decF n L = decF m L
  | 0, 0, _, _, _ => rfl
  | 0, m + 1, [], _, _ => rfl
  | 0, _ + 1, _ :: _, h, _ => by simp at h
  | n + 1, 0, [], _, _ => rfl
  | _ + 1, 0, _ :: _, _, h => by simp at h
  | _ + 1, _ + 1, [], _, _ => rfl
  | n + 1, m + 1, x :: t, h1, h2 => by
    simp only [List.length_cons] at h1 h2
    rw [decF, decF, decF_more n m _ (by simp; omega) (by simp; omega), decF_more n m _ (by omega) (by omega)]
theorem dec_nil : dec [] = [] := rfl
theorem dec_some (x : UInt8) (t : List UInt8) (c : UInt8) (h : esc (x :: t) = some c) : dec (x :: t) = c :: dec (t.drop 2) := by
  unfold dec
  rw [List.length_cons, decF, h]
  rw [decF_more t.length (t.drop 2).length _ (by simp) (Nat.le_refl _)]
theorem dec_none (x : UInt8) (t : List UInt8) (h : esc (x :: t) = none) : dec (x :: t) = x :: dec t := by
  unfold dec
  rw [List.length_cons, decF, h]
theorem dec_len (L : List UInt8) : (dec L).length ≤ L.length := by
  have H : ∀ (n : Nat) (L : List UInt8), (decF n L).length ≤ L.length := by
    intro n
    induction n with
    | zero => intro L; simp [decF]
    | succ n ih =>
      intro L
      cases L with
      | nil => simp [decF]
      | cons x t =>
        rw [decF]
        split
        · have := ih (t.drop 2)
          simp at this ⊢
          omega
        · have := ih t
          simp at this ⊢
          omega
  exact H _ _
theorem hex_le (c : UInt8) : -1 ≤ hex c.toNat ∧ hex c.toNat ≤ 15 := by
  unfold hex
  (repeat' split) <;> omega

attribute [local go_sem ↓] Go.wp_at_zero Go.wp_at_succ
def escV (L : List UInt8) : Value × Bool := match esc L with
  | some c => (.int .u8 (c.toNat : Int), true)
  | none => (.int .u8 0, false)
theorem esc_short (s : ByteArray) (h : s.size < 3) : esc s.data.toList = none := by
  have hl : s.data.toList.length < 3 := by rw [Array.length_toList]; exact h
  match e : s.data.toList, hl with
  | [], _ => rfl
  | [_], _ => rfl
  | [_, _], _ => rfl
theorem esc_long (s : ByteArray) (h : 3 ≤ s.size) : ∃ t, s.data.toList = s[0] :: s[1] :: s[2] :: t := by
  have hl : 3 ≤ s.data.toList.length := by rw [Array.length_toList]; exact h
  match e : s.data.toList, hl with
  | a :: b :: c :: t, _ =>
    have e0 : s[0] = a := by
      have : s.data.toList[0]'(by omega) = a := by simp [e]
      exact this
    have e1 : s[1] = b := by
      have : s.data.toList[1]'(by omega) = b := by simp [e]
      exact this
    have e2 : s[2] = c := by
      have : s.data.toList[2]'(by omega) = c := by simp [e]
      exact this
    exact ⟨t, by rw [e0, e1, e2]⟩
theorem u8_of (z : Int) (h0 : 0 ≤ z) (h1 : z ≤ 255) : ((UInt8.ofNat z.toNat).toNat : Int) = z := by simp; omega
theorem or16 (h l : Int) (h0 : 0 ≤ h) (h1 : h ≤ 15) (l0 : 0 ≤ l) (l1 : l ≤ 15) : bits .or .i64 (h * 16) l = 16 * h + l := by
  have H : ∀ a b : Fin 16, bits .or .i64 ((a.val : Int) * 16) (b.val : Int) = 16 * (a.val : Int) + (b.val : Int) := by decide +kernel
  have := H ⟨h.toNat, by omega⟩ ⟨l.toNat, by omega⟩
  simp only [Int.toNat_of_nonneg h0, Int.toNat_of_nonneg l0] at this
  exact this
theorem hexq (c : Int) (w : World) (h0 : 0 ≤ c) (h1 : c ≤ 255) : Calls Tryz.prog 127 #[.int .u8 c] w fun e w' => e = .returned (.int .i64 (hex c)) ∧ w' = w :=
  (hex_any c w h0 h1).mono fun _ _ ⟨he, hw⟩ => ⟨he, hw.symm⟩
set_option maxRecDepth 100000 in
theorem escaped_any (s : ByteArray) (w : World) (hs : s.size ≤ maxLen) : Calls Tryz.prog 97 #[.string s] w fun e w' => e = .returned (.tuple #[(escV s.data.toList).1, .bool (escV s.data.toList).2]) ∧ Below w.heap.size w w' := by
  unfold maxLen at hs
  by_cases h3 : s.size < 3
  · have HE : Hid (escV s.data.toList = (.int .u8 0, false)) := by unfold escV; rw [esc_short s h3]; exact rfl
    have h3' : (s.size : Int) < 3 := by omega
    go_enter Tryz.func97, Tryz.ntmps97
    go_wp2
    go_ret2
    rw [HE.out]
    exact ⟨rfl, Below.refl _ _⟩
  · have h3' : (3 : Int) ≤ (s.size : Int) := by omega
    obtain ⟨t, ht⟩ := esc_long s (by omega)
    obtain ⟨a, ha⟩ : ∃ a, s[0] = a := ⟨_, rfl⟩
    obtain ⟨b, hb⟩ : ∃ b, s[1] = b := ⟨_, rfl⟩
    obtain ⟨c, hc⟩ : ∃ c, s[2] = c := ⟨_, rfl⟩
    rw [ha, hb, hc] at ht
    have HT := hid ht
    clear ht
    have hb0 : 0 ≤ (b.toNat : Int) ∧ (b.toNat : Int) ≤ 255 := by have := b.toNat_lt; omega
    have hc0 : 0 ≤ (c.toNat : Int) ∧ (c.toNat : Int) ≤ 255 := by have := c.toNat_lt; omega
    by_cases h37 : a = 37
    · subst h37
      have h37' : (((37 : UInt8).toNat : Int) != 37) = false := by decide
      obtain ⟨hx1, hx2⟩ := hex_le b
      obtain ⟨hy1, hy2⟩ := hex_le c
      by_cases hx : hex b.toNat < 0
      · have HE : Hid (escV s.data.toList = (.int .u8 0, false)) := by
          unfold escV
          rw [HT.out, esc, if_neg (by intro h; omega)]
          exact rfl
        go_enter Tryz.func97, Tryz.ntmps97
        go_wp2
        go_quiet ((go_at_call 127; exact Calls.quiet_of_same (hexq _ _ (by omega) (by omega))))
        go_wp2
        go_ret2
        rw [HE.out]
        exact ⟨rfl, Base.below_drewN (Below.refl _ _) _⟩
      · have hx' : 0 ≤ hex b.toNat := by omega
        clear hx hx1
        by_cases hy : hex c.toNat < 0
        · have HE : Hid (escV s.data.toList = (.int .u8 0, false)) := by
            unfold escV
            rw [HT.out, esc, if_neg (by intro h; omega)]
            exact rfl
          go_enter Tryz.func97, Tryz.ntmps97
          go_wp2
          go_quiet ((go_at_call 127; exact Calls.quiet_of_same (hexq _ _ (by omega) (by omega))))
          go_wp2
          go_ret2
          rw [HE.out]
          exact ⟨rfl, Base.below_drewN (Below.refl _ _) _⟩
        · have hy' : 0 ≤ hex c.toNat := by omega
          clear hy hy1
          have HE : Hid (escV s.data.toList = (.int .u8 (16 * hex b.toNat + hex c.toNat), true)) := by
            unfold escV
            rw [HT.out, esc, if_pos ⟨rfl, hx', hy'⟩]
            show (Value.int .u8 ((UInt8.ofNat (16 * hex b.toNat + hex c.toNat).toNat).toNat : Int), true) = _
            rw [u8_of _ (by omega) (by omega)]
          have hor := or16 _ _ hx' hx2 hy' hy2
          go_enter Tryz.func97, Tryz.ntmps97
          go_wp2
          go_quiet ((go_at_call 127; exact Calls.quiet_of_same (hexq _ _ (by omega) (by omega))))
          go_wp2
          go_ret2
          rw [HE.out]
          exact ⟨ret2 rfl rfl, Base.below_drewN (Below.refl _ _) _⟩
    · have HE : Hid (escV s.data.toList = (.int .u8 0, false)) := by
        unfold escV
        rw [HT.out, esc, if_neg (by intro h; exact h37 h.1)]
        exact rfl
      have h37' : ((a.toNat : Int) != 37) = true := by
        simp
        intro h
        exact h37 (UInt8.toNat_inj.1 (by simp; omega))
      go_enter Tryz.func97, Tryz.ntmps97
      go_wp2
      go_ret2
      rw [HE.out]
      exact ⟨rfl, Below.refl _ _⟩

/-- What is left of a text: nothing, or its first byte and the rest. -/
theorem extract_drop (s : ByteArray) (k : Nat) (_h : k ≤ s.size) : (s.extract k s.size).data.toList = s.data.toList.drop k := by
  rw [ByteArray.data_extract]
  simp [Array.toList_extract, List.extract_eq_take_drop]
  rw [List.take_of_length_le (by rw [List.length_drop, Array.length_toList]; exact Nat.le_refl _)]
theorem decode_any (s : ByteArray) (w : World) (hs : s.size ≤ 1073741824) : Calls Tryz.prog 66 #[.string s] w fun e w' => ∃ v, e = .returned v ∧ w'.ownsRow w.heap.size 5 1 v (dec s.data.toList).length (bcells (dec s.data.toList)) ∧ Below w.heap.size w w' := by
  obtain ⟨i0, hi, hz0, hz1, hz2⟩ := info_parts info_u8
  have hl : s.data.toList.length = s.size := Array.length_toList
  have HL := hid hl
  clear hl
  go_enter Tryz.func66, Tryz.ntmps66
  go_wp2_with (at_make; refine wpList_make_own _ rfl _ _ 44 rfl w.heap.size 5 i0 (.int .u8 0) 1 Tryz.underlying44 hi hz0 hz1 .i64 .i64 _ s.size rfl rfl rfl (by rw [hz2]; omega) (by unfold maxLen; omega) (Nat.le_refl _) ?_)
  intro w1 hown1 hg1
  have hbel1 : Below w.heap.size w w1 := (Below.refl _ _).grown hg1 (Nat.le_refl _) (by intro k h; cases h)
  clear hg1
  go_wp2
  go_loopw [3, 4] (fun v vk wr => ∃ (j : Nat) (X : List UInt8), j ≤ s.size ∧ X.length ≤ j ∧ vk = .int .i64 j ∧ wr.ownsRow w.heap.size 5 1 v X.length (bcells X) ∧ Below w.heap.size w wr ∧ Hid (X ++ dec (s.data.toList.drop j) = dec s.data.toList)) (fun _ vk _ => s.size - (intOf vk).toNat)
  case atStart => exact ⟨0, [], Nat.zero_le _, Nat.le_refl _, rfl, hown1, hbel1, rfl⟩
  case round =>
    clear hown1 hbel1
    obtain ⟨j, X, hj, hX, rfl, hown, hbel, HT⟩ := hrel
    by_cases hlt : j < s.size
    · obtain ⟨x, hx⟩ : ∃ x, s[j] = x := ⟨_, rfl⟩
      have hd : s.data.toList.drop j = x :: s.data.toList.drop (j + 1) := by
        rw [← hx]
        exact List.drop_eq_getElem_cons (by rw [HL.out]; exact hlt)
      have HD := hid hd
      clear hd
      have HEX : Hid ((s.extract j s.size).data.toList = s.data.toList.drop j) := extract_drop s j hj
      have hsz : (s.extract j s.size).size = s.size - j := by simp
      have HSZ := hid hsz
      clear hsz
      cases hesc : esc (s.data.toList.drop j) with
      | none =>
        have HV : Hid (escV (s.extract j s.size).data.toList = (.int .u8 0, false)) := by
          unfold escV
          rw [HEX.out, hesc]
          exact rfl
        have HN : Hid (dec (s.data.toList.drop j) = x :: dec (s.data.toList.drop (j + 1))) := by
          rw [HD.out] at hesc ⊢
          exact dec_none _ _ hesc
        clear hesc
        go_wp2_with fail
        refine (escaped_any _ _ (by rw [HSZ.out]; unfold maxLen; omega)).mono ?_
        rintro e w2 ⟨rfl, hb2⟩
        rw [HV.out]
        have hown2 := owns_below hown hb2
        have hbel2 := hbel.trans (hb2.mono hbel.size)
        clear hown hbel
        go_wp2_with (at_builtin; refine wpList_app rfl _ _ 44 rfl w.heap.size 5 i0 (.int .u8 0) 1 Tryz.underlying44 hi hz0 hz1 hz2 rfl _ X.length _ rfl hown2 hbel2 hbel2.size [.int .u8 (x.toNat : Int)] 1 rfl rfl (by intro u hu; simp at hu; subst hu; rfl) (by unfold maxLen; omega) (by omega) ?_)
        intro v' w3 hown3 hbel3
        clear hown2 hbel2
        go_wp2
        go_roundw
        case rel => exact ⟨j + 1, X ++ [x], by omega, by simp; omega, by go_num, by rw [bcells_append, List.length_append]; exact hown3, hbel3, by
            rw [List.append_assoc]
            have := HT.out
            rw [HN.out] at this
            exact this⟩
        case measure => simp [intOf]; omega
      | some c =>
        have h3 : j + 3 ≤ s.size := by
          rcases Nat.lt_or_ge (s.size - j) 3 with h | h
          · have := esc_short (s.extract j s.size) (by rw [HSZ.out]; exact h)
            rw [HEX.out, hesc] at this
            cases this
          · omega
        have HV : Hid (escV (s.extract j s.size).data.toList = (.int .u8 (c.toNat : Int), true)) := by
          unfold escV
          rw [HEX.out, hesc]
          exact rfl
        have HN : Hid (dec (s.data.toList.drop j) = c :: dec (s.data.toList.drop (j + 3))) := by
          rw [HD.out] at hesc ⊢
          rw [dec_some _ _ _ hesc, List.drop_drop]
          exact rfl
        clear hesc
        go_wp2_with fail
        refine (escaped_any _ _ (by rw [HSZ.out]; unfold maxLen; omega)).mono ?_
        rintro e w2 ⟨rfl, hb2⟩
        rw [HV.out]
        have hown2 := owns_below hown hb2
        have hbel2 := hbel.trans (hb2.mono hbel.size)
        clear hown hbel
        go_wp2_with (at_builtin; refine wpList_app rfl _ _ 44 rfl w.heap.size 5 i0 (.int .u8 0) 1 Tryz.underlying44 hi hz0 hz1 hz2 rfl _ X.length _ rfl hown2 hbel2 hbel2.size [.int .u8 (c.toNat : Int)] 1 rfl rfl (by intro u hu; simp at hu; subst hu; rfl) (by unfold maxLen; omega) (by omega) ?_)
        intro v' w3 hown3 hbel3
        clear hown2 hbel2
        go_wp2
        go_roundw
        case rel => exact ⟨j + 3, X ++ [c], by omega, by simp; omega, by rw [show ((j + 3 : Nat) : Int) = (j : Int) + 2 + 1 by omega], by rw [bcells_append, List.length_append]; exact hown3, hbel3, by
            rw [List.append_assoc]
            have := HT.out
            rw [HN.out] at this
            exact this⟩
        case measure => simp [intOf]; omega
    · obtain rfl : j = s.size := by omega
      have HE : Hid (X = dec s.data.toList) := by
        have e := HT.out
        rw [← HL.out, List.drop_length, dec_nil, List.append_nil] at e
        exact e
      go_wp2
      go_ret
      exact ⟨_, rfl, by rw [← HE.out]; exact hown, hbel⟩
end Go.Proofs.YtleecmapaihhmaaGreatDoor.EscD
namespace Go.Proofs.YtleecmapaihhmaaGreatDoor.PthP
open Go.RowKit Go.Proofs.YtleecmapaihhmaaGreatDoor.Base Go.Proofs.YtleecmapaihhmaaGreatDoor.UtfL Go.Proofs.YtleecmapaihhmaaGreatDoor.UtfA

def sgl (L : List UInt8) : Bool := decide (L = [46]) || decide (lower L = [37, 50, 101])
def dbl (L : List UInt8) : Bool := decide (lower L = [46, 46]) || decide (lower L = [46, 37, 50, 101]) || decide (lower L = [37, 50, 101, 46]) || decide (lower L = [37, 50, 101, 37, 50, 101])
def drv (L : List UInt8) : Bool := match L with
  | [a, b] => letter (a.toNat : Int) && (decide (b = 58) || decide (b = 124))
  | _ => false
def nrm (L : List UInt8) : Bool := match L with
  | [a, b] => letter (a.toNat : Int) && decide (b = 58)
  | _ => false
def bgn (L : List UInt8) : Bool := match L with
  | [a, b] => drv [a, b]
  | a :: b :: c :: _ => drv [a, b] && (decide (c = 47) || decide (c = 92) || decide (c = 63) || decide (c = 35))
  | _ => false
theorem low46 (c : UInt8) : low c = 46 ↔ c = 46 := by
  have H : ∀ n : Fin 256, low (UInt8.ofNat n.val) = 46 ↔ UInt8.ofNat n.val = 46 := by decide +kernel
  have := H ⟨c.toNat, c.toNat_lt⟩
  simpa using this
theorem lower_cons (c : UInt8) (L : List UInt8) : lower (c :: L) = low c :: lower L := rfl
theorem lower_append (a b : List UInt8) : lower (a ++ b) = lower a ++ lower b := by simp [lower]
theorem length_lower (L : List UInt8) : (lower L).length = L.length := by simp [lower]
theorem lower_dot (L : List UInt8) : lower L = [46] ↔ L = [46] := by
  constructor
  · intro h
    match L, h with
    | [c], h => rw [lower_cons] at h; injection h with h _; rw [(low46 c).1 h]
    | _ :: _ :: _, h => simp [lower] at h
    | [], h => simp [lower] at h
  · rintro rfl; rfl
/-- What begins with a point is two if what follows is one. -/
theorem dbl_dot (L : List UInt8) : dbl (46 :: L) = sgl L := by
  have e : low 46 = 46 := rfl
  unfold dbl sgl
  rw [lower_cons, e, Bool.eq_iff_iff]
  simp [← lower_dot L]
/-- What doesn't is, if three letters are one, and the others. -/
theorem dbl_other (c : UInt8) (L : List UInt8) (hc : c ≠ 46) : dbl (c :: L) = (decide (3 < (c :: L).length) && (sgl ((c :: L).take 3) && sgl ((c :: L).drop 3))) := by
  have hl : low c ≠ 46 := fun h => hc ((low46 c).1 h)
  match L with
  | [] => simp [dbl, lower, hl]
  | [_] => simp [dbl, lower, hl]
  | [_, _] => simp [dbl, lower, hl]
  | a :: b :: d :: L =>
    unfold dbl sgl
    simp only [List.take_succ_cons, List.take_zero, List.drop_succ_cons, List.drop_zero, lower_cons, List.length_cons]
    rw [Bool.eq_iff_iff]
    simp [hl, ← lower_dot (d :: L), lower_cons, show lower ([] : List UInt8) = [] from rfl]
    constructor
    · rintro (⟨h1, h2, h3, h4, h5⟩ | ⟨h1, h2, h3, h4⟩)
      · exact ⟨⟨h1, h2, h3⟩, .inl ⟨h4, h5⟩⟩
      · exact ⟨⟨h1, h2, h3⟩, .inr h4⟩
    · rintro ⟨⟨h1, h2, h3⟩, ⟨h4, h5⟩ | h4⟩
      · exact .inl ⟨h1, h2, h3, h4, h5⟩
      · exact .inr ⟨h1, h2, h3, h4⟩
theorem dbl_nil : dbl [] = false := rfl
end Go.Proofs.YtleecmapaihhmaaGreatDoor.PthP
namespace Go.Proofs.YtleecmapaihhmaaGreatDoor.PthA
open Go.RowKit Go.Proofs.YtleecmapaihhmaaGreatDoor.Base Go.Proofs.YtleecmapaihhmaaGreatDoor.Base2 Go.Proofs.YtleecmapaihhmaaGreatDoor.UtfL Go.Proofs.YtleecmapaihhmaaGreatDoor.UtfA Go.Proofs.YtleecmapaihhmaaGreatDoor.PthP

theorem tl (s : ByteArray) : s.toList = s.data.toList := by
  obtain ⟨d⟩ := s; rw [ByteArray.toList_mk]
theorem beq_list (s : ByteArray) (L : List UInt8) : (s.toList == L) = decide (s.data.toList = L) := by
  rw [tl, Bool.eq_iff_iff]; simp
theorem beq_strOf (M L : List UInt8) : ((strOf M).toList == L) = decide (M = L) := beq_list (strOf M) L
end Go.Proofs.YtleecmapaihhmaaGreatDoor.PthA
namespace Go.Proofs.YtleecmapaihhmaaGreatDoor.PthB
open Go.RowKit Go.Proofs.YtleecmapaihhmaaGreatDoor.Base Go.Proofs.YtleecmapaihhmaaGreatDoor.Base2 Go.Proofs.YtleecmapaihhmaaGreatDoor.UtfL Go.Proofs.YtleecmapaihhmaaGreatDoor.UtfA Go.Proofs.YtleecmapaihhmaaGreatDoor.PthP Go.Proofs.YtleecmapaihhmaaGreatDoor.PthA

theorem u8_eq (c : UInt8) (n : Nat) (hn : n < 256) : decide (c = UInt8.ofNat n) = decide (c.toNat = n) := by
  refine decide_eq_decide.2 ⟨?_, ?_⟩
  · rintro rfl; simp; omega
  · intro h; rw [← h]; simp
theorem eq58 (c : UInt8) : decide (c = 58) = decide (c.toNat = 58) := u8_eq c 58 (by omega)
theorem eq124 (c : UInt8) : decide (c = 124) = decide (c.toNat = 124) := u8_eq c 124 (by omega)
theorem two_of (s : ByteArray) (h : s.size = 2) : s.data.toList = [s[0]'(by omega), s[1]'(by omega)] := by
  refine List.ext_getElem ((show s.data.toList.length = s.size from Array.length_toList).trans h) fun i h1 h2 => ?_
  have : i = 0 ∨ i = 1 := by simp at h2; omega
  rcases this with rfl | rfl <;> rfl
theorem drv_len (L : List UInt8) (h : drv L = true) : L.length = 2 := by
  match L, h with
  | [_, _], _ => rfl
theorem drv_not (L : List UInt8) (h : L.length ≠ 2) : drv L = false := by
  cases e : drv L with
  | false => rfl
  | true => exact absurd (drv_len L e) h
theorem nrm_not (L : List UInt8) (h : drv L = false) : nrm L = false := by
  match L, h with
  | [], _ => rfl
  | [_], _ => rfl
  | [a, b], h =>
    simp only [drv, nrm] at h ⊢
    cases hl : letter (a.toNat : Int) with
    | false => rfl
    | true =>
      rw [hl] at h
      simp at h
      simp [h.1]
  | _ :: _ :: _ :: _, _ => rfl
theorem nrm_yes (a b : UInt8) (h : drv [a, b] = true) : nrm [a, b] = decide (b = 58) := by
  simp only [drv, nrm, Bool.and_eq_true] at h ⊢
  rw [h.1, Bool.true_and]
set_option maxHeartbeats 2000000 in
theorem drive_any (s : ByteArray) (w : World) : Calls Tryz.prog 39 #[.string s] w fun e w' => e = .returned (.bool (drv s.data.toList)) ∧ w = w' := by
  obtain ⟨o, ho⟩ : ∃ o, o = drv s.data.toList := ⟨_, rfl⟩
  rw [← ho]
  by_cases h2 : s.size = 2
  · have h0 : 0 < s.size := by omega
    have h1 : 1 < s.size := by omega
    obtain ⟨a, ha⟩ : ∃ a, s[0] = a := ⟨_, rfl⟩
    obtain ⟨b, hb⟩ : ∃ b, s[1] = b := ⟨_, rfl⟩
    have q1 : ((s.size : Int) == 2) = true := by simp; omega
    obtain ⟨p, hp⟩ : ∃ p, p = letter (a.toNat : Int) := ⟨_, rfl⟩
    have HO : Hid (o = (p && (decide (b.toNat = 58) || decide (b.toNat = 124)))) := by
      show _ = _
      rw [ho, two_of s h2, drv, ha, hb, hp, eq58, eq124]
    have HP := hid hp
    have H2 := hid h2
    clear ho hp h2
    by_cases e1 : b.toNat = 58
    · have q2 : ((b.toNat : Int) == 58) = true := by simp; omega
      have HE : Hid (o = p) := by show _ = _; rw [HO.out, decide_eq_true e1]; simp
      clear e1
      cases p
      all_goals
        go_enter Tryz.func39, Tryz.ntmps39
        go_wp2_with fail
        refine (UtfA.letter_any _ _).mono ?_
        rintro e w2 ⟨rfl, rfl⟩
        rw [← HP.out]
        go_wp2
        go_ret
        exact ⟨ret_bool HE.out.symm, rfl⟩
    · have q2 : ((b.toNat : Int) == 58) = false := by simp; omega
      by_cases e2 : b.toNat = 124
      · have q3 : ((b.toNat : Int) == 124) = true := by simp; omega
        have HE : Hid (o = p) := by show _ = _; rw [HO.out, decide_eq_true e2]; simp
        clear e1 e2
        cases p
        all_goals
          go_enter Tryz.func39, Tryz.ntmps39
          go_wp2_with fail
          refine (UtfA.letter_any _ _).mono ?_
          rintro e w2 ⟨rfl, rfl⟩
          rw [← HP.out]
          go_wp2
          go_ret
          exact ⟨ret_bool HE.out.symm, rfl⟩
      · have q3 : ((b.toNat : Int) == 124) = false := by simp; omega
        have HE : Hid (o = false) := by show _ = _; rw [HO.out, decide_eq_false e1, decide_eq_false e2]; simp
        clear e1 e2
        cases p
        all_goals
          go_enter Tryz.func39, Tryz.ntmps39
          go_wp2_with fail
          refine (UtfA.letter_any _ _).mono ?_
          rintro e w2 ⟨rfl, rfl⟩
          rw [← HP.out]
          go_wp2
          go_ret
          exact ⟨ret_bool HE.out.symm, rfl⟩
  · have q1 : ((s.size : Int) == 2) = false := by simp; omega
    have HE : Hid (o = false) := by show _ = _; rw [ho]; exact drv_not _ (by rw [show s.data.toList.length = s.size from Array.length_toList]; exact h2)
    clear h2 ho
    go_enter Tryz.func39, Tryz.ntmps39
    go_wp2
    go_ret
    exact ⟨ret_bool HE.out.symm, rfl⟩
set_option maxHeartbeats 2000000 in
theorem refDrive_any (s : ByteArray) (w : World) : Calls Tryz.prog 55 #[.string s] w fun e w' => e = .returned (.bool (drv s.data.toList)) ∧ w = w' := by
  obtain ⟨o, ho⟩ : ∃ o, o = drv s.data.toList := ⟨_, rfl⟩
  rw [← ho]
  by_cases h2 : s.size = 2
  · have h0 : 0 < s.size := by omega
    have h1 : 1 < s.size := by omega
    obtain ⟨a, ha⟩ : ∃ a, s[0] = a := ⟨_, rfl⟩
    obtain ⟨b, hb⟩ : ∃ b, s[1] = b := ⟨_, rfl⟩
    have q1 : ((s.size : Int) == 2) = true := by simp; omega
    obtain ⟨p, hp⟩ : ∃ p, p = letter (a.toNat : Int) := ⟨_, rfl⟩
    have HO : Hid (o = (p && (decide (b.toNat = 58) || decide (b.toNat = 124)))) := by
      show _ = _
      rw [ho, two_of s h2, drv, ha, hb, hp, eq58, eq124]
    have HP := hid hp
    have H2 := hid h2
    clear ho hp h2
    by_cases e1 : b.toNat = 58
    · have q2 : ((b.toNat : Int) == 58) = true := by simp; omega
      have HE : Hid (o = p) := by show _ = _; rw [HO.out, decide_eq_true e1]; simp
      clear e1
      cases p
      all_goals
        go_enter Tryz.func55, Tryz.ntmps55
        go_wp2_with fail
        refine (RefA.letter_any _ _).mono ?_
        rintro e w2 ⟨rfl, rfl⟩
        rw [← HP.out]
        go_wp2
        go_ret
        exact ⟨ret_bool HE.out.symm, rfl⟩
    · have q2 : ((b.toNat : Int) == 58) = false := by simp; omega
      by_cases e2 : b.toNat = 124
      · have q3 : ((b.toNat : Int) == 124) = true := by simp; omega
        have HE : Hid (o = p) := by show _ = _; rw [HO.out, decide_eq_true e2]; simp
        clear e1 e2
        cases p
        all_goals
          go_enter Tryz.func55, Tryz.ntmps55
          go_wp2_with fail
          refine (RefA.letter_any _ _).mono ?_
          rintro e w2 ⟨rfl, rfl⟩
          rw [← HP.out]
          go_wp2
          go_ret
          exact ⟨ret_bool HE.out.symm, rfl⟩
      · have q3 : ((b.toNat : Int) == 124) = false := by simp; omega
        have HE : Hid (o = false) := by show _ = _; rw [HO.out, decide_eq_false e1, decide_eq_false e2]; simp
        clear e1 e2
        cases p
        all_goals
          go_enter Tryz.func55, Tryz.ntmps55
          go_wp2_with fail
          refine (RefA.letter_any _ _).mono ?_
          rintro e w2 ⟨rfl, rfl⟩
          rw [← HP.out]
          go_wp2
          go_ret
          exact ⟨ret_bool HE.out.symm, rfl⟩
  · have q1 : ((s.size : Int) == 2) = false := by simp; omega
    have HE : Hid (o = false) := by show _ = _; rw [ho]; exact drv_not _ (by rw [show s.data.toList.length = s.size from Array.length_toList]; exact h2)
    clear h2 ho
    go_enter Tryz.func55, Tryz.ntmps55
    go_wp2
    go_ret
    exact ⟨ret_bool HE.out.symm, rfl⟩
set_option maxHeartbeats 2000000 in
theorem normal_any (s : ByteArray) (w : World) : Calls Tryz.prog 22 #[.string s] w fun e w' => e = .returned (.bool (nrm s.data.toList)) ∧ w = w' := by
  obtain ⟨o, ho⟩ : ∃ o, o = nrm s.data.toList := ⟨_, rfl⟩
  rw [← ho]
  obtain ⟨d, hd⟩ : ∃ d, d = drv s.data.toList := ⟨_, rfl⟩
  have HD := hid hd
  cases d with
  | false =>
    have HE : Hid (o = false) := by show _ = _; rw [ho]; exact nrm_not _ hd.symm
    clear hd ho
    go_enter Tryz.func22, Tryz.ntmps22
    go_wp2_with fail
    refine (drive_any _ _).mono ?_
    rintro e w2 ⟨rfl, rfl⟩
    rw [← HD.out]
    go_wp2
    go_ret
    exact ⟨ret_bool HE.out.symm, rfl⟩
  | true =>
    have h2 : s.size = 2 := by
      have := drv_len _ hd.symm
      rw [show s.data.toList.length = s.size from Array.length_toList] at this
      exact this
    have h1 : 1 < s.size := by omega
    obtain ⟨b, hb⟩ : ∃ b, s[1] = b := ⟨_, rfl⟩
    have HE : Hid (o = decide (b.toNat = 58)) := by
      show _ = _
      rw [ho, ← eq58]
      rw [two_of s h2] at hd ⊢
      rw [hb] at hd ⊢
      exact nrm_yes _ _ hd.symm
    clear hd ho h2
    by_cases e1 : b.toNat = 58
    · have q2 : ((b.toNat : Int) == 58) = true := by simp; omega
      have HF : Hid (o = true) := HE.out.trans (decide_eq_true e1)
      clear e1
      go_enter Tryz.func22, Tryz.ntmps22
      go_wp2_with fail
      refine (drive_any _ _).mono ?_
      rintro e w2 ⟨rfl, rfl⟩
      rw [← HD.out]
      go_wp2
      go_ret
      exact ⟨ret_bool HF.out.symm, rfl⟩
    · have q2 : ((b.toNat : Int) == 58) = false := by simp; omega
      have HF : Hid (o = false) := HE.out.trans (decide_eq_false e1)
      clear e1
      go_enter Tryz.func22, Tryz.ntmps22
      go_wp2_with fail
      refine (drive_any _ _).mono ?_
      rintro e w2 ⟨rfl, rfl⟩
      rw [← HD.out]
      go_wp2
      go_ret
      exact ⟨ret_bool HF.out.symm, rfl⟩
set_option maxHeartbeats 2000000 in
theorem refNormal_any (s : ByteArray) (w : World) : Calls Tryz.prog 33 #[.string s] w fun e w' => e = .returned (.bool (nrm s.data.toList)) ∧ w = w' := by
  obtain ⟨o, ho⟩ : ∃ o, o = nrm s.data.toList := ⟨_, rfl⟩
  rw [← ho]
  obtain ⟨d, hd⟩ : ∃ d, d = drv s.data.toList := ⟨_, rfl⟩
  have HD := hid hd
  cases d with
  | false =>
    have HE : Hid (o = false) := by show _ = _; rw [ho]; exact nrm_not _ hd.symm
    clear hd ho
    go_enter Tryz.func33, Tryz.ntmps33
    go_wp2_with fail
    refine (refDrive_any _ _).mono ?_
    rintro e w2 ⟨rfl, rfl⟩
    rw [← HD.out]
    go_wp2
    go_ret
    exact ⟨ret_bool HE.out.symm, rfl⟩
  | true =>
    have h2 : s.size = 2 := by
      have := drv_len _ hd.symm
      rw [show s.data.toList.length = s.size from Array.length_toList] at this
      exact this
    have h1 : 1 < s.size := by omega
    obtain ⟨b, hb⟩ : ∃ b, s[1] = b := ⟨_, rfl⟩
    have HE : Hid (o = decide (b.toNat = 58)) := by
      show _ = _
      rw [ho, ← eq58]
      rw [two_of s h2] at hd ⊢
      rw [hb] at hd ⊢
      exact nrm_yes _ _ hd.symm
    clear hd ho h2
    by_cases e1 : b.toNat = 58
    · have q2 : ((b.toNat : Int) == 58) = true := by simp; omega
      have HF : Hid (o = true) := HE.out.trans (decide_eq_true e1)
      clear e1
      go_enter Tryz.func33, Tryz.ntmps33
      go_wp2_with fail
      refine (refDrive_any _ _).mono ?_
      rintro e w2 ⟨rfl, rfl⟩
      rw [← HD.out]
      go_wp2
      go_ret
      exact ⟨ret_bool HF.out.symm, rfl⟩
    · have q2 : ((b.toNat : Int) == 58) = false := by simp; omega
      have HF : Hid (o = false) := HE.out.trans (decide_eq_false e1)
      clear e1
      go_enter Tryz.func33, Tryz.ntmps33
      go_wp2_with fail
      refine (refDrive_any _ _).mono ?_
      rintro e w2 ⟨rfl, rfl⟩
      rw [← HD.out]
      go_wp2
      go_ret
      exact ⟨ret_bool HF.out.symm, rfl⟩
end Go.Proofs.YtleecmapaihhmaaGreatDoor.PthB
namespace Go.Proofs.YtleecmapaihhmaaGreatDoor.UrlP
open Go.RowKit Go.Proofs.YtleecmapaihhmaaGreatDoor.Base

abbrev bs (s : ByteArray) : List UInt8 := s.data.toList
/-- A path of segments, written. -/
def pth (l : List ByteArray) : List UInt8 := l.flatMap fun s => 47 :: s.data.toList
def pathL (b6 : Bool) (s7 : ByteArray) (l : List ByteArray) : List UInt8 := if b6 then s7.data.toList else pth l
def credL (s1 s2 : ByteArray) : List UInt8 := if s2.data.toList = [] then (if s1.data.toList = [] then [] else s1.data.toList ++ [64]) else s1.data.toList ++ [58] ++ s2.data.toList ++ [64]
def portL (z5 : Int) : List UInt8 := if z5 = -1 then [] else 58 :: Lib.itoa z5
/-- Would the path be read as a host? -/
def dotted (b6 : Bool) (l : List ByteArray) : Bool := !b6 && match l with
  | a :: _ :: _ => decide (a.data.toList = [])
  | _ => false
def midL (s1 s2 s3 : ByteArray) (b4 : Bool) (z5 : Int) (b6 : Bool) (l : List ByteArray) : List UInt8 :=
  if b4 then [47, 47] ++ credL s1 s2 ++ s3.data.toList ++ portL z5 else if dotted b6 l then [47, 46] else []
def bareL (s0 s1 s2 s3 : ByteArray) (b4 : Bool) (z5 : Int) (b6 : Bool) (s7 : ByteArray) (l : List ByteArray) (b9 : Bool) (s11 : ByteArray) : List UInt8 :=
  s0.data.toList ++ [58] ++ midL s1 s2 s3 b4 z5 b6 l ++ pathL b6 s7 l ++ (if b9 then 63 :: s11.data.toList else [])
def printL (s0 s1 s2 s3 : ByteArray) (b4 : Bool) (z5 : Int) (b6 : Bool) (s7 : ByteArray) (l : List ByteArray) (b9 b10 : Bool) (s11 s12 : ByteArray) : List UInt8 :=
  bareL s0 s1 s2 s3 b4 z5 b6 s7 l b9 s11 ++ (if b10 then 35 :: s12.data.toList else [])
/-- All that counts of two URLs. -/
def txt (h : Bool) (s : ByteArray) : Option (List UInt8) := if h then some s.data.toList else none
def same1 (s0 s1 s2 s3 : ByteArray) (b4 : Bool) (z5 : Int) (b6 : Bool) (s7 : ByteArray) (l : List ByteArray) (b9 b10 : Bool) (s11 s12 : ByteArray) : List (Option (List UInt8)) × Int × Bool × List ByteArray :=
  ([some s0.data.toList, some s1.data.toList, some s2.data.toList, txt b4 s3, txt b6 s7, txt b9 s11, txt b10 s12], z5, b6, if b6 then [] else l)
def fewN (s0 s1 s2 s3 s7 s11 s12 : ByteArray) (l : List ByteArray) : Nat := s0.size + s1.size + s2.size + s3.size + s7.size + s11.size + s12.size + (l.map (·.size)).sum
theorem pth_snoc (l : List ByteArray) (s : ByteArray) : pth (l ++ [s]) = pth l ++ (47 :: s.data.toList) := by simp [pth]
theorem length_pth (l : List ByteArray) : (pth l).length = l.length + (l.map (·.size)).sum := by
  induction l with
  | nil => rfl
  | cons a l ih =>
    have e : pth (a :: l) = (47 :: a.data.toList) ++ pth l := rfl
    rw [e, List.length_append, ih]
    simp only [List.length_cons, List.map_cons, List.sum_cons]
    rw [show a.data.toList.length = a.size from Array.length_toList]
    omega
theorem take_snoc (l : List ByteArray) (k : Nat) (h : k < l.length) : l.take (k + 1) = l.take k ++ [l[k]] := by
  rw [List.take_succ_eq_append_getElem h]
theorem sum_take (l : List ByteArray) (k : Nat) : ((l.take k).map (·.size)).sum ≤ (l.map (·.size)).sum := by
  have h : l.map (·.size) = (l.take k).map (·.size) ++ (l.drop k).map (·.size) := by rw [← List.map_append, List.take_append_drop]
  rw [h, List.sum_append]
  omega
theorem sum_at (l : List ByteArray) (k : Nat) (h : k < l.length) : ((l.take (k + 1)).map (·.size)).sum = ((l.take k).map (·.size)).sum + l[k].size := by
  rw [take_snoc l k h, List.map_append, List.sum_append]
  simp
theorem length_strOf_data (L : List UInt8) : (strOf L).data.toList = L := rfl
theorem ext_str {a b : ByteArray} (h : a.data.toList = b.data.toList) : a = b := by
  cases a; cases b; simp at h; subst h; rfl
theorem tl (s : ByteArray) : s.toList = s.data.toList := by
  obtain ⟨d⟩ := s; rw [ByteArray.toList_mk]
theorem beq_str (a b : ByteArray) : (a.toList == b.toList) = decide (a.data.toList = b.data.toList) := by
  rw [tl, tl, Bool.eq_iff_iff]; simp
end Go.Proofs.YtleecmapaihhmaaGreatDoor.UrlP
namespace Go.Proofs.YtleecmapaihhmaaGreatDoor.UrlA
open Go.RowKit Go.Proofs.YtleecmapaihhmaaGreatDoor.Base Go.Proofs.YtleecmapaihhmaaGreatDoor.Base2 Go.Proofs.YtleecmapaihhmaaGreatDoor.UrlP

def portOf (L : List UInt8) : Int := if L = [102, 116, 112] then 21 else if L = [104, 116, 116, 112] ∨ L = [119, 115] then 80 else if L = [104, 116, 116, 112, 115] ∨ L = [119, 115, 115] then 443 else -1
def special (L : List UInt8) : Bool := decide (L = [102, 105, 108, 101]) || decide (portOf L ≠ -1)
/-- The six of them, or none. -/
theorem sorts (L : List UInt8) : L = [102, 116, 112] ∨ L = [104, 116, 116, 112] ∨ L = [119, 115] ∨ L = [104, 116, 116, 112, 115] ∨ L = [119, 115, 115] ∨ L = [102, 105, 108, 101] ∨ (L ≠ [102, 116, 112] ∧ L ≠ [104, 116, 116, 112] ∧ L ≠ [119, 115] ∧ L ≠ [104, 116, 116, 112, 115] ∧ L ≠ [119, 115, 115] ∧ L ≠ [102, 105, 108, 101]) := by
  by_cases h1 : L = [102, 116, 112]
  · exact .inl h1
  by_cases h2 : L = [104, 116, 116, 112]
  · exact .inr (.inl h2)
  by_cases h3 : L = [119, 115]
  · exact .inr (.inr (.inl h3))
  by_cases h4 : L = [104, 116, 116, 112, 115]
  · exact .inr (.inr (.inr (.inl h4)))
  by_cases h5 : L = [119, 115, 115]
  · exact .inr (.inr (.inr (.inr (.inl h5))))
  by_cases h6 : L = [102, 105, 108, 101]
  · exact .inr (.inr (.inr (.inr (.inr (.inl h6)))))
  exact .inr (.inr (.inr (.inr (.inr (.inr ⟨h1, h2, h3, h4, h5, h6⟩)))))
theorem eq_of_list {s : ByteArray} {L : List UInt8} (h : s.data.toList = L) : s = ⟨L.toArray⟩ := by
  obtain ⟨d⟩ := s
  subst h
  rfl
theorem beq_of_ne {s : ByteArray} {L : List UInt8} (h : s.data.toList ≠ L) : (s.toList == L) = false := by
  rw [tl]; simpa using h
end Go.Proofs.YtleecmapaihhmaaGreatDoor.UrlA
