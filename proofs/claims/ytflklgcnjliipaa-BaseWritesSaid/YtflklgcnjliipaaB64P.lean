/- Bits and bytes: six bits of each letter, one behind the other, eight to a byte. -/
import Derived.Test.YtflklgcnjliipaaB64D
namespace Go.Proofs.Ytflklgcnjliipaa.B64P
open Go.RowKit Go.Proofs.Ytflklgcnjliipaa.Base Go.Proofs.Ytflklgcnjliipaa.Base2 Go.Proofs.Ytflklgcnjliipaa.B64N Go.Proofs.Ytflklgcnjliipaa.B64D

def bitsOf (n : Nat) : List Bool := [n / 32 % 2 == 1, n / 16 % 2 == 1, n / 8 % 2 == 1, n / 4 % 2 == 1, n / 2 % 2 == 1, n % 2 == 1]
def b2 (b : Bool) (k : Nat) : Nat := if b then k else 0
def byteAt (B : List Bool) (j : Nat) : Nat :=
  b2 (B.getD (8 * j) false) 128 + b2 (B.getD (8 * j + 1) false) 64 + b2 (B.getD (8 * j + 2) false) 32 + b2 (B.getD (8 * j + 3) false) 16 +
  b2 (B.getD (8 * j + 4) false) 8 + b2 (B.getD (8 * j + 5) false) 4 + b2 (B.getD (8 * j + 6) false) 2 + b2 (B.getD (8 * j + 7) false) 1
def pack (B : List Bool) (m : Nat) : List UInt8 := (List.range m).map fun j => UInt8.ofNat (byteAt B j)
theorem pack_len (B : List Bool) (m : Nat) : (pack B m).length = m := by simp [pack]
theorem b2_le (b : Bool) (k : Nat) : b2 b k ≤ k := by unfold b2; split <;> omega
theorem byteAt_lt (B : List Bool) (j : Nat) : byteAt B j < 256 := by
  unfold byteAt
  have h0 := b2_le (B.getD (8 * j) false) 128
  have h1 := b2_le (B.getD (8 * j + 1) false) 64
  have h2 := b2_le (B.getD (8 * j + 2) false) 32
  have h3 := b2_le (B.getD (8 * j + 3) false) 16
  have h4 := b2_le (B.getD (8 * j + 4) false) 8
  have h5 := b2_le (B.getD (8 * j + 5) false) 4
  have h6 := b2_le (B.getD (8 * j + 6) false) 2
  have h7 := b2_le (B.getD (8 * j + 7) false) 1
  omega
theorem getD_out (B : List Bool) (i : Nat) (h : B.length ≤ i) : B.getD i false = false := by
  simp [List.getElem?_eq_none h]
theorem b2_false (k : Nat) : b2 false k = 0 := rfl
theorem getD_snoc (B : List Bool) (b : Bool) (i : Nat) : (B ++ [b]).getD i false = if i = B.length then b else B.getD i false := by
  by_cases h : i < B.length
  · rw [if_neg (by omega)]
    simp [List.getElem?_append_left h]
  · by_cases e : i = B.length
    · subst e; simp
    · rw [if_neg e, getD_out B i (by omega), getD_out _ i (by simp; omega)]
theorem byteAt_other (B : List Bool) (b : Bool) (j : Nat) (h : j ≠ B.length / 8) : byteAt (B ++ [b]) j = byteAt B j := by
  unfold byteAt
  simp only [getD_snoc]
  repeat rw [if_neg (by omega)]
theorem split8 (P : Nat) : P % 8 = 0 ∨ P % 8 = 1 ∨ P % 8 = 2 ∨ P % 8 = 3 ∨ P % 8 = 4 ∨ P % 8 = 5 ∨ P % 8 = 6 ∨ P % 8 = 7 := by omega
theorem byteAt_here (B : List Bool) (b : Bool) : byteAt (B ++ [b]) (B.length / 8) = byteAt B (B.length / 8) + b2 b (2 ^ (7 - B.length % 8)) ∧ byteAt B (B.length / 8) % 2 ^ (8 - B.length % 8) = 0 := by
  unfold byteAt
  simp only [getD_snoc]
  rcases split8 B.length with h | h | h | h | h | h | h | h
  all_goals
    rw [h]
    have e : B.length = 8 * (B.length / 8) + B.length % 8 := by omega
    rw [h] at e
    generalize hq : B.length / 8 = q at *
    have z : ∀ i, B.length ≤ i → B.getD i false = false := fun i hi => getD_out B i hi
    constructor
    · have c0 : (8 * q = B.length) = (B.length % 8 = 0) := by simp only [eq_iff_iff]; omega
      have c1 : (8 * q + 1 = B.length) = (B.length % 8 = 1) := by simp only [eq_iff_iff]; omega
      have c2 : (8 * q + 2 = B.length) = (B.length % 8 = 2) := by simp only [eq_iff_iff]; omega
      have c3 : (8 * q + 3 = B.length) = (B.length % 8 = 3) := by simp only [eq_iff_iff]; omega
      have c4 : (8 * q + 4 = B.length) = (B.length % 8 = 4) := by simp only [eq_iff_iff]; omega
      have c5 : (8 * q + 5 = B.length) = (B.length % 8 = 5) := by simp only [eq_iff_iff]; omega
      have c6 : (8 * q + 6 = B.length) = (B.length % 8 = 6) := by simp only [eq_iff_iff]; omega
      have c7 : (8 * q + 7 = B.length) = (B.length % 8 = 7) := by simp only [eq_iff_iff]; omega
      simp only [c0, c1, c2, c3, c4, c5, c6, c7, h]
      simp only [Nat.reduceEqDiff, reduceIte, Nat.reduceSub, Nat.reducePow]
      first
        | rw [z (8 * q + 7) (by omega)]
        | skip
      (try rw [z (8 * q) (by omega)])
      (try rw [z (8 * q + 1) (by omega)])
      (try rw [z (8 * q + 2) (by omega)])
      (try rw [z (8 * q + 3) (by omega)])
      (try rw [z (8 * q + 4) (by omega)])
      (try rw [z (8 * q + 5) (by omega)])
      (try rw [z (8 * q + 6) (by omega)])
      simp only [b2_false]
      omega
    · (try rw [z (8 * q) (by omega)])
      (try rw [z (8 * q + 1) (by omega)])
      (try rw [z (8 * q + 2) (by omega)])
      (try rw [z (8 * q + 3) (by omega)])
      (try rw [z (8 * q + 4) (by omega)])
      (try rw [z (8 * q + 5) (by omega)])
      (try rw [z (8 * q + 6) (by omega)])
      (try rw [z (8 * q + 7) (by omega)])
      simp only [b2, Nat.reduceSub, Nat.reducePow]
      repeat' split
      all_goals first | omega | contradiction
theorem pack_snoc (B : List Bool) (b : Bool) (m : Nat) : pack (B ++ [b]) m = (pack B m).set (B.length / 8) (UInt8.ofNat (byteAt B (B.length / 8) + b2 b (2 ^ (7 - B.length % 8)))) := by
  apply List.ext_getElem
  · simp [pack]
  · intro i h1 h2
    rw [List.getElem_set]
    simp only [pack, List.getElem_map, List.getElem_range]
    by_cases e : B.length / 8 = i
    · rw [if_pos e, ← e, (byteAt_here B b).1]
    · rw [if_neg e, byteAt_other B b i (Ne.symm e)]
theorem pack_over (B : List Bool) (b : Bool) (m : Nat) (h : 8 * m ≤ B.length) : pack (B ++ [b]) m = pack B m := by
  unfold pack
  apply List.map_congr_left
  intro j hj
  rw [byteAt_other B b j (by simp at hj; omega)]
theorem pack_nil (m : Nat) : pack [] m = List.replicate m 0 := by
  apply List.ext_getElem
  · simp [pack]
  · intro i h1 h2
    simp [pack, byteAt, b2]
def d64 : List Nat → List UInt8
  | a :: b :: c :: d :: t => [UInt8.ofNat (a * 4 + b / 16), UInt8.ofNat (b % 16 * 16 + c / 4), UInt8.ofNat (c % 4 * 64 + d)] ++ d64 t
  | [a, b, c] => [UInt8.ofNat (a * 4 + b / 16), UInt8.ofNat (b % 16 * 16 + c / 4)]
  | [a, b] => [UInt8.ofNat (a * 4 + b / 16)]
  | _ => []
def allBits (N : List Nat) : List Bool := N.flatMap bitsOf
theorem len_bits (n : Nat) : (bitsOf n).length = 6 := rfl
theorem len_all (N : List Nat) : (allBits N).length = 6 * N.length := by
  induction N with
  | nil => rfl
  | cons n N ih => simp only [allBits, List.flatMap_cons, List.length_append, len_bits, List.length_cons] at ih ⊢; omega
theorem byteAt_shift (X R : List Bool) (j : Nat) (h : X.length = 24) : byteAt (X ++ R) (j + 3) = byteAt R j := by
  have g : ∀ i, (X ++ R).getD (24 + i) false = R.getD i false := by
    intro i
    simp only [List.getD_eq_getElem?_getD]
    rw [List.getElem?_append_right (by omega)]
    congr 2
    omega
  unfold byteAt
  have e : 8 * (j + 3) = 24 + 8 * j := by omega
  rw [e]
  simp only [Nat.add_assoc, g]
theorem pack_shift (X R : List Bool) (m : Nat) (h : X.length = 24) : pack (X ++ R) (m + 3) = [UInt8.ofNat (byteAt (X ++ R) 0), UInt8.ofNat (byteAt (X ++ R) 1), UInt8.ofNat (byteAt (X ++ R) 2)] ++ pack R m := by
  unfold pack
  have e : List.range (m + 3) = [0, 1, 2] ++ (List.range m).map (· + 3) := by
    rw [Nat.add_comm m 3, List.range_add]
    congr 1
    apply List.map_congr_left
    intro a _
    omega
  rw [e, List.map_append, List.map_map]
  congr 1
  apply List.map_congr_left
  intro j _
  simp only [Function.comp]
  rw [byteAt_shift X R j h]
theorem dig6 (a : Nat) (h : a < 64) : b2 (a / 32 % 2 == 1) 32 + b2 (a / 16 % 2 == 1) 16 + b2 (a / 8 % 2 == 1) 8 + b2 (a / 4 % 2 == 1) 4 + b2 (a / 2 % 2 == 1) 2 + b2 (a % 2 == 1) 1 = a := by
  have H : ∀ a : Fin 64, b2 (a.val / 32 % 2 == 1) 32 + b2 (a.val / 16 % 2 == 1) 16 + b2 (a.val / 8 % 2 == 1) 8 + b2 (a.val / 4 % 2 == 1) 4 + b2 (a.val / 2 % 2 == 1) 2 + b2 (a.val % 2 == 1) 1 = a.val := by decide
  exact H ⟨a, h⟩
theorem b2_val (n k : Nat) : b2 (n % 2 == 1) k = n % 2 * k := by
  unfold b2
  rcases Nat.mod_two_eq_zero_or_one n with h | h <;> simp [h]
theorem byte0 (a b : Nat) (R : List Bool) (_ha : a < 64) (_hb : b < 64) : byteAt (bitsOf a ++ (bitsOf b ++ R)) 0 = a * 4 + b / 16 := by
  unfold byteAt bitsOf
  simp only [List.cons_append, List.nil_append, List.getD_cons_zero, List.getD_cons_succ, Nat.mul_zero, Nat.zero_add, b2_val]
  omega
theorem byte1 (a b c : Nat) (R : List Bool) (_ha : a < 64) (_hb : b < 64) (_hc : c < 64) : byteAt (bitsOf a ++ (bitsOf b ++ (bitsOf c ++ R))) 1 = b % 16 * 16 + c / 4 := by
  unfold byteAt bitsOf
  simp only [List.cons_append, List.nil_append, List.getD_cons_zero, List.getD_cons_succ, Nat.mul_one, Nat.reduceAdd, b2_val]
  omega
theorem byte2 (a b c d : Nat) (R : List Bool) (ha : a < 64) (hb : b < 64) (hc : c < 64) (hd : d < 64) : byteAt (bitsOf a ++ (bitsOf b ++ (bitsOf c ++ (bitsOf d ++ R)))) 2 = c % 4 * 64 + d := by
  unfold byteAt bitsOf
  simp only [List.cons_append, List.nil_append, List.getD_cons_zero, List.getD_cons_succ, Nat.reduceMul, Nat.reduceAdd, b2_val]
  omega
theorem pack_d64 (N : List Nat) (h : ∀ n ∈ N, n < 64) : pack (allBits N) (6 * N.length / 8) = d64 N := by
  have H : ∀ (k : Nat) (N : List Nat), N.length ≤ k → (∀ n ∈ N, n < 64) → pack (allBits N) (6 * N.length / 8) = d64 N := by
    intro k
    induction k with
    | zero => intro N h _; obtain rfl : N = [] := List.eq_nil_of_length_eq_zero (by omega); rfl
    | succ k ih =>
      intro N hl h
      match N, hl, h with
      | [], _, _ => rfl
      | [a], _, _ => simp [pack, d64]
      | [a, b], _, h =>
        have ha := h a (by simp)
        have hb := h b (by simp)
        have e0 : 6 * [a, b].length / 8 = 1 := by simp
        have e : allBits [a, b] = bitsOf a ++ (bitsOf b ++ []) := by simp [allBits]
        rw [e, e0]
        simp only [pack, d64, List.range_succ, List.range_zero, List.nil_append, List.map_cons, List.map_nil]
        rw [byte0 a b _ ha hb]
      | [a, b, c], _, h =>
        have ha := h a (by simp)
        have hb := h b (by simp)
        have hc := h c (by simp)
        have e0 : 6 * [a, b, c].length / 8 = 2 := by simp
        have e : allBits [a, b, c] = bitsOf a ++ (bitsOf b ++ (bitsOf c ++ [])) := by simp [allBits]
        rw [e, e0]
        simp only [pack, d64, List.range_succ, List.range_zero, List.nil_append, List.cons_append, List.map_cons, List.map_nil]
        rw [byte0 a b _ ha hb, byte1 a b c _ ha hb hc]
      | a :: b :: c :: d :: t, hl, h =>
        have ha := h a (by simp)
        have hb := h b (by simp)
        have hc := h c (by simp)
        have hd := h d (by simp)
        have ht := ih t (by simp at hl; omega) (fun n hn => h n (by simp [hn]))
        have e : allBits (a :: b :: c :: d :: t) = (bitsOf a ++ (bitsOf b ++ (bitsOf c ++ bitsOf d))) ++ allBits t := by simp [allBits]
        have e2 : 6 * (a :: b :: c :: d :: t).length / 8 = 6 * t.length / 8 + 3 := by simp only [List.length_cons]; omega
        rw [e, e2, pack_shift _ _ _ rfl, ht, d64]
        have e3 : (bitsOf a ++ (bitsOf b ++ (bitsOf c ++ bitsOf d))) ++ allBits t = bitsOf a ++ (bitsOf b ++ (bitsOf c ++ (bitsOf d ++ allBits t))) := by simp
        rw [e3, byte0 a b _ ha hb, byte1 a b c _ ha hb hc, byte2 a b c d _ ha hb hc hd]
  exact H _ N (Nat.le_refl _) h
def nums (T : List UInt8) : List Nat := T.map fun c => (num c).toNat
theorem feed0 (X : List UInt8) (a : Nat) : feed (X, 0, 0) a = (X, a, 6) := by simp [feed]
theorem feed6 (X : List UInt8) (a b : Nat) : feed (X, a, 6) b = (X ++ [UInt8.ofNat (a * 4 + b / 16)], b % 16, 4) := by
  have e1 : (a * 64 + b) / 16 = a * 4 + b / 16 := by omega
  have e2 : (a * 64 + b) % 16 = b % 16 := by omega
  unfold feed
  simp only [show (6 : Nat) ≠ 0 by decide, if_false, show (2 : Nat) ^ (6 - 2) = 16 by decide, e1, e2]
theorem feed4 (X : List UInt8) (b c : Nat) : feed (X, b % 16, 4) c = (X ++ [UInt8.ofNat (b % 16 * 16 + c / 4)], c % 4, 2) := by
  have e1 : (b % 16 * 64 + c) / 4 = b % 16 * 16 + c / 4 := by omega
  have e2 : (b % 16 * 64 + c) % 4 = c % 4 := by omega
  unfold feed
  simp only [show (4 : Nat) ≠ 0 by decide, if_false, show (2 : Nat) ^ (4 - 2) = 4 by decide, e1, e2]
theorem feed2 (X : List UInt8) (c d : Nat) : feed (X, c % 4, 2) d = (X ++ [UInt8.ofNat (c % 4 * 64 + d)], 0, 0) := by
  unfold feed
  simp only [show (2 : Nat) ≠ 0 by decide, if_false, show (2 : Nat) ^ (2 - 2) = 1 by decide, Nat.div_one, Nat.mod_one]
theorem fold_d64 : ∀ (k : Nat) (N : List Nat) (X : List UInt8), N.length ≤ k → (N.foldl feed (X, 0, 0)).1 = X ++ d64 N := by
  intro k
  induction k with
  | zero => intro N X h; obtain rfl : N = [] := List.eq_nil_of_length_eq_zero (by omega); simp [d64]
  | succ k ih =>
    intro N X hl
    match N, hl with
    | [], _ => simp [d64]
    | [a], _ => simp only [List.foldl_cons, List.foldl_nil, feed0, d64, List.append_nil]
    | [a, b], _ => simp only [List.foldl_cons, List.foldl_nil, feed0, feed6, d64]
    | [a, b, c], _ => simp only [List.foldl_cons, List.foldl_nil, feed0, feed6, feed4, d64, List.append_assoc, List.cons_append, List.nil_append]
    | a :: b :: c :: d :: t, hl =>
      simp only [List.foldl_cons, feed0, feed6, feed4, feed2]
      rw [ih t _ (by simp at hl; omega)]
      simp only [d64, List.append_assoc, List.cons_append, List.nil_append]
theorem nums_lt (T : List UInt8) (h : ∀ c ∈ T, 0 ≤ num c) : ∀ n ∈ nums T, n < 64 := by
  intro n hn
  simp only [nums, List.mem_map] at hn
  obtain ⟨c, hc, rfl⟩ := hn
  have := num_range c
  have := h c hc
  omega
theorem pack_runs (T : List UInt8) (h : ∀ c ∈ T, 0 ≤ num c) : pack (allBits (nums T)) (6 * T.length / 8) = (runs T).1 := by
  have e := fold_d64 _ (nums T) [] (Nat.le_refl _)
  have e2 := pack_d64 (nums T) (nums_lt T h)
  rw [show (nums T).length = T.length by simp [nums]] at e2
  rw [e2]
  unfold runs
  rw [List.nil_append] at e
  rw [← e]
  unfold nums
  rw [List.foldl_map]
end Go.Proofs.Ytflklgcnjliipaa.B64P
