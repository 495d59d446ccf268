/- Answers: plain words: a number's bytes, the highest first; what is read of bytes. -/
import Derived.Test.YtafnekilnbhhlaaBase2
namespace Go.Proofs.Ytafnekilnbhhlaa.AnsP
open Go.RowKit Go.Proofs.Ytafnekilnbhhlaa.Base

/-- The m lowest bytes of n, the highest first. -/
def be (n : Nat) : Nat → List UInt8
  | 0 => []
  | m + 1 => UInt8.ofNat (n / 256 ^ m) :: be n m
def val (L : List UInt8) : Nat := L.foldl (fun n c => n * 256 + c.toNat) 0
theorem length_be (n m : Nat) : (be n m).length = m := by
  induction m with
  | zero => rfl
  | succ m ih => simp [be, ih]
theorem be_mod (n m k : Nat) (h : m ≤ k) : be (n % 256 ^ k) m = be n m := by
  induction m with
  | zero => rfl
  | succ m ih =>
    rw [be, be, ih (by omega)]
    congr 1
    have : n % 256 ^ k / 256 ^ m % 256 = n / 256 ^ m % 256 := by
      have e : 256 ^ k = 256 ^ m * (256 * 256 ^ (k - m - 1)) := by
        rw [← Nat.mul_assoc, ← Nat.pow_succ, ← Nat.pow_add]; congr 1; omega
      rw [e, Nat.mod_mul_right_div_self, Nat.mod_mul_right_mod]
    apply UInt8.toNat_inj.1
    simpa using this
theorem val_snoc (L : List UInt8) (c : UInt8) : val (L ++ [c]) = val L * 256 + c.toNat := by unfold val; rw [List.foldl_append]; rfl
theorem fold_from (L : List UInt8) (a : Nat) : L.foldl (fun n c => n * 256 + c.toNat) a = a * 256 ^ L.length + val L := by
  induction L generalizing a with
  | nil => simp [val]
  | cons c L ih =>
    have h0 : val (c :: L) = c.toNat * 256 ^ L.length + val L := by
      show L.foldl _ (0 * 256 + c.toNat) = _
      rw [ih]; simp
    rw [List.foldl_cons, ih, h0, List.length_cons, Nat.pow_succ, Nat.add_mul, Nat.add_assoc, Nat.mul_assoc, Nat.mul_comm 256]
theorem val_cons (c : UInt8) (L : List UInt8) : val (c :: L) = c.toNat * 256 ^ L.length + val L := by
  show L.foldl _ (0 * 256 + c.toNat) = _
  rw [fold_from]; simp
theorem val_lt (L : List UInt8) : val L < 256 ^ L.length := by
  induction L with
  | nil => simp [val]
  | cons c L ih =>
    rw [val_cons, List.length_cons, Nat.pow_succ]
    have := c.toNat_lt
    have h : (c.toNat + 1) * 256 ^ L.length ≤ 256 * 256 ^ L.length := Nat.mul_le_mul_right _ (by omega)
    rw [Nat.add_mul, Nat.one_mul] at h
    rw [Nat.mul_comm _ 256]
    omega
theorem val_be (n m : Nat) : val (be n m) = n % 256 ^ m := by
  induction m with
  | zero => simp [val, be, Nat.mod_one]
  | succ m ih =>
    have e : (UInt8.ofNat (n / 256 ^ m)).toNat = n / 256 ^ m % 256 := by simp
    rw [be, val_cons, ih, length_be, e, Nat.pow_succ, Nat.mod_mul, Nat.mul_comm, Nat.add_comm]
theorem be_val (L : List UInt8) : be (val L) L.length = L := by
  induction L with
  | nil => rfl
  | cons c L ih =>
    have h1 := val_lt L
    have hp : 0 < 256 ^ L.length := Nat.pow_pos (by omega)
    rw [List.length_cons, be, val_cons]
    congr 1
    · rw [Nat.add_comm, Nat.add_mul_div_right _ _ hp, Nat.div_eq_of_lt h1, Nat.zero_add]
      exact UInt8.toNat_inj.1 (by simp)
    · rw [← be_mod _ _ L.length (Nat.le_refl _), Nat.add_comm, Nat.add_mul_mod_self_right, Nat.mod_eq_of_lt h1, ih]
theorem be_inj {n k m : Nat} (hn : n < 256 ^ m) (hk : k < 256 ^ m) (h : be n m = be k m) : n = k := by
  have := congrArg val h
  rwa [val_be, val_be, Nat.mod_eq_of_lt hn, Nat.mod_eq_of_lt hk] at this
/-- A text's bytes behind their number. -/
def str (L : List UInt8) : List UInt8 := be L.length 4 ++ L
/-- What is read of m bytes ahead: the number, and what is left. -/
def rd (m : Nat) (L : List UInt8) : Option (Nat × List UInt8) := if m ≤ L.length then some (val (L.take m), L.drop m) else none
def txt (L : List UInt8) : Option (List UInt8 × List UInt8) := match rd 4 L with
  | none => none
  | some (n, r) => if n ≤ r.length then some (r.take n, r.drop n) else none
/-- An answer: its numbers (as many bits as they are written with), its kind and its body. -/
structure Ans where
  sort : Nat
  status : Nat
  first : Nat
  total : Nat
  kind : List UInt8
  body : List UInt8
def enc (a : Ans) : List UInt8 := be a.sort 1 ++ (be a.status 4 ++ (be a.first 8 ++ (be a.total 8 ++ (str a.kind ++ str a.body))))
def dec (L : List UInt8) : Option Ans :=
  match rd 1 L with
  | none => none
  | some (a, L1) => match rd 4 L1 with
    | none => none
    | some (b, L2) => match rd 8 L2 with
      | none => none
      | some (c, L3) => match rd 8 L3 with
        | none => none
        | some (d, L4) => match txt L4 with
          | none => none
          | some (k, L5) => match txt L5 with
            | none => none
            | some (x, L6) => if L6 = [] then some ⟨a, b, c, d, k, x⟩ else none
theorem rd_be (m n : Nat) (r : List UInt8) (h : n < 256 ^ m) : rd m (be n m ++ r) = some (n, r) := by
  unfold rd
  rw [if_pos (by rw [List.length_append, length_be]; omega), List.take_left' (length_be _ _), List.drop_left' (length_be _ _), val_be, Nat.mod_eq_of_lt h]
theorem txt_str (L r : List UInt8) (h : L.length < 4294967296) : txt (str L ++ r) = some (L, r) := by
  unfold txt str
  rw [List.append_assoc, rd_be _ _ _ (by simpa using h)]
  simp
structure Fits (a : Ans) : Prop where
  sort : a.sort < 256
  status : a.status < 4294967296
  first : a.first < 18446744073709551616
  total : a.total < 18446744073709551616
  kind : a.kind.length < 4294967296
  body : a.body.length < 4294967296
theorem dec_enc_more (a : Ans) (h : Fits a) (r : List UInt8) : dec (enc a ++ r) = if r = [] then some a else none := by
  unfold dec enc
  rw [List.append_assoc, rd_be _ _ _ (by simpa using h.sort)]
  simp only
  rw [List.append_assoc, rd_be _ _ _ (by simpa using h.status)]
  simp only
  rw [List.append_assoc, rd_be _ _ _ (by simpa using h.first)]
  simp only
  rw [List.append_assoc, rd_be _ _ _ (by simpa using h.total)]
  simp only
  rw [List.append_assoc, txt_str _ _ h.kind]
  simp only
  rw [txt_str _ _ h.body]
theorem dec_enc (a : Ans) (h : Fits a) : dec (enc a) = some a := by
  have := dec_enc_more a h []
  rw [List.append_nil] at this
  rw [this, if_pos rfl]
theorem rd_some {m n : Nat} {L r : List UInt8} (h : rd m L = some (n, r)) : L = be n m ++ r ∧ n < 256 ^ m := by
  unfold rd at h
  split at h
  · rename_i hm
    injection h with h
    injection h with h1 h2
    subst h1 h2
    have hl : (L.take m).length = m := by rw [List.length_take]; omega
    have := be_val (L.take m)
    rw [hl] at this
    rw [this, List.take_append_drop]
    refine ⟨rfl, ?_⟩
    have := val_lt (L.take m)
    rwa [hl] at this
  · cases h
theorem txt_some {L k r : List UInt8} (h : txt L = some (k, r)) : L = str k ++ r ∧ k.length < 4294967296 := by
  unfold txt at h
  split at h
  · cases h
  · rename_i n r' hr
    obtain ⟨rfl, hn⟩ := rd_some hr
    split at h
    · rename_i hle
      injection h with h
      injection h with h1 h2
      subst h1 h2
      have hl : (r'.take n).length = n := by rw [List.length_take]; omega
      unfold str
      rw [hl, List.append_assoc, List.take_append_drop]
      exact ⟨rfl, by simpa using hn⟩
    · cases h
theorem dec_some {L : List UInt8} {a : Ans} (h : dec L = some a) : L = enc a ∧ Fits a := by
  unfold dec at h
  split at h
  · cases h
  · rename_i n1 L1 h1
    split at h
    · cases h
    · rename_i n2 L2 h2
      split at h
      · cases h
      · rename_i n3 L3 h3
        split at h
        · cases h
        · rename_i n4 L4 h4
          split at h
          · cases h
          · rename_i k L5 h5
            split at h
            · cases h
            · rename_i x L6 h6
              split at h
              · rename_i hn
                injection h with h
                subst h hn
                obtain ⟨rfl, b1⟩ := rd_some h1
                obtain ⟨rfl, b2⟩ := rd_some h2
                obtain ⟨rfl, b3⟩ := rd_some h3
                obtain ⟨rfl, b4⟩ := rd_some h4
                obtain ⟨rfl, b5⟩ := txt_some h5
                obtain ⟨rfl, b6⟩ := txt_some h6
                exact ⟨by simp [enc], ⟨by simpa using b1, by simpa using b2, by simpa using b3, by simpa using b4, b5, b6⟩⟩
              · cases h
theorem length_enc (a : Ans) : (enc a).length = 29 + a.kind.length + a.body.length := by
  unfold enc str
  simp only [List.length_append, length_be]
  omega
/-- What is cut off an answer's bytes is none. -/
theorem dec_cut (a : Ans) (h : Fits a) (n : Nat) (hn : n < (enc a).length) : dec ((enc a).take n) = none := by
  cases e : dec ((enc a).take n) with
  | none => rfl
  | some b =>
    obtain ⟨h1, h2⟩ := dec_some e
    have h3 : enc a = enc b ++ (enc a).drop n := by rw [← h1, List.take_append_drop]
    have h4 := dec_enc_more b h2 ((enc a).drop n)
    rw [← h3, dec_enc a h, if_neg (by
      intro h
      have := congrArg List.length h
      simp at this
      omega)] at h4
    cases h4
end Go.Proofs.Ytafnekilnbhhlaa.AnsP
