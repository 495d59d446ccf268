/- Plain facts on utf: what is written is read, what is read whole is written as it was. -/
import Derived.Test.YtleecmapaihhmaaDoorUtfD
import Derived.Test.YtleecmapaihhmaaDoorUtfE
set_option linter.unusedSimpArgs false
set_option linter.unusedVariables false
namespace Go.Proofs.YtleecmapaihhmaaDoor.UtfP
open Go.RowKit Go.Proofs.YtleecmapaihhmaaDoor.Base Go.Proofs.YtleecmapaihhmaaDoor.UtfR Go.Proofs.YtleecmapaihhmaaDoor.UtfE

/-- Is a number a character? -/
def Chr (r : Int) : Prop := 0 ≤ r ∧ r ≤ 1114111 ∧ ¬ (55296 ≤ r ∧ r ≤ 57343)
instance (r : Int) : Decidable (Chr r) := by unfold Chr; exact inferInstance
def u (x : Int) : UInt8 := x.toNat.toUInt8
theorem u_nat (x : Int) (h0 : 0 ≤ x) (h1 : x ≤ 255) : ((u x).toNat : Int) = x := by
  unfold u
  simp
  omega
theorem run_map (l : List Int) : (l.map fun x => x.toNat.toUInt8) = l.map u := rfl
theorem enc1 (r : Int) (h0 : 0 ≤ r) (h1 : r ≤ 127) : Lib.encodeRune r = [u r] := by unfold Lib.encodeRune; rw [Lib.encodeRuneZ_one h0 h1]; rfl
theorem enc2 (r : Int) (h0 : 128 ≤ r) (h1 : r ≤ 2047) : Lib.encodeRune r = [u (192 + r / 64), u (128 + r % 64)] := by unfold Lib.encodeRune; rw [Lib.encodeRuneZ_two h0 h1]; rfl
theorem enc3 (r : Int) (h : (2048 ≤ r ∧ r < 55296) ∨ (57343 < r ∧ r ≤ 65535)) : Lib.encodeRune r = [u (224 + r / 4096), u (128 + r / 64 % 64), u (128 + r % 64)] := by unfold Lib.encodeRune; rw [Lib.encodeRuneZ_three h]; rfl
theorem enc4 (r : Int) (h0 : 65536 ≤ r) (h1 : r ≤ 1114111) : Lib.encodeRune r = [u (240 + r / 262144), u (128 + r / 4096 % 64), u (128 + r / 64 % 64), u (128 + r % 64)] := by unfold Lib.encodeRune; rw [Lib.encodeRuneZ_four h0 h1]; rfl
theorem encBad (r : Int) (h : ¬ Chr r) : Lib.encodeRune r = Lib.encodeRune 65533 := by
  unfold Lib.encodeRune
  rw [Lib.encodeRuneZ_bad (by unfold Chr at h; omega), Lib.encodeRuneZ_three (r := 65533) (by omega)]
  rfl
/-- A character's bytes, whatever stands behind, are read as it, whole. -/
theorem rd_enc (r : Int) (h : Chr r) (t : List UInt8) : rd (Lib.encodeRune r ++ t) = (r, ((Lib.encodeRune r).length : Int), true) := by
  obtain ⟨h0, h1, h2⟩ := h
  by_cases a : r ≤ 127
  · rw [enc1 r h0 a]
    simp only [List.cons_append, List.nil_append, rd, u_nat r h0 (by omega)]
    rw [if_pos a]
    rfl
  by_cases b : r ≤ 2047
  · rw [enc2 r (by omega) b]
    have e1 := u_nat (192 + r / 64) (by omega) (by omega)
    have e2 := u_nat (128 + r % 64) (by omega) (by omega)
    simp only [List.cons_append, List.nil_append, rd, e1]
    rw [if_neg (by omega), if_neg (by omega), if_pos (by omega), tail, e2, if_neg (by unfold lo hi; (repeat' split) <;> omega), tail]
    refine Prod.ext ?_ rfl
    simp only
    omega
  by_cases c : r ≤ 65535
  · rw [enc3 r (by omega)]
    have e1 := u_nat (224 + r / 4096) (by omega) (by omega)
    have e2 := u_nat (128 + r / 64 % 64) (by omega) (by omega)
    have e3 := u_nat (128 + r % 64) (by omega) (by omega)
    simp only [List.cons_append, List.nil_append, rd, e1]
    rw [if_neg (by omega), if_neg (by omega), if_neg (by omega), if_pos (by omega), tail, e2, if_neg (by unfold lo hi; (repeat' split) <;> omega), tail, e3, if_neg (by omega), tail]
    refine Prod.ext ?_ rfl
    simp only
    omega
  · rw [enc4 r (by omega) h1]
    have e1 := u_nat (240 + r / 262144) (by omega) (by omega)
    have e2 := u_nat (128 + r / 4096 % 64) (by omega) (by omega)
    have e3 := u_nat (128 + r / 64 % 64) (by omega) (by omega)
    have e4 := u_nat (128 + r % 64) (by omega) (by omega)
    simp only [List.cons_append, List.nil_append, rd, e1]
    rw [if_neg (by omega), if_neg (by omega), if_neg (by omega), if_neg (by omega), tail, e2, if_neg (by unfold lo hi; (repeat' split) <;> omega), tail, e3, if_neg (by omega), tail, e4, if_neg (by omega), tail]
    refine Prod.ext ?_ rfl
    simp only
    omega
theorem u_of (c : UInt8) : u (c.toNat : Int) = c := by unfold u; simp
theorem u_eq (x : Int) (c : UInt8) (h : x = (c.toNat : Int)) : u x = c := by rw [h, u_of]
/-- What is read whole is a character, and its bytes are those that were taken; what is read otherwise is FFFD. -/
theorem rd_whole (x : UInt8) (t : List UInt8) :
    ((rd (x :: t)).2.2 = true → Chr (rd (x :: t)).1 ∧ Lib.encodeRune (rd (x :: t)).1 = (x :: t).take (rd (x :: t)).2.1.toNat) ∧ ((rd (x :: t)).2.2 = false → (rd (x :: t)).1 = 65533) := by
  have hx : (x.toNat : Int) < 256 := by have := x.toNat_lt; omega
  simp only [rd]
  by_cases a : (x.toNat : Int) ≤ 127
  · rw [if_pos a]
    refine ⟨fun _ => ⟨by unfold Chr; simp only; omega, ?_⟩, fun h => by cases h⟩
    simp only
    rw [enc1 _ (by omega) a, u_of]
    rfl
  rw [if_neg a]
  by_cases b : (x.toNat : Int) ≤ 193 ∨ 245 ≤ (x.toNat : Int)
  · rw [if_pos b]
    exact ⟨(fun h => by cases h), fun _ => rfl⟩
  rw [if_neg b]
  by_cases c2 : (x.toNat : Int) ≤ 223
  · rw [if_pos c2]
    have el : lo x.toNat = 128 := by unfold lo; (repeat' split) <;> omega
    have eh : hi x.toNat = 191 := by unfold hi; (repeat' split) <;> omega
    match t with
    | [] => simp [tail]
    | y :: t =>
      have hy : (y.toNat : Int) < 256 := by have := y.toNat_lt; omega
      rw [tail, el, eh]
      by_cases d : (y.toNat : Int) < 128 ∨ 191 < (y.toNat : Int)
      · rw [if_pos d]; exact ⟨(fun h => by cases h), fun _ => rfl⟩
      · rw [if_neg d, tail]
        refine ⟨fun _ => ⟨by unfold Chr; simp only; omega, ?_⟩, fun h => by cases h⟩
        simp only
        rw [enc2 _ (by omega) (by omega), u_eq _ x (by omega), u_eq _ y (by omega)]
        rfl
  rw [if_neg c2]
  by_cases c3 : (x.toNat : Int) ≤ 239
  · rw [if_pos c3]
    match t with
    | [] => simp [tail]
    | y :: t =>
      have hy : (y.toNat : Int) < 256 := by have := y.toNat_lt; omega
      rw [tail]
      by_cases d : (y.toNat : Int) < lo x.toNat ∨ hi x.toNat < (y.toNat : Int)
      · rw [if_pos d]; exact ⟨(fun h => by cases h), fun _ => rfl⟩
      · rw [if_neg d]
        have hd : 128 ≤ (y.toNat : Int) ∧ (y.toNat : Int) ≤ 191 ∧ ((x.toNat : Int) = 224 → 160 ≤ (y.toNat : Int)) ∧ ((x.toNat : Int) = 237 → (y.toNat : Int) ≤ 159) := by
          unfold lo hi at d
          (repeat' split at d) <;> omega
        match t with
        | [] => simp [tail]
        | z :: t =>
          have hz : (z.toNat : Int) < 256 := by have := z.toNat_lt; omega
          rw [tail]
          by_cases f : (z.toNat : Int) < 128 ∨ 191 < (z.toNat : Int)
          · rw [if_pos f]; exact ⟨(fun h => by cases h), fun _ => rfl⟩
          · rw [if_neg f, tail]
            refine ⟨fun _ => ⟨by unfold Chr; simp only; omega, ?_⟩, fun h => by cases h⟩
            simp only
            rw [enc3 _ (by omega), u_eq _ x (by omega), u_eq _ y (by omega), u_eq _ z (by omega)]
            rfl
  · rw [if_neg c3]
    match t with
    | [] => simp [tail]
    | y :: t =>
      have hy : (y.toNat : Int) < 256 := by have := y.toNat_lt; omega
      rw [tail]
      by_cases d : (y.toNat : Int) < lo x.toNat ∨ hi x.toNat < (y.toNat : Int)
      · rw [if_pos d]; exact ⟨(fun h => by cases h), fun _ => rfl⟩
      · rw [if_neg d]
        have hd : 128 ≤ (y.toNat : Int) ∧ (y.toNat : Int) ≤ 191 ∧ ((x.toNat : Int) = 240 → 144 ≤ (y.toNat : Int)) ∧ ((x.toNat : Int) = 244 → (y.toNat : Int) ≤ 143) := by
          unfold lo hi at d
          (repeat' split at d) <;> omega
        match t with
        | [] => simp [tail]
        | z :: t =>
          have hz : (z.toNat : Int) < 256 := by have := z.toNat_lt; omega
          rw [tail]
          by_cases f : (z.toNat : Int) < 128 ∨ 191 < (z.toNat : Int)
          · rw [if_pos f]; exact ⟨(fun h => by cases h), fun _ => rfl⟩
          · rw [if_neg f]
            match t with
            | [] => simp [tail]
            | v :: t =>
              have hv : (v.toNat : Int) < 256 := by have := v.toNat_lt; omega
              rw [tail]
              by_cases g : (v.toNat : Int) < 128 ∨ 191 < (v.toNat : Int)
              · rw [if_pos g]; exact ⟨(fun h => by cases h), fun _ => rfl⟩
              · rw [if_neg g, tail]
                refine ⟨fun _ => ⟨by unfold Chr; simp only; omega, ?_⟩, fun h => by cases h⟩
                simp only
                rw [enc4 _ (by omega) (by omega), u_eq _ x (by omega), u_eq _ y (by omega), u_eq _ z (by omega), u_eq _ v (by omega)]
                rfl
theorem dec_ne (L : List UInt8) (h : L ≠ []) : dec L = (rd L).1 :: dec (L.drop (rd L).2.1.toNat) := by
  cases L with
  | nil => exact absurd rfl h
  | cons x t => exact dec_cons x t
theorem val_ne (L : List UInt8) (h : L ≠ []) : val L = ((rd L).2.2 && val (L.drop (rd L).2.1.toNat)) := by
  cases L with
  | nil => exact absurd rfl h
  | cons x t => exact val_cons x t
theorem enc_ne (r : Int) (t : List UInt8) : Lib.encodeRune r ++ t ≠ [] := by
  intro h
  have := rune_len r
  have e := congrArg List.length h
  simp at e
  rw [e.1] at this
  simp at this
theorem enc_cons (r : Int) (l : List Int) : enc (r :: l) = Lib.encodeRune r ++ enc l := by simp [enc]
theorem dec_enc (l : List Int) (b : List UInt8) (h : ∀ r ∈ l, Chr r) : dec (enc l ++ b) = l ++ dec b ∧ val (enc l ++ b) = val b := by
  induction l with
  | nil => exact ⟨rfl, rfl⟩
  | cons r l ih =>
    have hr := rd_enc r (h r (by simp)) (enc l ++ b)
    have hi := ih (fun r hr => h r (by simp [hr]))
    rw [enc_cons, List.append_assoc]
    constructor
    · rw [dec_ne _ (enc_ne r _), hr]
      simp only [Int.toNat_natCast, List.drop_left, hi.1, List.cons_append]
    · rw [val_ne _ (enc_ne r _), hr]
      simp only [Int.toNat_natCast, List.drop_left, hi.2, Bool.true_and]
theorem chr_bad : Chr 65533 := by decide
theorem chr_dec : ∀ (n : Nat) (L : List UInt8), L.length ≤ n → ∀ r ∈ dec L, Chr r
  | _, [], _, r, h => by simp [dec_nil] at h
  | 0, _ :: _, h, _, _ => by simp at h
  | n + 1, x :: t, hl, r, h => by
    have hs := rd_size x t
    rw [dec_cons, List.mem_cons] at h
    rcases h with rfl | h
    · cases hw : (rd (x :: t)).2.2
      · rw [(rd_whole x t).2 hw]; exact chr_bad
      · exact ((rd_whole x t).1 hw).1
    · exact chr_dec n _ (by simp only [List.length_drop, List.length_cons] at hl ⊢; omega) r h
theorem dec_chr (L : List UInt8) : ∀ r ∈ dec L, Chr r := chr_dec _ L (Nat.le_refl _)
theorem val_yes : ∀ (n : Nat) (L : List UInt8), L.length ≤ n → val L = true → enc (dec L) = L
  | _, [], _, _ => rfl
  | 0, _ :: _, h, _ => by simp at h
  | n + 1, x :: t, hl, h => by
    have hs := rd_size x t
    rw [val_cons, Bool.and_eq_true] at h
    rw [dec_cons, enc_cons, val_yes n _ (by simp only [List.length_drop, List.length_cons] at hl ⊢; omega) h.2, ((rd_whole x t).1 h.1).2, List.take_append_drop]
theorem val_iff (L : List UInt8) : val L = decide (enc (dec L) = L) := by
  rw [Bool.eq_iff_iff, decide_eq_true_iff]
  constructor
  · exact val_yes _ L (Nat.le_refl _)
  · intro h
    have := (dec_enc (dec L) [] (dec_chr L)).2
    rw [List.append_nil, h] at this
    rw [this]
    rfl
def norm (l : List Int) : List Int := l.map fun r => if Chr r then r else 65533
theorem norm_chr (l : List Int) : ∀ r ∈ norm l, Chr r := by
  intro r h
  simp only [norm, List.mem_map] at h
  obtain ⟨x, _, rfl⟩ := h
  split
  · assumption
  · exact chr_bad
theorem enc_norm (l : List Int) : enc (norm l) = enc l := by
  induction l with
  | nil => rfl
  | cons r l ih =>
    have e : norm (r :: l) = (if Chr r then r else 65533) :: norm l := rfl
    rw [e, enc_cons, enc_cons, ih]
    split
    · rfl
    · rw [encBad r (by assumption)]
theorem dec_all (l : List Int) : dec (enc l) = norm l ∧ val (enc l) = true := by
  have h := dec_enc (norm l) [] (norm_chr l)
  rw [List.append_nil, enc_norm] at h
  exact ⟨by rw [h.1, dec_nil, List.append_nil], by rw [h.2]; rfl⟩
theorem dec_join (a b : List UInt8) (h : val a = true) : dec (a ++ b) = dec a ++ dec b := by
  have e := val_yes _ a (Nat.le_refl _) h
  have := (dec_enc (dec a) b (dec_chr a)).1
  rw [e] at this
  exact this
theorem chr_rune (r : Int) (h : Chr r) : Rune r := by unfold Chr at h; unfold Rune; omega
/-- One less of a character's bytes is nothing, or read as FFFD alone. -/
theorem dec_short (r : Int) (h : Chr r) : (Lib.encodeRune r).length = 1 ∧ dec (Lib.encodeRune r).dropLast = [] ∨ 1 < (Lib.encodeRune r).length ∧ dec (Lib.encodeRune r).dropLast = [65533] := by
  obtain ⟨h0, h1, h2⟩ := h
  by_cases a : r ≤ 127
  · rw [enc1 r h0 a]
    exact .inl ⟨rfl, rfl⟩
  by_cases b : r ≤ 2047
  · rw [enc2 r (by omega) b]
    have e1 := u_nat (192 + r / 64) (by omega) (by omega)
    refine .inr ⟨by simp, ?_⟩
    simp only [List.dropLast]
    have hr : rd [u (192 + r / 64)] = (65533, 1, false) := by
      simp only [rd, e1]
      rw [if_neg (by omega), if_neg (by omega), if_pos (by omega)]
      rfl
    rw [dec_cons, hr]
    rfl
  by_cases c : r ≤ 65535
  · rw [enc3 r (by omega)]
    have e1 := u_nat (224 + r / 4096) (by omega) (by omega)
    have e2 := u_nat (128 + r / 64 % 64) (by omega) (by omega)
    refine .inr ⟨by simp, ?_⟩
    simp only [List.dropLast]
    have hr : rd [u (224 + r / 4096), u (128 + r / 64 % 64)] = (65533, 2, false) := by
      simp only [rd, e1]
      rw [if_neg (by omega), if_neg (by omega), if_neg (by omega), if_pos (by omega), tail, e2, if_neg (by unfold lo hi; (repeat' split) <;> omega)]
      rfl
    rw [dec_cons, hr]
    rfl
  · rw [enc4 r (by omega) h1]
    have e1 := u_nat (240 + r / 262144) (by omega) (by omega)
    have e2 := u_nat (128 + r / 4096 % 64) (by omega) (by omega)
    have e3 := u_nat (128 + r / 64 % 64) (by omega) (by omega)
    refine .inr ⟨by simp, ?_⟩
    simp only [List.dropLast]
    have hr : rd [u (240 + r / 262144), u (128 + r / 4096 % 64), u (128 + r / 64 % 64)] = (65533, 3, false) := by
      simp only [rd, e1]
      rw [if_neg (by omega), if_neg (by omega), if_neg (by omega), if_neg (by omega), tail, e2, if_neg (by unfold lo hi; (repeat' split) <;> omega), tail, e3, if_neg (by omega)]
      rfl
    rw [dec_cons, hr]
    rfl
end Go.Proofs.YtleecmapaihhmaaDoor.UtfP
