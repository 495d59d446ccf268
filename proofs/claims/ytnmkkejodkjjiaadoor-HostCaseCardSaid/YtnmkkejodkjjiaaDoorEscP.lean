/- Plain facts on escape: what is escaped is meant as it was; parts. -/
import Derived.Test.YtnmkkejodkjjiaaDoorEscF
namespace Go.Proofs.YtnmkkejodkjjiaaDoor.EscP
open Go.RowKit Go.Proofs.YtnmkkejodkjjiaaDoor.Base Go.Proofs.YtnmkkejodkjjiaaDoor.EscI Go.Proofs.YtnmkkejodkjjiaaDoor.EscE Go.Proofs.YtnmkkejodkjjiaaDoor.EscD Go.Proofs.YtnmkkejodkjjiaaDoor.UtfA

theorem dig_hex (n : Nat) (h : n < 16) : hex (EscE.dig n).toNat = n := by
  have H : ∀ k : Fin 16, hex ((EscE.dig k.val).toNat : Int) = (k.val : Int) := by decide
  exact H ⟨n, h⟩
theorem dig_out (k : Int) (hk : k ≠ 6) (n : Nat) (h : n < 16) : inS k (EscE.dig n).toNat = false := by
  by_cases ho : k < 0 ∨ 6 < k
  · exact inS_out k _ ho
  · have H : ∀ (a : Fin 6) (b : Fin 16), inS (a.val : Int) ((EscE.dig b.val).toNat : Int) = false := by decide
    have := H ⟨k.toNat, by omega⟩ ⟨n, h⟩
    simpa [Int.toNat_of_nonneg (show 0 ≤ k by omega)] using this
theorem pct_out (k : Int) (hk : k ≠ 6) : inS k ((37 : UInt8).toNat : Int) = false := by
  by_cases ho : k < 0 ∨ 6 < k
  · exact inS_out k _ ho
  · have H : ∀ (a : Fin 6), inS (a.val : Int) ((37 : UInt8).toNat : Int) = false := by decide
    have := H ⟨k.toNat, by omega⟩
    simpa [Int.toNat_of_nonneg (show 0 ≤ k by omega)] using this
theorem enc_cons (k : Int) (c : UInt8) (L : List UInt8) : enc k (c :: L) = one k c ++ enc k L := by simp [enc]
theorem enc_app (k : Int) (a b : List UInt8) : enc k (a ++ b) = enc k a ++ enc k b := by simp [enc]
theorem enc_fix (k : Int) (L : List UInt8) (h : ∀ c ∈ L, inS k c.toNat = false) : enc k L = L := by
  induction L with
  | nil => rfl
  | cons c L ih =>
    rw [enc_cons, ih (fun d hd => h d (by simp [hd]))]
    unfold one
    rw [h c (by simp)]
    rfl
theorem one_out (k : Int) (hk : k ≠ 6) (c : UInt8) : ∀ d ∈ one k c, inS k d.toNat = false := by
  intro d hd
  have hc := c.toNat_lt
  unfold one at hd
  split at hd
  · simp only [List.mem_cons, List.not_mem_nil, or_false] at hd
    rcases hd with rfl | rfl | rfl
    · exact pct_out k hk
    · exact dig_out k hk _ (by omega)
    · exact dig_out k hk _ (by omega)
  · rename_i hn
    simp only [List.mem_cons, List.not_mem_nil, or_false] at hd
    subst hd
    simpa using hn
theorem enc_enc (k : Int) (hk : k ≠ 6) (L : List UInt8) : enc k (enc k L) = enc k L := by
  refine enc_fix k _ fun d hd => ?_
  simp only [enc, List.mem_flatMap] at hd
  obtain ⟨c, _, hd⟩ := hd
  exact one_out k hk c d hd
theorem esc_one (c : UInt8) (rest : List UInt8) : esc (37 :: EscE.dig (c.toNat / 16) :: EscE.dig (c.toNat % 16) :: rest) = some c := by
  have hc := c.toNat_lt
  have h1 := dig_hex (c.toNat / 16) (by omega)
  have h2 := dig_hex (c.toNat % 16) (by omega)
  rw [esc, if_pos ⟨rfl, by rw [h1]; omega, by rw [h2]; omega⟩, h1, h2]
  congr 1
  apply UInt8.toNat_inj.1
  simp
  omega
theorem esc_not (x : UInt8) (t : List UInt8) (h : x ≠ 37) : esc (x :: t) = none := by
  match t with
  | [] => rfl
  | [_] => rfl
  | _ :: _ :: _ => rw [esc, if_neg (fun e => h e.1)]
theorem dec_enc (k : Int) (L : List UInt8) (h : k = 6 ∨ ∀ c ∈ L, c ≠ 37) : dec (enc k L) = L := by
  induction L with
  | nil => rfl
  | cons c L ih =>
    have ih' := ih (by
      rcases h with h | h
      · exact .inl h
      · exact .inr fun d hd => h d (by simp [hd]))
    rw [enc_cons]
    unfold one
    split
    · rw [List.cons_append, List.cons_append, List.cons_append, List.nil_append, dec_some _ _ _ (esc_one c _)]
      simp only [List.drop_succ_cons, List.drop_zero, ih']
    · rename_i hn
      have hne : c ≠ 37 := by
        rintro rfl
        rcases h with rfl | h
        · exact hn (by decide)
        · exact h 37 (by simp) rfl
      rw [List.cons_append, List.nil_append, dec_none _ _ (esc_not c _ hne), ih']
/-- Neither the last byte nor the one ahead of it is a percent sign. -/
def EndOk (a : List UInt8) : Prop := ∀ j (h : j < a.length), a.length ≤ j + 2 → a[j] ≠ 37
theorem dec_app : ∀ (n : Nat) (a b : List UInt8), a.length ≤ n → EndOk a → dec (a ++ b) = dec a ++ dec b
  | _, [], b, _, _ => rfl
  | 0, _ :: _, _, h, _ => by simp at h
  | n + 1, x :: t, b, hl, he => by
    simp only [List.length_cons] at hl
    cases hesc : esc (x :: t) with
    | some c =>
      have h2 : 2 ≤ t.length := by
        match t, hesc with
        | [], h => simp [esc] at h
        | [_], h => simp [esc] at h
        | _ :: _ :: _, _ => simp
      have he2 : esc (x :: (t ++ b)) = some c := by
        match t, h2, hesc with
        | y :: z :: t, _, h =>
          rw [esc] at h
          rw [List.cons_append, List.cons_append, esc]
          exact h
      rw [List.cons_append, dec_some _ _ _ he2, dec_some _ _ _ hesc, List.cons_append]
      rw [show (t ++ b).drop 2 = t.drop 2 ++ b from List.drop_append_of_le_length h2]
      rw [dec_app n (t.drop 2) b (by simp; omega) (fun j hj hj2 => by
        have h3 : j + 3 < (x :: t).length := by simp at hj ⊢; omega
        have := he (j + 3) h3 (by simp at hj2 ⊢; omega)
        simpa [Nat.add_comm] using this)]
    | none =>
      have he2 : esc (x :: (t ++ b)) = none := by
        by_cases hx : x = 37
        · subst hx
          match t, hesc, he with
          | [], _, he => exact absurd rfl (he 0 (by simp) (by simp))
          | [_], _, he => exact absurd rfl (he 0 (by simp) (by simp))
          | y :: z :: t, h, _ =>
            rw [esc] at h
            rw [List.cons_append, List.cons_append, esc]
            exact h
        · exact esc_not x _ hx
      rw [List.cons_append, dec_none _ _ he2, dec_none _ _ hesc, List.cons_append]
      rw [dec_app n t b (by omega) (fun j hj hj2 => by
        have h3 : j + 1 < (x :: t).length := by simp; omega
        have := he (j + 1) h3 (by simp; omega)
        simpa using this)]
end Go.Proofs.YtnmkkejodkjjiaaDoor.EscP
