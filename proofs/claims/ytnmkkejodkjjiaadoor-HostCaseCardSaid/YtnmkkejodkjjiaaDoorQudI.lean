/- IPv4 addresses, plain: what is printed is read as it was. -/
import Derived.Test.YtnmkkejodkjjiaaDoorQudH
namespace Go.Proofs.YtnmkkejodkjjiaaDoor.QudI
open Go.RowKit Go.Proofs.YtnmkkejodkjjiaaDoor.Base Go.Proofs.YtnmkkejodkjjiaaDoor.UtfA Go.Proofs.YtnmkkejodkjjiaaDoor.QudP Go.Proofs.YtnmkkejodkjjiaaDoor.QudE Go.Proofs.YtnmkkejodkjjiaaDoor.QudG

theorem val_app (b : Nat) (L : List UInt8) (c : UInt8) : val b (L ++ [c]) = val b L * b + dv c := val_snoc b L c
theorem dig_dec (d : Nat) (h : d < 10) : dv (UInt8.ofNat (48 + d)) = d ∧ isD 10 (UInt8.ofNat (48 + d)) = true := by
  have H : ∀ d : Fin 10, dv (UInt8.ofNat (48 + d.val)) = d.val ∧ isD 10 (UInt8.ofNat (48 + d.val)) = true := by decide +kernel
  exact H ⟨d, h⟩
theorem isD_dot (b : Nat) (c : UInt8) (h : isD b c = true) : c ≠ 46 := by
  rintro rfl
  unfold isD at h
  rw [Bool.and_eq_true] at h
  exact absurd (of_decide_eq_true h.1) (by decide)
theorem digs_dot (b : Nat) (L : List UInt8) (h : digs b L = true) : ∀ c ∈ L, c ≠ 46 := fun c hc => isD_dot b c (List.all_eq_true.1 h c hc)
theorem dec_val : ∀ (N n : Nat), n < N → val 10 (Lib.decDigits n) = n ∧ digs 10 (Lib.decDigits n) = true
  | 0, n, h => absurd h (by omega)
  | N + 1, n, hN => by
    rw [Lib.decDigits]
    split
    · rename_i h
      obtain ⟨h1, h2⟩ := dig_dec n h
      refine ⟨?_, ?_⟩
      · show 0 * 10 + dv (UInt8.ofNat (48 + n)) = n
        rw [h1]; omega
      · show (isD 10 (UInt8.ofNat (48 + n)) && true) = true
        rw [h2]; rfl
    · obtain ⟨h1, h2⟩ := dig_dec (n % 10) (by omega)
      obtain ⟨i1, i2⟩ := dec_val N (n / 10) (by omega)
      refine ⟨by rw [val_snoc, i1, h1]; omega, ?_⟩
      unfold digs at i2 ⊢
      rw [List.all_append, i2, List.all_cons, h2]
      rfl
theorem dec_head : ∀ (N n : Nat), n < N → 0 < n → (Lib.decDigits n).head? ≠ some 48 ∧ Lib.decDigits n ≠ []
  | 0, n, h, _ => absurd h (by omega)
  | N + 1, n, hN, h0 => by
    rw [Lib.decDigits]
    split
    · rename_i h
      refine ⟨?_, by simp⟩
      have H : ∀ d : Fin 10, 0 < d.val → UInt8.ofNat (48 + d.val) ≠ 48 := by decide +kernel
      simpa using H ⟨n, h⟩ h0
    · obtain ⟨i1, i2⟩ := dec_head N (n / 10) (by omega) (by omega)
      refine ⟨?_, by simp⟩
      cases hL : Lib.decDigits (n / 10) with
      | nil => exact absurd hL i2
      | cons a r =>
        rw [hL] at i1
        exact i1
theorem dec_ne (n : Nat) : Lib.decDigits n ≠ [] := by
  rw [Lib.decDigits]
  split <;> simp
theorem shp_dec (n : Nat) : shp (Lib.decDigits n) = (10, Lib.decDigits n) := by
  by_cases h : n < 10
  · rw [Lib.decDigits, dif_pos h]
    rfl
  · obtain ⟨h1, h2⟩ := dec_head (n + 1) n (by omega) (by omega)
    match hL : Lib.decDigits n with
    | [] => exact absurd hL h2
    | [a] => rfl
    | a :: x :: r =>
      rw [hL] at h1
      have ha : a ≠ 48 := by simpa using h1
      unfold shp
      simp only
      rw [if_neg ha]
theorem num_dec (n : Nat) : num (Lib.decDigits n) = some n := by
  obtain ⟨h1, h2⟩ := dec_val (n + 1) n (by omega)
  unfold num
  rw [if_neg (dec_ne n), shp_dec]
  simp only
  rw [if_pos h2, h1]
theorem nodot : ∀ M : List UInt8, (∀ c ∈ M, c ≠ 46) → splt M = [M]
  | [], _ => rfl
  | c :: M, h => by rw [splt, if_neg (h c (by simp)), nodot M fun d hd => h d (by simp [hd])]
theorem splt_dot : ∀ (A M : List UInt8), (∀ c ∈ A, c ≠ 46) → splt (A ++ 46 :: M) = A :: splt M
  | [], M, _ => by rw [List.nil_append, splt, if_pos rfl]
  | c :: A, M, h => by rw [List.cons_append, splt, if_neg (h c (by simp)), splt_dot A M fun d hd => h d (by simp [hd])]
theorem dec_dot (n : Nat) : ∀ c ∈ Lib.decDigits n, c ≠ 46 := digs_dot 10 _ (dec_val (n + 1) n (by omega)).2
/-- What ends in a part without a point isn't cut. -/
theorem unp_part (A M : List UInt8) (hM : M ≠ []) (h : ∀ c ∈ M, c ≠ 46) : unp (A ++ M) = A ++ M := by
  rcases List.eq_nil_or_concat M with rfl | ⟨M', d, rfl⟩
  · exact absurd rfl hM
  · rw [List.concat_eq_append] at h ⊢
    rw [← List.append_assoc]
    exact unp_other _ d (h d (by simp))
def parts4 (n : Nat) : List (List UInt8) := [Lib.decDigits (n / 16777216), Lib.decDigits (n / 65536 % 256), Lib.decDigits (n / 256 % 256), Lib.decDigits (n % 256)]
theorem pr_eq (n : Nat) : pr n = Lib.decDigits (n / 16777216) ++ 46 :: (Lib.decDigits (n / 65536 % 256) ++ 46 :: (Lib.decDigits (n / 256 % 256) ++ 46 :: Lib.decDigits (n % 256))) := by
  simp [pr, p3, p2, p1]
theorem splt_pr (n : Nat) : splt (pr n) = parts4 n := by
  rw [pr_eq, splt_dot _ _ (dec_dot _), splt_dot _ _ (dec_dot _), splt_dot _ _ (dec_dot _), nodot _ (dec_dot _)]
  rfl
theorem unp_pr (n : Nat) : unp (pr n) = pr n := unp_part (p3 n) _ (dec_ne _) (dec_dot _)
theorem adr_parts (n : Nat) (h : n < 4294967296) : adr 4294967296 0 (parts4 n) = some n := by
  unfold parts4
  rw [adr_on _ _ _ _ _ _ (num_dec _) (by omega), adr_on _ _ _ _ _ _ (num_dec _) (by omega), adr_on _ _ _ _ _ _ (num_dec _) (by omega), adr_last _ _ _ _ (num_dec _) (by omega)]
  congr 1
  omega
theorem prs_pr (n : Nat) (h : n < 4294967296) : prs (pr n) = some n := by
  unfold prs
  rw [unp_pr, splt_pr, if_pos (by simp [parts4]), adr_parts n h]
theorem prs_pr_dot (n : Nat) (h : n < 4294967296) : prs (pr n ++ [46]) = some n := by
  unfold prs
  rw [unp_dot, splt_pr, if_pos (by simp [parts4]), adr_parts n h]
theorem prs_dec (n : Nat) (h : n < 4294967296) : prs (Lib.decDigits n) = some n := by
  have hu : unp (Lib.decDigits n) = Lib.decDigits n := unp_part [] _ (dec_ne n) (dec_dot n)
  unfold prs
  rw [hu, nodot _ (dec_dot n), if_pos (by simp), adr_last _ _ _ _ (num_dec n) h]
  congr 1
  omega
theorem ends_of (L M : List UInt8) (n : Nat) (h1 : unp L = M) (h2 : lst M = Lib.decDigits n) : ends L = true := by
  unfold ends
  rw [h1, h2, num_dec]
  rfl
theorem lst_pr (n : Nat) : lst (pr n) = Lib.decDigits (n % 256) := by
  unfold lst
  rw [splt_pr]
  rfl
theorem ends_pr (n : Nat) : ends (pr n) = true := ends_of _ _ _ (unp_pr n) (lst_pr n)
theorem ends_pr_dot (n : Nat) : ends (pr n ++ [46]) = true := ends_of _ _ _ (unp_dot _) (lst_pr n)
/-- One part more. -/
theorem splt_five (n m : Nat) : splt (pr n ++ [46] ++ Lib.decDigits m) = parts4 n ++ [Lib.decDigits m] := by
  rw [pr_eq]
  simp only [List.append_assoc, List.cons_append, List.nil_append]
  rw [splt_dot _ _ (dec_dot _), splt_dot _ _ (dec_dot _), splt_dot _ _ (dec_dot _), splt_dot _ _ (dec_dot _), nodot _ (dec_dot _)]
  rfl
theorem unp_five (n m : Nat) : unp (pr n ++ [46] ++ Lib.decDigits m) = pr n ++ [46] ++ Lib.decDigits m := unp_part (pr n ++ [46]) _ (dec_ne m) (dec_dot m)
theorem prs_five (n m : Nat) : prs (pr n ++ [46] ++ Lib.decDigits m) = none := by
  unfold prs
  rw [unp_five, splt_five, if_neg (by simp [parts4])]
theorem ends_five (n m : Nat) : ends (pr n ++ [46] ++ Lib.decDigits m) = true := ends_of _ _ m (unp_five n m) (by unfold lst; rw [splt_five]; rfl)
theorem pr_head (n : Nat) : ∃ c r, pr n = c :: r ∧ c ≠ 46 := by
  rw [pr_eq]
  cases h : Lib.decDigits (n / 16777216) with
  | nil => exact absurd h (dec_ne _)
  | cons c r => exact ⟨c, _, rfl, dec_dot (n / 16777216) c (by rw [h]; simp)⟩
theorem prs_great (m : Nat) (c : UInt8) (hc : c ≠ 46) : prs (Lib.decDigits (256 + m) ++ [46] ++ [c]) = none := by
  have hu : unp (Lib.decDigits (256 + m) ++ [46] ++ [c]) = Lib.decDigits (256 + m) ++ [46] ++ [c] := unp_other _ c hc
  have hs : splt (Lib.decDigits (256 + m) ++ [46] ++ [c]) = [Lib.decDigits (256 + m), [c]] := by
    simp only [List.append_assoc, List.cons_append, List.nil_append]
    rw [splt_dot _ _ (dec_dot _), nodot [c] (by simpa using hc)]
  unfold prs
  rw [hu, hs, if_pos (by simp), adr_on_no _ _ _ _ _ _ (num_dec _) (by omega)]
end Go.Proofs.YtnmkkejodkjjiaaDoor.QudI
