/- base.Encode is the document's: six bits at a time; and what is written is read. -/
import Derived.Test.YtflklgcnjliipaaB64F
namespace Go.Proofs.Ytflklgcnjliipaa.B64G
open Go.RowKit Go.Proofs.Ytflklgcnjliipaa.Base Go.Proofs.Ytflklgcnjliipaa.Base2 Go.Proofs.Ytflklgcnjliipaa.B64N Go.Proofs.Ytflklgcnjliipaa.B64U Go.Proofs.Ytflklgcnjliipaa.B64D Go.Proofs.Ytflklgcnjliipaa.B64E Go.Proofs.Ytflklgcnjliipaa.B64P

def byteBits (c : Nat) : List Bool := [c / 128 % 2 == 1, c / 64 % 2 == 1, c / 32 % 2 == 1, c / 16 % 2 == 1, c / 8 % 2 == 1, c / 4 % 2 == 1, c / 2 % 2 == 1, c % 2 == 1]
def allB (L : List UInt8) : List Bool := L.flatMap fun c => byteBits c.toNat
def six (B : List Bool) (i : Nat) : Nat :=
  b2 (B.getD (6 * i) false) 32 + b2 (B.getD (6 * i + 1) false) 16 + b2 (B.getD (6 * i + 2) false) 8 + b2 (B.getD (6 * i + 3) false) 4 + b2 (B.getD (6 * i + 4) false) 2 + b2 (B.getD (6 * i + 5) false) 1
def groups (L : List UInt8) : List Nat := (List.range ((8 * L.length + 5) / 6)).map (six (allB L))
def body (L : List UInt8) : List UInt8 := (groups L).map let64
theorem six_shift (X R : List Bool) (j : Nat) (h : X.length = 24) : six (X ++ R) (j + 4) = six R j := by
  have g : ∀ i, (X ++ R).getD (24 + i) false = R.getD i false := by
    intro i
    simp only [List.getD_eq_getElem?_getD]
    rw [List.getElem?_append_right (by omega)]
    congr 2
    omega
  unfold six
  have e : 6 * (j + 4) = 24 + 6 * j := by omega
  rw [e]
  simp only [Nat.add_assoc, g]
theorem groups_shift (a b c : UInt8) (t : List UInt8) : groups (a :: b :: c :: t) = [six (allB (a :: b :: c :: t)) 0, six (allB (a :: b :: c :: t)) 1, six (allB (a :: b :: c :: t)) 2, six (allB (a :: b :: c :: t)) 3] ++ groups t := by
  unfold groups
  have e1 : (8 * (a :: b :: c :: t).length + 5) / 6 = (8 * t.length + 5) / 6 + 4 := by simp only [List.length_cons]; omega
  have e : ∀ m, List.range (m + 4) = [0, 1, 2, 3] ++ (List.range m).map (· + 4) := by
    intro m
    rw [Nat.add_comm m 4, List.range_add]
    congr 1
    apply List.map_congr_left
    intro a _
    omega
  rw [e1, e, List.map_append, List.map_map]
  have e3 : (List.range ((8 * t.length + 5) / 6)).map (six (allB (a :: b :: c :: t)) ∘ fun x => x + 4) = (List.range ((8 * t.length + 5) / 6)).map (six (allB t)) := by
    apply List.map_congr_left
    intro j _
    simp only [Function.comp]
    have e2 : allB (a :: b :: c :: t) = (byteBits a.toNat ++ (byteBits b.toNat ++ byteBits c.toNat)) ++ allB t := by simp [allB]
    rw [e2, six_shift _ _ j rfl]
  rw [e3]
  rfl
theorem six0 (a : Nat) (R : List Bool) (_h : a < 256) : six (byteBits a ++ R) 0 = a / 4 := by
  unfold six byteBits
  simp only [List.cons_append, List.nil_append, List.getD_cons_zero, List.getD_cons_succ, Nat.mul_zero, Nat.zero_add, b2_val]
  omega
theorem six1 (a b : Nat) (R : List Bool) (_h : a < 256) (_hb : b < 256) : six (byteBits a ++ (byteBits b ++ R)) 1 = a % 4 * 16 + b / 16 := by
  unfold six byteBits
  simp only [List.cons_append, List.nil_append, List.getD_cons_zero, List.getD_cons_succ, Nat.mul_one, Nat.reduceAdd, b2_val]
  omega
theorem six2 (a b c : Nat) (R : List Bool) (_h : a < 256) (_hb : b < 256) (_hc : c < 256) : six (byteBits a ++ (byteBits b ++ (byteBits c ++ R))) 2 = b % 16 * 4 + c / 64 := by
  unfold six byteBits
  simp only [List.cons_append, List.nil_append, List.getD_cons_zero, List.getD_cons_succ, Nat.reduceMul, Nat.reduceAdd, b2_val]
  omega
theorem six3 (a b c : Nat) (R : List Bool) (_h : a < 256) (_hb : b < 256) (_hc : c < 256) : six (byteBits a ++ (byteBits b ++ (byteBits c ++ R))) 3 = c % 64 := by
  unfold six byteBits
  simp only [List.cons_append, List.nil_append, List.getD_cons_zero, List.getD_cons_succ, Nat.reduceMul, Nat.reduceAdd, b2_val]
  omega
theorem six1' (a : Nat) (_h : a < 256) : six (byteBits a) 1 = a % 4 * 16 := by
  unfold six byteBits
  simp only [List.getD_cons_zero, List.getD_cons_succ, List.getD_nil, Nat.mul_one, Nat.reduceAdd, b2_val, b2_false]
  omega
theorem six2' (a b : Nat) (_h : a < 256) (_hb : b < 256) : six (byteBits a ++ byteBits b) 2 = b % 16 * 4 := by
  unfold six byteBits
  simp only [List.cons_append, List.nil_append, List.getD_cons_zero, List.getD_cons_succ, List.getD_nil, Nat.reduceMul, Nat.reduceAdd, b2_val, b2_false]
  omega
theorem groups1 (a : UInt8) : groups [a] = [a.toNat / 4, a.toNat % 4 * 16] := by
  have ha := a.toNat_lt
  have e : allB [a] = byteBits a.toNat ++ [] := by simp [allB]
  unfold groups
  rw [show (8 * [a].length + 5) / 6 = 2 by simp, e]
  simp only [List.range_succ, List.range_zero, List.nil_append, List.cons_append, List.map_cons, List.map_nil]
  rw [six0 _ _ ha, List.append_nil, six1' _ ha]
theorem groups2 (a b : UInt8) : groups [a, b] = [a.toNat / 4, a.toNat % 4 * 16 + b.toNat / 16, b.toNat % 16 * 4] := by
  have ha := a.toNat_lt
  have hb := b.toNat_lt
  have e : allB [a, b] = byteBits a.toNat ++ (byteBits b.toNat ++ []) := by simp [allB]
  unfold groups
  rw [show (8 * [a, b].length + 5) / 6 = 3 by simp, e]
  simp only [List.range_succ, List.range_zero, List.nil_append, List.cons_append, List.map_cons, List.map_nil]
  rw [six0 _ _ ha, six1 _ _ _ ha hb, List.append_nil, six2' _ _ ha hb]
theorem groups3 (a b c : UInt8) (t : List UInt8) : groups (a :: b :: c :: t) = [a.toNat / 4, a.toNat % 4 * 16 + b.toNat / 16, b.toNat % 16 * 4 + c.toNat / 64, c.toNat % 64] ++ groups t := by
  have ha := a.toNat_lt
  have hb := b.toNat_lt
  have hc := c.toNat_lt
  rw [groups_shift]
  have e2 : allB (a :: b :: c :: t) = byteBits a.toNat ++ (byteBits b.toNat ++ (byteBits c.toNat ++ allB t)) := by simp [allB]
  rw [e2, six0 _ _ ha, six1 _ _ _ ha hb, six2 _ _ _ _ ha hb hc, six3 _ _ _ _ ha hb hc]
def pd (L : List UInt8) : Nat := if L.length % 3 = 0 then 0 else 3 - L.length % 3
theorem groups_all (L : List UInt8) : e64 L = body L ++ List.replicate (pd L) 61 ∧ d64 (groups L) = L ∧ ∀ n ∈ groups L, n < 64 := by
  have H : ∀ (k : Nat) (L : List UInt8), L.length ≤ k → e64 L = body L ++ List.replicate (pd L) 61 ∧ d64 (groups L) = L ∧ ∀ n ∈ groups L, n < 64 := by
    intro k
    induction k with
    | zero => intro L h; obtain rfl : L = [] := List.eq_nil_of_length_eq_zero (by omega); exact ⟨rfl, rfl, fun n h => by simp [groups] at h⟩
    | succ k ih =>
      intro L hl
      match L, hl with
      | [], _ => exact ⟨rfl, rfl, fun n h => by simp [groups] at h⟩
      | [a], _ =>
        have ha := a.toNat_lt
        unfold body
        rw [groups1]
        refine ⟨by simp [e64, pd, List.replicate_succ], ?_, ?_⟩
        · simp only [d64]
          congr 1
          rw [show a.toNat / 4 * 4 + a.toNat % 4 * 16 / 16 = a.toNat by omega]
          simp
        · intro n hn
          simp at hn
          omega
      | [a, b], _ =>
        have ha := a.toNat_lt
        have hb := b.toNat_lt
        unfold body
        rw [groups2]
        refine ⟨by simp [e64, pd, List.replicate_succ], ?_, ?_⟩
        · simp only [d64]
          rw [show a.toNat / 4 * 4 + (a.toNat % 4 * 16 + b.toNat / 16) / 16 = a.toNat by omega, show (a.toNat % 4 * 16 + b.toNat / 16) % 16 * 16 + b.toNat % 16 * 4 / 4 = b.toNat by omega]
          simp
        · intro n hn
          simp at hn
          omega
      | a :: b :: c :: t, hl =>
        have ha := a.toNat_lt
        have hb := b.toNat_lt
        have hc := c.toNat_lt
        obtain ⟨h1, h2, h3⟩ := ih t (by simp at hl; omega)
        have hp : pd (a :: b :: c :: t) = pd t := by
          unfold pd
          simp only [List.length_cons]
          rw [show (t.length + 1 + 1 + 1) % 3 = t.length % 3 by omega]
        unfold body at h1 ⊢
        rw [groups3, hp]
        refine ⟨?_, ?_, ?_⟩
        · rw [e64, h1]
          simp
        · simp only [List.cons_append, List.nil_append, d64, h2]
          rw [show a.toNat / 4 * 4 + (a.toNat % 4 * 16 + b.toNat / 16) / 16 = a.toNat by omega, show (a.toNat % 4 * 16 + b.toNat / 16) % 16 * 16 + (b.toNat % 16 * 4 + c.toNat / 64) / 4 = b.toNat by omega, show (b.toNat % 16 * 4 + c.toNat / 64) % 4 * 64 + c.toNat % 64 = c.toNat by omega]
          simp
        · intro n hn
          simp only [List.cons_append, List.nil_append, List.mem_cons] at hn
          rcases hn with rfl | rfl | rfl | rfl | hn
          · omega
          · omega
          · omega
          · omega
          · exact h3 n hn
  exact H _ L (Nat.le_refl _)
theorem let_facts (k : Nat) (h : k < 64) : let64 k ≠ 61 ∧ B64N.blank (let64 k) = false ∧ num (let64 k) = (k : Int) := by
  have H : ∀ k : Fin 64, let64 k.val ≠ 61 ∧ B64N.blank (let64 k.val) = false ∧ num (let64 k.val) = (k.val : Int) := by decide +kernel
  exact H ⟨k, h⟩
theorem body_mem (L : List UInt8) : ∀ c ∈ body L, ∃ k, k < 64 ∧ c = let64 k := by
  intro c hc
  simp only [body, List.mem_map] at hc
  obtain ⟨k, hk, rfl⟩ := hc
  exact ⟨k, (groups_all L).2.2 k hk, rfl⟩
theorem body_ne (L : List UInt8) : ∀ c ∈ body L, c ≠ 61 := by
  intro c hc
  obtain ⟨k, hk, rfl⟩ := body_mem L c hc
  exact (let_facts k hk).1
theorem strip_all (X : List UInt8) (h : ∀ c ∈ X, c ≠ 61) : strip X = X := by
  unfold strip
  rw [if_neg]
  intro e
  exact h 61 (List.mem_of_getLast? e) rfl
theorem strip_pad (X : List UInt8) : strip (X ++ [61]) = X := by
  unfold strip
  rw [if_pos (by simp), List.dropLast_concat]
theorem body_len (L : List UInt8) : (body L).length = (8 * L.length + 5) / 6 := by simp [body, groups]
theorem pd_le (L : List UInt8) : pd L ≤ 2 := by unfold pd; split <;> omega
theorem unb_all (X : List UInt8) (h : ∀ c ∈ X, B64N.blank c = false) : unb X = X := by
  unfold unb
  rw [List.filter_eq_self]
  intro c hc
  rw [h c hc]
  rfl
theorem body_blank (L : List UInt8) : ∀ c ∈ body L, B64N.blank c = false := by
  intro c hc
  obtain ⟨k, hk, rfl⟩ := body_mem L c hc
  exact (let_facts k hk).2.1
theorem txt_body (L : List UInt8) : txt (body L) = body L := by
  unfold txt unp
  rw [unb_all _ (body_blank L), strip_all _ (body_ne L), strip_all _ (body_ne L)]
  split <;> rfl
theorem txt_e64 (L : List UInt8) : txt (e64 L) = body L := by
  have h4 : (e64 L).length % 4 = 0 := by rw [e64_len]; omega
  have hb : unb (e64 L) = e64 L := unb_all _ (by
    intro c hc
    rw [(groups_all L).1] at hc
    rcases List.mem_append.1 hc with hc | hc
    · exact body_blank L c hc
    · rw [(List.mem_replicate.1 hc).2]
      rfl)
  unfold txt unp
  rw [hb, if_pos h4, (groups_all L).1]
  have hs := strip_all _ (body_ne L)
  rcases (show pd L = 0 ∨ pd L = 1 ∨ pd L = 2 by have := pd_le L; omega) with h | h | h
  · rw [h, List.replicate_zero, List.append_nil, hs, hs]
  · rw [h, show List.replicate 1 (61 : UInt8) = [61] from rfl, strip_pad, hs]
  · rw [h, show List.replicate 2 (61 : UInt8) = [61] ++ [61] from rfl, ← List.append_assoc, strip_pad, strip_pad]
theorem pack_d64' (T : List UInt8) (hz : ∀ c ∈ T, 0 ≤ num c) : pack (allBits (nums T)) (6 * T.length / 8) = d64 (nums T) := by
  have := pack_d64 (nums T) (nums_lt T hz)
  rwa [show (nums T).length = T.length by simp [nums]] at this
theorem back (L Y : List UInt8) (h : txt Y = body L) : dOk Y = true ∧ dB Y = L := by
  have hz : ∀ c ∈ body L, 0 ≤ num c := by
    intro c hc
    obtain ⟨k, hk, rfl⟩ := body_mem L c hc
    rw [(let_facts k hk).2.2]
    omega
  have ho : dOk Y = true := by
    unfold dOk
    rw [h, decide_eq_true_iff]
    exact ⟨by rw [body_len]; omega, hz⟩
  refine ⟨ho, ?_⟩
  have hn : nums (body L) = groups L := by
    unfold nums body
    rw [List.map_map]
    conv => rhs; rw [← List.map_id (groups L)]
    apply List.map_congr_left
    intro k hk
    simp only [Function.comp, (let_facts k ((groups_all L).2.2 k hk)).2.2, id, Int.toNat_natCast]
  unfold dB
  rw [ho, if_pos rfl, h, ← pack_runs _ hz, pack_d64' _ hz, hn]
  exact (groups_all L).2.1
end Go.Proofs.Ytflklgcnjliipaa.B64G
