/- IPv6 addresses, plain: pieces written out, of either letters, with noughts ahead. -/
import Derived.Test.YtnmkkejodkjjiaaDoorSixL
namespace Go.Proofs.YtnmkkejodkjjiaaDoor.SixN
open Go.RowKit Go.Proofs.YtnmkkejodkjjiaaDoor.Base Go.Proofs.YtnmkkejodkjjiaaDoor.QudP Go.Proofs.YtnmkkejodkjjiaaDoor.SixP Go.Proofs.YtnmkkejodkjjiaaDoor.SixQ Go.Proofs.YtnmkkejodkjjiaaDoor.SixA Go.Proofs.YtnmkkejodkjjiaaDoor.SixB Go.Proofs.YtnmkkejodkjjiaaDoor.SixH Go.Proofs.YtnmkkejodkjjiaaDoor.SixI Go.Proofs.YtnmkkejodkjjiaaDoor.SixL

def hd (b : Bool) (n : Nat) : UInt8 := if n < 10 then UInt8.ofNat (48 + n) else if b = true then UInt8.ofNat (55 + n) else UInt8.ofNat (87 + n)
theorem hd_ok (b : Bool) (d : Nat) (h : d < 16) : isD 16 (hd b d) = true ∧ dv (hd b d) = d := by
  have H : ∀ b : Bool, ∀ d : Fin 16, isD 16 (hd b d.val) = true ∧ dv (hd b d.val) = d.val := by decide +kernel
  exact H b ⟨d, h⟩
def cnd (x q i : Nat) : Bool := decide (0 < x / 16 ^ i ∨ i = 0 ∨ i ≤ q % 4)
def dg (b : Bool) (x i : Nat) : UInt8 := hd b (x / 16 ^ i % 16)
/-- The first m of the four digits, those that are written. -/
def wt (b : Bool) (x q : Nat) : Nat → List UInt8
  | 0 => []
  | m + 1 => wt b x q m ++ (if cnd x q (3 - m) = true then [dg b x (3 - m)] else [])
def wd (b : Bool) (x q : Nat) : List UInt8 := wt b x q 4
theorem wt_len (b : Bool) (x q : Nat) : ∀ m, (wt b x q m).length ≤ m
  | 0 => Nat.le_refl _
  | m + 1 => by
    have := wt_len b x q m
    unfold wt
    rw [List.length_append]
    split <;> simp <;> omega
theorem dg_ok (b : Bool) (x i : Nat) : isD 16 (dg b x i) = true ∧ dv (dg b x i) = x / 16 ^ i % 16 := hd_ok b _ (Nat.mod_lt _ (by decide))
theorem wd_piece (b : Bool) (x q : Nat) (h : x < 65536) : piece (wd b x q) = some x := by
  have e0 := dg_ok b x 0
  have e1 := dg_ok b x 1
  have e2 := dg_ok b x 2
  have e3 := dg_ok b x 3
  have c0 : cnd x q 0 = true := by simp [cnd]
  have k1 : cnd x q 1 = true ↔ (0 < x / 16 ∨ 1 ≤ q % 4) := by simp [cnd]
  have k2 : cnd x q 2 = true ↔ (0 < x / 256 ∨ 2 ≤ q % 4) := by simp [cnd]
  have k3 : cnd x q 3 = true ↔ (0 < x / 4096 ∨ 3 ≤ q % 4) := by simp [cnd]
  simp only [Nat.reducePow, Nat.pow_zero, Nat.pow_one, Nat.div_one] at e0 e1 e2 e3
  have hw : wd b x q = (if cnd x q 3 = true then [dg b x 3] else []) ++ (if cnd x q 2 = true then [dg b x 2] else []) ++ (if cnd x q 1 = true then [dg b x 1] else []) ++ [dg b x 0] := by
    unfold wd wt wt wt wt wt
    simp [c0]
  rw [hw]
  by_cases h3 : cnd x q 3 = true
  · have h2 : cnd x q 2 = true := by rw [k2]; rw [k3] at h3; omega
    have h1 : cnd x q 1 = true := by rw [k1]; rw [k3] at h3; omega
    rw [if_pos h3, if_pos h2, if_pos h1, piece_some (by simp) (by simp) (by simp [digs, e0.1, e1.1, e2.1, e3.1])]
    congr 1
    simp [val, e0.2, e1.2, e2.2, e3.2]
    omega
  · rw [if_neg h3]
    rw [k3] at h3
    by_cases h2 : cnd x q 2 = true
    · have h1 : cnd x q 1 = true := by rw [k1]; rw [k2] at h2; omega
      rw [if_pos h2, if_pos h1, piece_some (by simp) (by simp) (by simp [digs, e0.1, e1.1, e2.1])]
      congr 1
      simp [val, e0.2, e1.2, e2.2]
      omega
    · rw [if_neg h2]
      rw [k2] at h2
      by_cases h1 : cnd x q 1 = true
      · rw [if_pos h1, piece_some (by simp) (by simp) (by simp [digs, e0.1, e1.1])]
        congr 1
        simp [val, e0.2, e1.2]
        omega
      · rw [if_neg h1]
        rw [k1] at h1
        rw [piece_some (by simp) (by simp) (by simp [digs, e0.1])]
        congr 1
        simp [val, e0.2]
        omega
/-- The first k pieces, written out. -/
def PS (b : Bool) (f q : Nat → Nat) (k : Nat) : List (List UInt8) := (List.range k).map fun i => wd b (f i) (q i)
theorem PS_succ (b : Bool) (f q : Nat → Nat) (k : Nat) : PS b f q (k + 1) = PS b f q k ++ [wd b (f k) (q k)] := by
  unfold PS
  rw [List.range_succ, List.map_append]
  rfl
theorem PS_len (b : Bool) (f q : Nat → Nat) (k : Nat) : (PS b f q k).length = k := by simp [PS]
def TX (b : Bool) (f q : Nat → Nat) (k : Nat) : List UInt8 := joinC (PS b f q k)
theorem TX_zero (b : Bool) (f q : Nat → Nat) : TX b f q 0 = [] := rfl
theorem TX_one (b : Bool) (f q : Nat → Nat) : TX b f q (0 + 1) = TX b f q 0 ++ wd b (f 0) (q 0) := rfl
theorem TX_succ (b : Bool) (f q : Nat → Nat) (k : Nat) (h : 0 < k) : TX b f q (k + 1) = TX b f q k ++ [58] ++ wd b (f k) (q k) := by
  unfold TX
  rw [PS_succ, joinC_snoc]
  · simp
  · intro e
    have := PS_len b f q k
    rw [e] at this
    simp at this
    omega
theorem TX_len (b : Bool) (f q : Nat → Nat) : ∀ k, (TX b f q k).length ≤ 5 * k
  | 0 => Nat.le_refl _
  | k + 1 => by
    have ih := TX_len b f q k
    have hw := wt_len b (f k) (q k) 4
    by_cases h : k = 0
    · subst h
      rw [TX_one, TX_zero]
      simp
      unfold wd
      omega
    · rw [TX_succ b f q k (by omega)]
      simp
      unfold wd
      omega
theorem TX_six (b : Bool) (f q : Nat → Nat) (h : ∀ i, f i < 65536) : six (TX b f q 8) = some (V8 f) := by
  refine six_all (PS b f q 8) (V8 f) ?_ rfl
  show [piece (wd b (f 0) (q 0)), piece (wd b (f 1) (q 1)), piece (wd b (f 2) (q 2)), piece (wd b (f 3) (q 3)), piece (wd b (f 4) (q 4)), piece (wd b (f 5) (q 5)), piece (wd b (f 6) (q 6)), piece (wd b (f 7) (q 7))] = _
  rw [wd_piece b _ _ (h 0), wd_piece b _ _ (h 1), wd_piece b _ _ (h 2), wd_piece b _ _ (h 3), wd_piece b _ _ (h 4), wd_piece b _ _ (h 5), wd_piece b _ _ (h 6), wd_piece b _ _ (h 7)]
  rfl
theorem hd_at (b : Bool) (k : Nat) (hk : k < 16) : (if b = true then (⟨#[48, 49, 50, 51, 52, 53, 54, 55, 56, 57, 65, 66, 67, 68, 69, 70]⟩ : ByteArray) else ⟨#[48, 49, 50, 51, 52, 53, 54, 55, 56, 57, 97, 98, 99, 100, 101, 102]⟩).extract k (k + 1) = strOf [hd b k] := by
  have hcase : k = 0 ∨ k = 1 ∨ k = 2 ∨ k = 3 ∨ k = 4 ∨ k = 5 ∨ k = 6 ∨ k = 7 ∨ k = 8 ∨ k = 9 ∨ k = 10 ∨ k = 11 ∨ k = 12 ∨ k = 13 ∨ k = 14 ∨ k = 15 := by omega
  cases b <;> rcases hcase with rfl | rfl | rfl | rfl | rfl | rfl | rfl | rfl | rfl | rfl | rfl | rfl | rfl | rfl | rfl | rfl <;> rfl
theorem hd_at_true (k : Nat) (hk : k < 16) : (⟨#[48, 49, 50, 51, 52, 53, 54, 55, 56, 57, 65, 66, 67, 68, 69, 70]⟩ : ByteArray).extract k (k + 1) = strOf [hd true k] := by
  have := hd_at true k hk
  rwa [if_pos rfl] at this
theorem hd_at_false (k : Nat) (hk : k < 16) : (⟨#[48, 49, 50, 51, 52, 53, 54, 55, 56, 57, 97, 98, 99, 100, 101, 102]⟩ : ByteArray).extract k (k + 1) = strOf [hd false k] := by
  have := hd_at false k hk
  rwa [if_neg (by simp)] at this
theorem and15w (u : Nat) (h : u < 65536) : bits .and .u16 (u : Int) 15 = ((u % 16 : Nat) : Int) := by
  have := u16_and_nat u 15 h (by omega)
  rw [show ((15 : Nat) : Int) = 15 from rfl] at this
  rw [this, show (15 : Nat) = 2 ^ 4 - 1 from rfl, Nat.and_two_pow_sub_one_eq_mod]
end Go.Proofs.YtnmkkejodkjjiaaDoor.SixN
