/- Names, plain: what ident.Is reads of a text, and that a name is read as its own bytes. -/
import Derived.Test.YtdgdmlchegjejaaIdnA
import Derived.Test.YtdgdmlchegjejaaUtfA
namespace Go.Proofs.Ytdgdmlchegjejaa.IdnP
open Go.Proofs.Ytdgdmlchegjejaa.IdnA

/-- The sixteen bytes that ident.Is reads: 'p' digits have been read. -/
def rd : List UInt8 → Nat → (Nat → Nat) → Nat → Nat
  | [], _, g => g
  | c :: L, p, g => if p < 32 then (if 0 ≤ UtfA.hex (c.toNat : Int) then rd L (p + 1) (fun k => if k = p / 2 then g k % 16 * 16 + (UtfA.hex (c.toNat : Int)).toNat else g k) else rd L p g) else g
theorem hex_dgt (n : Nat) (h : n < 16) : UtfA.hex ((dgt n).toNat : Int) = (n : Int) := by
  have H : ∀ n : Fin 16, UtfA.hex ((dgt n.val).toNat : Int) = (n.val : Int) := by decide +kernel
  exact H ⟨n, h⟩
theorem hex_dash : ¬ 0 ≤ UtfA.hex ((45 : UInt8).toNat : Int) := by decide
theorem rd_dgt (n : Nat) (h : n < 16) (L : List UInt8) (p : Nat) (hp : p < 32) (g : Nat → Nat) : rd (dgt n :: L) p g = rd L (p + 1) (fun k => if k = p / 2 then g k % 16 * 16 + n else g k) := by
  rw [rd, if_pos hp, hex_dgt n h, if_pos (by omega)]
  simp
theorem rd_dash (L : List UInt8) (p : Nat) (g : Nat → Nat) (hp : p < 32) : rd (45 :: L) p g = rd L p g := by
  rw [rd, if_pos hp, if_neg hex_dash]
theorem byt_lt (k c : Nat) (h : c < 256) : byt k c < 256 := by unfold byt; split <;> (try split) <;> omega
theorem byt_byt (k c : Nat) : byt k (byt k c) = byt k c := by unfold byt; split <;> (try split) <;> omega
theorem rd_piece (k c : Nat) (hk : k < 16) (hc : c < 256) (L : List UInt8) (g : Nat → Nat) (h0 : g k = 0) : rd (piece k c ++ L) (2 * k) g = rd L (2 * (k + 1)) (fun j => if j = k then byt k c else g j) := by
  have hb := byt_lt k c hc
  have key : ∀ M : List UInt8, rd (dgt (byt k c / 16) :: dgt (byt k c % 16) :: M) (2 * k) g = rd M (2 * (k + 1)) (fun j => if j = k then byt k c else g j) := by
    intro M
    rw [rd_dgt _ (by omega) _ _ (by omega), rd_dgt _ (by omega) _ _ (by omega)]
    congr 1
    funext j
    by_cases hj : j = k
    · subst hj
      rw [if_pos (by omega), if_pos (by omega), if_pos rfl, h0]
      omega
    · rw [if_neg (by omega), if_neg (by omega), if_neg hj]
  unfold piece
  split
  · show rd (45 :: (dgt (byt k c / 16) :: dgt (byt k c % 16) :: L)) _ _ = _
    rw [rd_dash _ _ _ (by omega)]
    exact key L
  · exact key L
theorem rd_nm (f : Nat → UInt8) : ∀ (n : Nat), n ≤ 16 → ∀ L, rd (nm f n ++ L) 0 (fun _ => 0) = rd L (2 * n) (fun j => if j < n then byt j (f j).toNat else 0)
  | 0, _, L => by simp [nm]
  | n + 1, h, L => by
    rw [nm, List.append_assoc, rd_nm f n (by omega), rd_piece n _ (by omega) (f n).toNat_lt L _ (by simp)]
    congr 1
    funext j
    by_cases hj : j = n
    · subst hj; simp
    · by_cases hl : j < n
      · rw [if_neg hj, if_pos hl, if_pos (by omega)]
      · rw [if_neg hj, if_neg hl, if_neg (by omega)]
/-- What is read of a name is its own bytes, the given bits in place. -/
theorem rd_name (f : Nat → UInt8) (j : Nat) (hj : j < 16) : rd (nm f 16) 0 (fun _ => 0) j = byt j (f j).toNat := by
  have := rd_nm f 16 (by omega) []
  rw [List.append_nil] at this
  rw [this]
  simp [rd, hj]
theorem nm_congr (f g : Nat → UInt8) : ∀ n, (∀ j, j < n → byt j (f j).toNat = byt j (g j).toNat) → nm f n = nm g n
  | 0, _ => rfl
  | n + 1, h => by
    rw [nm, nm, nm_congr f g n (fun j hj => h j (by omega))]
    unfold piece
    rw [h n (by omega)]
theorem rd_lt : ∀ (L : List UInt8) (p : Nat) (g : Nat → Nat), (∀ j, g j < 256) → ∀ j, rd L p g j < 256
  | [], _, g, h, j => by simpa [rd] using h j
  | c :: L, p, g, h, j => by
    rw [rd]
    split
    · split
      · refine rd_lt L _ _ (fun k => ?_) j
        have hh : UtfA.hex (c.toNat : Int) < 16 := by
          have H : ∀ n : Fin 256, UtfA.hex (n.val : Int) < 16 := by decide +kernel
          exact H ⟨c.toNat, c.toNat_lt⟩
        split
        · omega
        · exact h k
      · exact rd_lt L _ _ h j
    · exact h j
/-- The text that ident.Is holds against its argument. -/
def own (L : List UInt8) : List UInt8 := nm (fun j => UInt8.ofNat (rd L 0 (fun _ => 0) j)) 16
/-- A name is its own digits' name. -/
theorem own_name (f : Nat → UInt8) : own (nm f 16) = nm f 16 := by
  refine nm_congr _ _ 16 fun j hj => ?_
  rw [show (UInt8.ofNat (rd (nm f 16) 0 (fun _ => 0) j)).toNat = byt j (f j).toNat from ?_, byt_byt]
  rw [rd_name f j hj]
  have := byt_lt j _ (f j).toNat_lt
  simp
  omega
end Go.Proofs.Ytdgdmlchegjejaa.IdnP
