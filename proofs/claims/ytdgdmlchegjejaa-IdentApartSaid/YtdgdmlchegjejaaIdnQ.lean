/- Names, plain: two are the same just if their bytes are, but for the given bits. -/
import Derived.Test.YtdgdmlchegjejaaIdnP
namespace Go.Proofs.Ytdgdmlchegjejaa.IdnQ
open Go.Proofs.Ytdgdmlchegjejaa.IdnA Go.Proofs.Ytdgdmlchegjejaa.IdnP

theorem dgt_inj (a b : Nat) (ha : a < 16) (hb : b < 16) (h : dgt a = dgt b) : a = b := by
  have H : ∀ x y : Fin 16, dgt x.val = dgt y.val → x.val = y.val := by decide +kernel
  exact H ⟨a, ha⟩ ⟨b, hb⟩ h
theorem piece_length (k c : Nat) : (piece k c).length = (if k = 4 ∨ k = 6 ∨ k = 8 ∨ k = 10 then 1 else 0) + 2 := by
  unfold piece
  split <;> rfl
theorem nm_length (f g : Nat → UInt8) : ∀ n, (nm f n).length = (nm g n).length
  | 0 => rfl
  | n + 1 => by rw [nm, nm, List.length_append, List.length_append, nm_length f g n, piece_length, piece_length]
theorem piece_inj (k c d : Nat) (hc : c < 256) (hd : d < 256) (h : piece k c = piece k d) : byt k c = byt k d := by
  have b1 := byt_lt k c hc
  have b2 := byt_lt k d hd
  unfold piece at h
  have h2 := List.append_cancel_left h
  simp only [List.cons.injEq, and_true] at h2
  have e1 := dgt_inj _ _ (by omega) (by omega) h2.1
  have e2 := dgt_inj _ _ (by omega) (by omega) h2.2
  omega
theorem nm_inj (f g : Nat → UInt8) : ∀ n, nm f n = nm g n → ∀ j, j < n → byt j (f j).toNat = byt j (g j).toNat
  | 0, _, j, hj => by omega
  | n + 1, h, j, hj => by
    rw [nm, nm] at h
    obtain ⟨h1, h2⟩ := List.append_inj h (nm_length f g n)
    by_cases e : j = n
    · subst e
      exact piece_inj _ _ _ (f j).toNat_lt (g j).toNat_lt h2
    · exact nm_inj f g n h1 j (by omega)
theorem nm_same (f g : Nat → UInt8) : nm f 16 = nm g 16 ↔ ∀ j, j < 16 → byt j (f j).toNat = byt j (g j).toNat := ⟨nm_inj f g 16, nm_congr f g 16⟩
end Go.Proofs.Ytdgdmlchegjejaa.IdnQ
