/- Names, plain: a text is its own digits' name just if it has 36 letters, each as it may stand at its place. -/
import Derived.Test.YtdgdmlchegjejaaIdnP
namespace Go.Proofs.Ytdgdmlchegjejaa.IdnR
open Go.Proofs.Ytdgdmlchegjejaa.IdnA Go.Proofs.Ytdgdmlchegjejaa.IdnP

def okh (c : UInt8) : Bool := (48 ≤ c.toNat && c.toNat ≤ 57) || (97 ≤ c.toNat && c.toNat ≤ 102)
def okAt (k : Nat) (c : UInt8) : Bool := if k = 8 ∨ k = 13 ∨ k = 18 ∨ k = 23 then c == 45 else if k = 14 then c == 52 else if k = 19 then (c == 56 || c == 57 || c == 97 || c == 98) else okh c
def isn (L : List UInt8) : Prop := L.length = 36 ∧ ∀ k (h : k < L.length), okAt k L[k] = true
def D (f : Nat → UInt8) (k : Nat) : UInt8 := dgt (byt k (f k).toNat / 16)
def E (f : Nat → UInt8) (k : Nat) : UInt8 := dgt (byt k (f k).toNat % 16)
theorem nm_list (f : Nat → UInt8) : nm f 16 = [D f 0, E f 0, D f 1, E f 1, D f 2, E f 2, D f 3, E f 3, 45, D f 4, E f 4, D f 5, E f 5, 45, D f 6, E f 6, D f 7, E f 7, 45, D f 8, E f 8, D f 9, E f 9, 45, D f 10, E f 10, D f 11, E f 11, D f 12, E f 12, D f 13, E f 13, D f 14, E f 14, D f 15, E f 15] := by simp [nm, piece, D, E]
theorem okh_dgt (n : Nat) (h : n < 16) : okh (dgt n) = true := by
  have H : ∀ n : Fin 16, okh (dgt n.val) = true := by decide +kernel
  exact H ⟨n, h⟩
theorem D_ok (f : Nat → UInt8) (k : Nat) : okh (D f k) = true := okh_dgt _ (by have := byt_lt k _ (f k).toNat_lt; omega)
theorem E_ok (f : Nat → UInt8) (k : Nat) : okh (E f k) = true := okh_dgt _ (by omega)
theorem D6 (f : Nat → UInt8) : D f 6 = 52 := by
  have : byt 6 (f 6).toNat / 16 = 4 := by unfold byt; simp; omega
  unfold D
  rw [this]
  rfl
theorem D8 (f : Nat → UInt8) : (D f 8 == 56 || D f 8 == 57 || D f 8 == 97 || D f 8 == 98) = true := by
  have h : byt 8 (f 8).toNat / 16 = 8 ∨ byt 8 (f 8).toNat / 16 = 9 ∨ byt 8 (f 8).toNat / 16 = 10 ∨ byt 8 (f 8).toNat / 16 = 11 := by
    have : byt 8 (f 8).toNat = (f 8).toNat % 64 + 128 := by unfold byt; simp
    omega
  unfold D
  rcases h with h | h | h | h <;> rw [h] <;> decide
theorem nm_isn (f : Nat → UInt8) : isn (nm f 16) := by
  rw [nm_list]
  refine ⟨rfl, fun k h => ?_⟩
  have h' : k < 36 := h
  have hcase : k = 0 ∨ k = 1 ∨ k = 2 ∨ k = 3 ∨ k = 4 ∨ k = 5 ∨ k = 6 ∨ k = 7 ∨ k = 8 ∨ k = 9 ∨ k = 10 ∨ k = 11 ∨ k = 12 ∨ k = 13 ∨ k = 14 ∨ k = 15 ∨ k = 16 ∨ k = 17 ∨ k = 18 ∨ k = 19 ∨ k = 20 ∨ k = 21 ∨ k = 22 ∨ k = 23 ∨ k = 24 ∨ k = 25 ∨ k = 26 ∨ k = 27 ∨ k = 28 ∨ k = 29 ∨ k = 30 ∨ k = 31 ∨ k = 32 ∨ k = 33 ∨ k = 34 ∨ k = 35 := by omega
  rcases hcase with rfl | rfl | rfl | rfl | rfl | rfl | rfl | rfl | rfl | rfl | rfl | rfl | rfl | rfl | rfl | rfl | rfl | rfl | rfl | rfl | rfl | rfl | rfl | rfl | rfl | rfl | rfl | rfl | rfl | rfl | rfl | rfl | rfl | rfl | rfl | rfl
  · exact D_ok f 0
  · exact E_ok f 0
  · exact D_ok f 1
  · exact E_ok f 1
  · exact D_ok f 2
  · exact E_ok f 2
  · exact D_ok f 3
  · exact E_ok f 3
  · exact rfl
  · exact D_ok f 4
  · exact E_ok f 4
  · exact D_ok f 5
  · exact E_ok f 5
  · exact rfl
  · exact by show (D f 6 == 52) = true; rw [D6]; rfl
  · exact E_ok f 6
  · exact D_ok f 7
  · exact E_ok f 7
  · exact rfl
  · exact D8 f
  · exact E_ok f 8
  · exact D_ok f 9
  · exact E_ok f 9
  · exact rfl
  · exact D_ok f 10
  · exact E_ok f 10
  · exact D_ok f 11
  · exact E_ok f 11
  · exact D_ok f 12
  · exact E_ok f 12
  · exact D_ok f 13
  · exact E_ok f 13
  · exact D_ok f 14
  · exact E_ok f 14
  · exact D_ok f 15
  · exact E_ok f 15
def val (c : UInt8) : Nat := (UtfA.hex (c.toNat : Int)).toNat
theorem val_ok (c : UInt8) (h : okh c = true) : val c < 16 ∧ dgt (val c) = c := by
  have H : ∀ n : Fin 256, okh (UInt8.ofNat n.val) = true → val (UInt8.ofNat n.val) < 16 ∧ dgt (val (UInt8.ofNat n.val)) = UInt8.ofNat n.val := by decide +kernel
  have := H ⟨c.toNat, c.toNat_lt⟩
  simpa using this (by simpa using h)
def mk (a b : UInt8) : UInt8 := UInt8.ofNat (val a * 16 + val b)
theorem mk_nat (a b : UInt8) (ha : okh a = true) (hb : okh b = true) : (mk a b).toNat = val a * 16 + val b := by
  have := (val_ok a ha).1
  have := (val_ok b hb).1
  unfold mk
  simp
  omega
theorem D_mk (f : Nat → UInt8) (k : Nat) (a b : UInt8) (hf : f k = mk a b) (ha : okh a = true) (hb : okh b = true) (h6 : k = 6 → val a = 4) (h8 : k = 8 → 8 ≤ val a ∧ val a < 12) : D f k = a ∧ E f k = b := by
  have e := mk_nat a b ha hb
  have a1 := val_ok a ha
  have b1 := val_ok b hb
  have hb : byt k (f k).toNat = val a * 16 + val b := by
    rw [hf, e]
    unfold byt
    split
    · have := h6 ‹_›; omega
    · split
      · have := h8 ‹_›; omega
      · rfl
  unfold D E
  rw [hb, show (val a * 16 + val b) / 16 = val a by omega, show (val a * 16 + val b) % 16 = val b by omega]
  exact ⟨a1.2, b1.2⟩
theorem okh52 : okh 52 = true ∧ val 52 = 4 := by decide
theorem okh8 (c : UInt8) (h : (c == 56 || c == 57 || c == 97 || c == 98) = true) : okh c = true ∧ 8 ≤ val c ∧ val c < 12 := by
  simp only [Bool.or_eq_true, beq_iff_eq] at h
  rcases h with ((rfl | rfl) | rfl) | rfl <;> decide
theorem name_of (a0 a1 a2 a3 a4 a5 a6 a7 a8 a9 a10 a11 a12 a13 a14 a15 a16 a17 a18 a19 a20 a21 a22 a23 a24 a25 a26 a27 a28 a29 a30 a31 a32 a33 a34 a35 : UInt8) (h0 : okAt 0 a0 = true) (h1 : okAt 1 a1 = true) (h2 : okAt 2 a2 = true) (h3 : okAt 3 a3 = true) (h4 : okAt 4 a4 = true) (h5 : okAt 5 a5 = true) (h6 : okAt 6 a6 = true) (h7 : okAt 7 a7 = true) (h8 : okAt 8 a8 = true) (h9 : okAt 9 a9 = true) (h10 : okAt 10 a10 = true) (h11 : okAt 11 a11 = true) (h12 : okAt 12 a12 = true) (h13 : okAt 13 a13 = true) (h14 : okAt 14 a14 = true) (h15 : okAt 15 a15 = true) (h16 : okAt 16 a16 = true) (h17 : okAt 17 a17 = true) (h18 : okAt 18 a18 = true) (h19 : okAt 19 a19 = true) (h20 : okAt 20 a20 = true) (h21 : okAt 21 a21 = true) (h22 : okAt 22 a22 = true) (h23 : okAt 23 a23 = true) (h24 : okAt 24 a24 = true) (h25 : okAt 25 a25 = true) (h26 : okAt 26 a26 = true) (h27 : okAt 27 a27 = true) (h28 : okAt 28 a28 = true) (h29 : okAt 29 a29 = true) (h30 : okAt 30 a30 = true) (h31 : okAt 31 a31 = true) (h32 : okAt 32 a32 = true) (h33 : okAt 33 a33 = true) (h34 : okAt 34 a34 = true) (h35 : okAt 35 a35 = true) : ∃ f : Nat → UInt8, [a0, a1, a2, a3, a4, a5, a6, a7, a8, a9, a10, a11, a12, a13, a14, a15, a16, a17, a18, a19, a20, a21, a22, a23, a24, a25, a26, a27, a28, a29, a30, a31, a32, a33, a34, a35] = nm f 16 := by
  obtain rfl : a8 = 45 := by simpa [okAt] using h8
  obtain rfl : a13 = 45 := by simpa [okAt] using h13
  obtain rfl : a18 = 45 := by simpa [okAt] using h18
  obtain rfl : a23 = 45 := by simpa [okAt] using h23
  obtain rfl : a14 = 52 := by simpa [okAt] using h14
  have k19 := okh8 a19 h19
  obtain ⟨f, hf⟩ : ∃ f : Nat → UInt8, f = fun k => if k = 0 then mk a0 a1 else if k = 1 then mk a2 a3 else if k = 2 then mk a4 a5 else if k = 3 then mk a6 a7 else if k = 4 then mk a9 a10 else if k = 5 then mk a11 a12 else if k = 6 then mk 52 a15 else if k = 7 then mk a16 a17 else if k = 8 then mk a19 a20 else if k = 9 then mk a21 a22 else if k = 10 then mk a24 a25 else if k = 11 then mk a26 a27 else if k = 12 then mk a28 a29 else if k = 13 then mk a30 a31 else if k = 14 then mk a32 a33 else if k = 15 then mk a34 a35 else 0 := ⟨_, rfl⟩
  obtain ⟨d0, e0⟩ := D_mk f 0 a0 a1 (by rw [hf]; rfl) h0 h1 (by intro h; omega) (by intro h; omega)
  obtain ⟨d1, e1⟩ := D_mk f 1 a2 a3 (by rw [hf]; rfl) h2 h3 (by intro h; omega) (by intro h; omega)
  obtain ⟨d2, e2⟩ := D_mk f 2 a4 a5 (by rw [hf]; rfl) h4 h5 (by intro h; omega) (by intro h; omega)
  obtain ⟨d3, e3⟩ := D_mk f 3 a6 a7 (by rw [hf]; rfl) h6 h7 (by intro h; omega) (by intro h; omega)
  obtain ⟨d4, e4⟩ := D_mk f 4 a9 a10 (by rw [hf]; rfl) h9 h10 (by intro h; omega) (by intro h; omega)
  obtain ⟨d5, e5⟩ := D_mk f 5 a11 a12 (by rw [hf]; rfl) h11 h12 (by intro h; omega) (by intro h; omega)
  obtain ⟨d6, e6⟩ := D_mk f 6 52 a15 (by rw [hf]; rfl) okh52.1 h15 (by intro _; exact okh52.2) (by intro h; omega)
  obtain ⟨d7, e7⟩ := D_mk f 7 a16 a17 (by rw [hf]; rfl) h16 h17 (by intro h; omega) (by intro h; omega)
  obtain ⟨d8, e8⟩ := D_mk f 8 a19 a20 (by rw [hf]; rfl) k19.1 h20 (by intro h; omega) (by intro _; exact k19.2)
  obtain ⟨d9, e9⟩ := D_mk f 9 a21 a22 (by rw [hf]; rfl) h21 h22 (by intro h; omega) (by intro h; omega)
  obtain ⟨d10, e10⟩ := D_mk f 10 a24 a25 (by rw [hf]; rfl) h24 h25 (by intro h; omega) (by intro h; omega)
  obtain ⟨d11, e11⟩ := D_mk f 11 a26 a27 (by rw [hf]; rfl) h26 h27 (by intro h; omega) (by intro h; omega)
  obtain ⟨d12, e12⟩ := D_mk f 12 a28 a29 (by rw [hf]; rfl) h28 h29 (by intro h; omega) (by intro h; omega)
  obtain ⟨d13, e13⟩ := D_mk f 13 a30 a31 (by rw [hf]; rfl) h30 h31 (by intro h; omega) (by intro h; omega)
  obtain ⟨d14, e14⟩ := D_mk f 14 a32 a33 (by rw [hf]; rfl) h32 h33 (by intro h; omega) (by intro h; omega)
  obtain ⟨d15, e15⟩ := D_mk f 15 a34 a35 (by rw [hf]; rfl) h34 h35 (by intro h; omega) (by intro h; omega)
  refine ⟨f, ?_⟩
  rw [nm_list, d0, e0, d1, e1, d2, e2, d3, e3, d4, e4, d5, e5, d6, e6, d7, e7, d8, e8, d9, e9, d10, e10, d11, e11, d12, e12, d13, e13, d14, e14, d15, e15]
theorem peel {n : Nat} {L : List UInt8} (h : L.length = n + 1) : ∃ a M, L = a :: M ∧ M.length = n := by
  match L, h with
  | a :: M, h => exact ⟨a, M, rfl, by simpa using h⟩
theorem isn_name (L : List UInt8) (h : isn L) : ∃ f : Nat → UInt8, L = nm f 16 := by
  have g0 := h.1
  obtain ⟨a0, M0, rfl, g1⟩ := peel g0
  obtain ⟨a1, M1, rfl, g2⟩ := peel g1
  obtain ⟨a2, M2, rfl, g3⟩ := peel g2
  obtain ⟨a3, M3, rfl, g4⟩ := peel g3
  obtain ⟨a4, M4, rfl, g5⟩ := peel g4
  obtain ⟨a5, M5, rfl, g6⟩ := peel g5
  obtain ⟨a6, M6, rfl, g7⟩ := peel g6
  obtain ⟨a7, M7, rfl, g8⟩ := peel g7
  obtain ⟨a8, M8, rfl, g9⟩ := peel g8
  obtain ⟨a9, M9, rfl, g10⟩ := peel g9
  obtain ⟨a10, M10, rfl, g11⟩ := peel g10
  obtain ⟨a11, M11, rfl, g12⟩ := peel g11
  obtain ⟨a12, M12, rfl, g13⟩ := peel g12
  obtain ⟨a13, M13, rfl, g14⟩ := peel g13
  obtain ⟨a14, M14, rfl, g15⟩ := peel g14
  obtain ⟨a15, M15, rfl, g16⟩ := peel g15
  obtain ⟨a16, M16, rfl, g17⟩ := peel g16
  obtain ⟨a17, M17, rfl, g18⟩ := peel g17
  obtain ⟨a18, M18, rfl, g19⟩ := peel g18
  obtain ⟨a19, M19, rfl, g20⟩ := peel g19
  obtain ⟨a20, M20, rfl, g21⟩ := peel g20
  obtain ⟨a21, M21, rfl, g22⟩ := peel g21
  obtain ⟨a22, M22, rfl, g23⟩ := peel g22
  obtain ⟨a23, M23, rfl, g24⟩ := peel g23
  obtain ⟨a24, M24, rfl, g25⟩ := peel g24
  obtain ⟨a25, M25, rfl, g26⟩ := peel g25
  obtain ⟨a26, M26, rfl, g27⟩ := peel g26
  obtain ⟨a27, M27, rfl, g28⟩ := peel g27
  obtain ⟨a28, M28, rfl, g29⟩ := peel g28
  obtain ⟨a29, M29, rfl, g30⟩ := peel g29
  obtain ⟨a30, M30, rfl, g31⟩ := peel g30
  obtain ⟨a31, M31, rfl, g32⟩ := peel g31
  obtain ⟨a32, M32, rfl, g33⟩ := peel g32
  obtain ⟨a33, M33, rfl, g34⟩ := peel g33
  obtain ⟨a34, M34, rfl, g35⟩ := peel g34
  obtain ⟨a35, M35, rfl, g36⟩ := peel g35
  obtain rfl := List.eq_nil_of_length_eq_zero g36
  exact name_of a0 a1 a2 a3 a4 a5 a6 a7 a8 a9 a10 a11 a12 a13 a14 a15 a16 a17 a18 a19 a20 a21 a22 a23 a24 a25 a26 a27 a28 a29 a30 a31 a32 a33 a34 a35 (h.2 0 (by simp)) (h.2 1 (by simp)) (h.2 2 (by simp)) (h.2 3 (by simp)) (h.2 4 (by simp)) (h.2 5 (by simp)) (h.2 6 (by simp)) (h.2 7 (by simp)) (h.2 8 (by simp)) (h.2 9 (by simp)) (h.2 10 (by simp)) (h.2 11 (by simp)) (h.2 12 (by simp)) (h.2 13 (by simp)) (h.2 14 (by simp)) (h.2 15 (by simp)) (h.2 16 (by simp)) (h.2 17 (by simp)) (h.2 18 (by simp)) (h.2 19 (by simp)) (h.2 20 (by simp)) (h.2 21 (by simp)) (h.2 22 (by simp)) (h.2 23 (by simp)) (h.2 24 (by simp)) (h.2 25 (by simp)) (h.2 26 (by simp)) (h.2 27 (by simp)) (h.2 28 (by simp)) (h.2 29 (by simp)) (h.2 30 (by simp)) (h.2 31 (by simp)) (h.2 32 (by simp)) (h.2 33 (by simp)) (h.2 34 (by simp)) (h.2 35 (by simp))
theorem isn_names (L : List UInt8) (h : isn L) : ∃ f : Nat → UInt8, L = nm f 16 := isn_name L h
/-- A text is its own digits' name just if it is a name. -/
theorem own_isn (L : List UInt8) : own L = L ↔ isn L := by
  constructor
  · intro h
    rw [← h]
    exact nm_isn _
  · intro h
    obtain ⟨f, rfl⟩ := isn_names L h
    exact own_name f
theorem okAt_low (k : Nat) (c : UInt8) (h : okAt k c = true) (h1 : 65 ≤ c.toNat) (h2 : c.toNat ≤ 70) : False := by
  have e : ∀ d : UInt8, (c == d) = true → c.toNat = d.toNat := fun d hd => by rw [eq_of_beq hd]
  unfold okAt at h
  split at h
  · have := e 45 h; have : (45 : UInt8).toNat = 45 := rfl; omega
  · split at h
    · have := e 52 h; have : (52 : UInt8).toNat = 52 := rfl; omega
    · split at h
      · simp only [Bool.or_eq_true] at h
        have q1 : (56 : UInt8).toNat = 56 := rfl
        have q2 : (57 : UInt8).toNat = 57 := rfl
        have q3 : (97 : UInt8).toNat = 97 := rfl
        have q4 : (98 : UInt8).toNat = 98 := rfl
        rcases h with ((h | h) | h) | h <;> have := e _ h <;> omega
      · unfold okh at h
        simp at h
        omega
/-- A name with a capital letter is none. -/
theorem capital (f : Nat → UInt8) (k : Nat) (hk : k < (nm f 16).length) (c : UInt8) (h1 : 65 ≤ c.toNat) (h2 : c.toNat ≤ 70) : own ((nm f 16).set k c) ≠ (nm f 16).set k c ∧ (nm f 16).set k c ≠ nm f 16 := by
  constructor
  · intro h
    have := ((own_isn _).1 h).2 k (by simpa using hk)
    rw [List.getElem_set_self] at this
    exact okAt_low k c this h1 h2
  · intro h
    have := (nm_isn f).2 k hk
    rw [show (nm f 16)[k] = c from ?_] at this
    · exact okAt_low k c this h1 h2
    · have e : ((nm f 16).set k c)[k]'(by simpa using hk) = c := List.getElem_set_self _
      simp only [h] at e
      exact e
theorem ahead (f : Nat → UInt8) (S : List UInt8) : own (S ++ nm f 16) = S ++ nm f 16 ↔ S = [] := by
  constructor
  · intro h
    have h1 := ((own_isn _).1 h).1
    have h2 := (nm_isn f).1
    rw [List.length_append, h2] at h1
    exact List.eq_nil_of_length_eq_zero (by omega)
  · rintro rfl
    rw [List.nil_append]
    exact own_name f
theorem behind (f : Nat → UInt8) (S : List UInt8) : own (nm f 16 ++ S) = nm f 16 ++ S ↔ S = [] := by
  constructor
  · intro h
    have h1 := ((own_isn _).1 h).1
    have h2 := (nm_isn f).1
    rw [List.length_append, h2] at h1
    exact List.eq_nil_of_length_eq_zero (by omega)
  · rintro rfl
    rw [List.append_nil]
    exact own_name f
end Go.Proofs.Ytdgdmlchegjejaa.IdnR
