/- IPv4 addresses: the law's digits of base 8 and 16; parts, in whatever of the three ways each is written. -/
import Derived.Test.YtbjohoocgmfhpaaDoorQudI
namespace Go.Proofs.YtbjohoocgmfhpaaDoor.QudJ
open Go.RowKit Go.Proofs.YtbjohoocgmfhpaaDoor.Base Go.Proofs.YtbjohoocgmfhpaaDoor.Base2 Go.Proofs.YtbjohoocgmfhpaaDoor.UtfA Go.Proofs.YtbjohoocgmfhpaaDoor.QudP Go.Proofs.YtbjohoocgmfhpaaDoor.QudE Go.Proofs.YtbjohoocgmfhpaaDoor.QudG Go.Proofs.YtbjohoocgmfhpaaDoor.QudI

def chr (d : Nat) : UInt8 := if d < 10 then UInt8.ofNat (48 + d) else UInt8.ofNat (87 + d)
def dgsF (b : Nat) : Nat → Nat → List UInt8
  | 0, n => [chr (n % b)]
  | k + 1, n => if n < b then [chr (n % b)] else dgsF b k (n / b) ++ [chr (n % b)]
theorem dgsF_more (b : Nat) (hb : 2 ≤ b) : ∀ (k m n : Nat), n < k → n < m → dgsF b k n = dgsF b m n
  | 0, m, n, h, _ => absurd h (by omega)
  | k + 1, 0, n, _, h => absurd h (by omega)
  | k + 1, m + 1, n, h1, h2 => by
    unfold dgsF
    split
    · rfl
    · rename_i h
      have hd : n / b < n := Nat.div_lt_self (by omega) (by omega)
      rw [dgsF_more b hb k m (n / b) (by omega) (by omega)]
def dgs (b n : Nat) : List UInt8 := dgsF b (n + 1) n
theorem dgs_small (b n : Nat) (h : n < b) : dgs b n = [chr (n % b)] := by unfold dgs dgsF; rw [if_pos h]
theorem dgs_big (b n : Nat) (hb : 2 ≤ b) (h : ¬ n < b) : dgs b n = dgs b (n / b) ++ [chr (n % b)] := by
  have hd : n / b < n := Nat.div_lt_self (by omega) (by omega)
  conv => lhs; unfold dgs dgsF
  rw [if_neg h, dgsF_more b hb n (n / b + 1) (n / b) hd (by omega)]
  rfl
theorem chr_dv (d : Nat) (h : d < 16) : dv (chr d) = d ∧ isD 16 (chr d) = true ∧ (d < 8 → isD 8 (chr d) = true) := by
  have H : ∀ d : Fin 16, dv (chr d.val) = d.val ∧ isD 16 (chr d.val) = true ∧ (d.val < 8 → isD 8 (chr d.val) = true) := by decide +kernel
  exact H ⟨d, h⟩
theorem chr_isD (b d : Nat) (hb : b = 8 ∨ b = 16) (h : d < b) : isD b (chr d) = true := by
  rcases hb with rfl | rfl
  · exact (chr_dv d (by omega)).2.2 h
  · exact (chr_dv d h).2.1
theorem dgs_val (b : Nat) (hb : b = 8 ∨ b = 16) : ∀ (N n : Nat), n < N → val b (dgs b n) = n ∧ digs b (dgs b n) = true ∧ dgs b n ≠ []
  | 0, n, h => absurd h (by omega)
  | N + 1, n, hN => by
    have hb0 : 0 < b := by omega
    have hm : n % b < b := Nat.mod_lt _ hb0
    have h1 := (chr_dv (n % b) (by omega)).1
    have h2 := chr_isD b (n % b) hb hm
    by_cases h : n < b
    · rw [dgs_small b n h]
      refine ⟨?_, ?_, by simp⟩
      · show 0 * b + dv (chr (n % b)) = n
        rw [h1, Nat.mod_eq_of_lt h]; omega
      · show (isD b (chr (n % b)) && true) = true
        rw [h2]; rfl
    · have hd : n / b < n := Nat.div_lt_self (by omega) (by omega)
      obtain ⟨i1, i2, i3⟩ := dgs_val b hb N (n / b) (by omega)
      rw [dgs_big b n (by omega) h]
      refine ⟨by rw [val_snoc, i1, h1]; have := Nat.div_add_mod n b; rw [Nat.mul_comm]; exact this, ?_, by simp⟩
      unfold digs at i2 ⊢
      rw [List.all_append, i2, List.all_cons, h2]
      rfl
theorem dgs_len (b : Nat) (hb : b = 8 ∨ b = 16) (n : Nat) (h : n < 256) : (dgs b n).length ≤ 3 := by
  have H : ∀ n : Fin 256, (dgs 8 n.val).length ≤ 3 ∧ (dgs 16 n.val).length ≤ 3 := by decide +kernel
  have := H ⟨n, h⟩
  rcases hb with rfl | rfl
  · exact this.1
  · exact this.2
/-- A part that is this number. -/
structure Part (q : List UInt8) (v : Nat) : Prop where
  num : QudP.num q = some v
  dot : ∀ c ∈ q, c ≠ 46
  ne : q ≠ []
  len : q.length ≤ 6
theorem part_dec (v : Nat) (h : v < 256) : Part (Lib.decDigits v) v := ⟨num_dec v, dec_dot v, dec_ne v, by have := len3 v h; omega⟩
theorem part_oct (v : Nat) (h : v < 256) : Part (48 :: dgs 8 v) v := by
  obtain ⟨h1, h2, h3⟩ := dgs_val 8 (.inl rfl) (v + 1) v (by omega)
  have hdot := digs_dot 8 _ h2
  have hl := dgs_len 8 (.inl rfl) v h
  cases hL : dgs 8 v with
  | nil => exact absurd hL h3
  | cons x r =>
    rw [hL] at h1 h2 hdot hl
    have hx : ¬ (x = 120 ∨ x = 88) := by
      have := List.all_eq_true.1 h2 x (by simp)
      rintro (rfl | rfl) <;> exact absurd this (by decide +kernel)
    refine ⟨?_, ?_, by simp, by simp at hl ⊢; omega⟩
    · unfold QudP.num
      rw [if_neg (by simp), QudA.shp_8 48 x r rfl hx]
      simp only
      rw [if_pos h2, h1]
    · intro c hc
      rcases List.mem_cons.1 hc with rfl | hc
      · decide
      · exact hdot c hc
theorem part_hex (v : Nat) (h : v < 256) : Part (48 :: 120 :: dgs 16 v) v := by
  obtain ⟨h1, h2, h3⟩ := dgs_val 16 (.inr rfl) (v + 1) v (by omega)
  have hdot := digs_dot 16 _ h2
  have hl := dgs_len 16 (.inr rfl) v h
  refine ⟨?_, ?_, by simp, by simp; omega⟩
  · unfold QudP.num
    rw [if_neg (by simp), QudA.shp_x 48 120 _ rfl (.inl rfl)]
    simp only
    rw [if_pos h2, h1]
  · intro c hc
    rcases List.mem_cons.1 hc with rfl | hc
    · decide
    · rcases List.mem_cons.1 hc with rfl | hc
      · decide
      · exact hdot c hc
/-- In whatever way. -/
def wt (m v : Nat) : List UInt8 := if m = 0 then Lib.decDigits v else if m = 1 then 48 :: dgs 8 v else 48 :: 120 :: dgs 16 v
theorem part_wt (m v : Nat) (h : v < 256) : Part (wt m v) v := by
  unfold wt
  split
  · exact part_dec v h
  · split
    · exact part_oct v h
    · exact part_hex v h
def four (a b c d : List UInt8) : List UInt8 := a ++ [46] ++ b ++ [46] ++ c ++ [46] ++ d
theorem splt_four {a b c d : List UInt8} {u v x y : Nat} (ha : Part a u) (hb : Part b v) (hc : Part c x) (hd : Part d y) : splt (four a b c d) = [a, b, c, d] := by
  unfold four
  simp only [List.append_assoc, List.cons_append, List.nil_append]
  rw [splt_dot _ _ ha.dot, splt_dot _ _ hb.dot, splt_dot _ _ hc.dot, nodot _ hd.dot]
theorem prs_four {a b c d : List UInt8} {u v x y : Nat} (ha : Part a u) (hb : Part b v) (hc : Part c x) (hd : Part d y) (n : Nat) (h1 : u = n / 16777216) (h2 : v = n / 65536 % 256) (h3 : x = n / 256 % 256) (h4 : y = n % 256) (hn : n < 4294967296) :
    prs (four a b c d) = some n ∧ ends (four a b c d) = true := by
  have hu : unp (four a b c d) = four a b c d := unp_part (a ++ [46] ++ b ++ [46] ++ c ++ [46]) d hd.ne hd.dot
  have hs := splt_four ha hb hc hd
  constructor
  · unfold prs
    rw [hu, hs, if_pos (by simp), adr_on _ _ _ _ _ _ ha.num (by omega), adr_on _ _ _ _ _ _ hb.num (by omega), adr_on _ _ _ _ _ _ hc.num (by omega), adr_last _ _ _ _ hd.num (by omega)]
    congr 1
    omega
  · unfold ends lst
    rw [hu, hs]
    show ((QudP.num d).isSome || _) = true
    rw [hd.num]
    rfl
def ALL : ByteArray := ⟨#[48, 49, 50, 51, 52, 53, 54, 55, 56, 57, 97, 98, 99, 100, 101, 102]⟩
theorem cut_all (d : Nat) (h : d < 16) : ALL.extract d (d + 1) = strOf [chr d] := by
  have H : ∀ d : Fin 16, (ALL.data.toList.drop d.val).take 1 = [chr d.val] := by decide +kernel
  rw [QudC.ext_mid]
  congr 1
  have := H ⟨d, h⟩
  rw [← this, List.drop_take]
  congr 1
  show d + 1 - d = 1
  omega
set_option linter.unusedSimpArgs false in
set_option maxHeartbeats 4000000 in
theorem lawDigits_any (b : Nat) (hb : b = 8 ∨ b = 16) : ∀ (N n : Nat), n < N → n < 4294967296 → ∀ w : World, Calls Tryd.prog 15 #[.int .u32 (n : Int), .int .u32 (b : Int)] w fun e w' => e = .returned (.string (strOf (dgs b n))) ∧ Below w.heap.size w w'
  | 0, n, h, _, w => absurd h (by omega)
  | N + 1, n, hN, hn, w => by
    have hb0 : 0 < b := by omega
    obtain ⟨d, hd⟩ : ∃ d, d = n % b := ⟨_, rfl⟩
    have hdb : d < b := by rw [hd]; exact Nat.mod_lt _ hb0
    have hd16 : d < 16 := by omega
    have q1 : (n : Int).tmod (b : Int) = (d : Int) := by rw [Int.tmod_eq_emod_of_nonneg (by omega), hd]; omega
    have q2 : (n : Int) % (b : Int) = (d : Int) := by rw [hd]; omega
    have hbz : ((b : Int) == 0) = false := by simp; omega
    have hbz2 : ¬ (b : Int) = 0 := by omega
    have hcut := cut_all d hd16
    obtain ⟨C, hC⟩ : ∃ C, C = strOf [chr d] := ⟨_, rfl⟩
    rw [← hC] at hcut
    have hcut2 : (⟨#[48, 49, 50, 51, 52, 53, 54, 55, 56, 57, 97, 98, 99, 100, 101, 102]⟩ : ByteArray).extract d (d + 1) = C := hcut
    have hd0 : (0 : Int) ≤ (d : Int) := by omega
    have hd1 : (d : Int) ≤ 15 := by omega
    have hwr : IntKind.u32.wrap ((d : Int) + 1) = (d : Int) + 1 := by rw [IntKind.wrap_u32]; omega
    have hnn : ((d : Int) + 1).toNat = d + 1 := by omega
    by_cases hlt : n < b
    · have HD : Hid (strOf (dgs b n) = C) := by show _ = _; rw [dgs_small b n hlt, ← hd, hC]
      have hge : ¬ (b : Int) ≤ (n : Int) := by omega
      clear hd hC hcut hdb
      go_enter Tryd.func15, Tryd.ntmps15
      go_wp2_with fail
      go_region
      go_wp2
      go_ret
      exact ⟨by rw [HD.out]; rfl, (Below.refl _ _).drew⟩
    · have hge : (b : Int) ≤ (n : Int) := by omega
      obtain ⟨m, hm⟩ : ∃ m, m = n / b := ⟨_, rfl⟩
      have hmn : m < n := by rw [hm]; exact Nat.div_lt_self (by omega) (by omega)
      have q3 : (n : Int).tdiv (b : Int) = (m : Int) := by rw [Int.tdiv_eq_ediv_of_nonneg (by omega), hm]; omega
      have q4 : (n : Int) / (b : Int) = (m : Int) := by rw [hm]; omega
      obtain ⟨D, hD⟩ : ∃ D, D = strOf (dgs b m) := ⟨_, rfl⟩
      obtain ⟨E, hE⟩ : ∃ E, E = strOf (dgs b n) := ⟨_, rfl⟩
      have HIH : Hid (∀ w : World, Calls Tryd.prog 15 #[.int .u32 (m : Int), .int .u32 (b : Int)] w fun e w' => e = .returned (.string D) ∧ Below w.heap.size w w') := by
        intro w
        rw [hD]
        exact lawDigits_any b hb N m (by omega) (by omega) w
      have hlen : ∀ (K k : Nat), k < K → (dgs b k).length ≤ k + 1 := by
        intro K
        induction K with
        | zero => intro k h; omega
        | succ K ih =>
          intro k h
          by_cases hk : k < b
          · rw [dgs_small b k hk]; simp
          · have hkb : k / b < k := Nat.div_lt_self (by omega) (by omega)
            rw [dgs_big b k (by omega) hk, List.length_append]
            have := ih (k / b) (by omega)
            simp; omega
      have hl := hlen (m + 1) m (by omega)
      have a1 : ∀ w : World, (Op.stringOp .add D C).run Tryd.prog w = .ok (.string E) w := fun w => by
        rw [hE, dgs_big b n (by omega) hlt, ← hm, ← hd, hD, hC]
        exact str_add _ _ w (by simp; omega)
      rw [← hE]
      clear hd hC hcut hdb hm hD hE hl hlen
      go_enter Tryd.func15, Tryd.ntmps15
      go_wp2_with fail
      go_region
      go_wp2_with fail
      refine (HIH.out _).mono ?_
      rintro e w2 ⟨rfl, hb2⟩
      go_wp2
      go_ret
      exact ⟨rfl, by first | exact bel_drew (Below.refl _ _) hb2 | exact bel ((Below.refl _ _).drew) hb2⟩
end Go.Proofs.YtbjohoocgmfhpaaDoor.QudJ
