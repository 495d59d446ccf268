/- IPv4 addresses: Print, as the code does it, and as the document does; decimal numbers. -/
import Derived.Test.YtnmkkejodkjjiaaDoorQudF
import Derived.Test.YtnmkkejodkjjiaaDoorTab
import Derived.Laws.BitsAllLaws
namespace Go.Proofs.YtnmkkejodkjjiaaDoor.QudG
open Go.RowKit Go.Proofs.YtnmkkejodkjjiaaDoor.Base Go.Proofs.YtnmkkejodkjjiaaDoor.Base2 Go.Proofs.YtnmkkejodkjjiaaDoor.UtfA Go.Proofs.YtnmkkejodkjjiaaDoor.QudP Go.Proofs.YtnmkkejodkjjiaaDoor.QudA Go.Proofs.YtnmkkejodkjjiaaDoor.QudC Go.Proofs.YtnmkkejodkjjiaaDoor.QudE

theorem digits_len (k : Nat) : ∀ n, n < 10 ^ (k + 1) → (Lib.decDigits n).length ≤ k + 1 := by
  induction k with
  | zero => intro n h; rw [Lib.decDigits, dif_pos (by omega)]; simp
  | succ k ih =>
    intro n h
    rw [Lib.decDigits]
    split
    · simp
    · have := ih (n / 10) (by rw [Nat.pow_succ] at h; omega)
      rw [List.length_append]
      simp
      omega
theorem u8_dig (n : Nat) : ((UInt8.ofNat (48 + n % 10)).toNat : Int) = 48 + (n : Int) % 10 := by simp; omega
theorem one_row (c : UInt8) (w : World) : Rds (w.alloc (.cells #[.int .u8 (c.toNat : Int)] 5)) (some ⟨w.heap.size, 0, none⟩) 1 (bcells [c]) := rds_const w [c] 5 (0, 0)
theorem dec_len (n : Nat) (h : n ≤ 18446744073709551615) : (Lib.decDigits n).length ≤ 20 := digits_len 19 n (by omega)
set_option linter.unusedSimpArgs false in
set_option maxHeartbeats 4000000 in
theorem decimal_any : ∀ (N n : Nat), n < N → n ≤ 18446744073709551615 → ∀ w : World, Calls Tryd.prog 62 #[.int .u64 (n : Int)] w fun e w' => e = .returned (.string (strOf (Lib.decDigits n))) ∧ Below w.heap.size w w'
  | 0, n, h, _, w => absurd h (by omega)
  | N + 1, n, hN, hn, w => by
    obtain ⟨c, hc⟩ : ∃ c : UInt8, c = UInt8.ofNat (48 + n % 10) := ⟨_, rfl⟩
    have hcn : (c.toNat : Int) = 48 + (n : Int) % 10 := by rw [hc]; exact u8_dig n
    have q1 : (n : Int).tmod 10 = (n : Int) % 10 := Int.tmod_eq_emod_of_nonneg (by omega)
    have q2 : IntKind.u8.wrap ((n : Int) % 10) = (n : Int) % 10 := by rw [IntKind.wrap_u8]; omega
    have q3 : IntKind.u8.wrap (48 + (n : Int) % 10) = (c.toNat : Int) := by rw [IntKind.wrap_u8, hcn]; omega
    have q4 : 48 + (n : Int) % 10 = (c.toNat : Int) := hcn.symm
    have hst := fun w : World => run_string_of (P := Tryd.prog) (w := w.alloc (.cells #[.int .u8 (c.toNat : Int)] 5)) 40 9 5 Tryd.underlying40 Tryd.underlying5 Tryd.underlying9 [c] 1 (one_row c w)
    by_cases h9 : n < 10
    · have HD : Hid (Lib.decDigits n = [c]) := by rw [Lib.decDigits, dif_pos h9, hc, Nat.mod_eq_of_lt h9]; rfl
      have h9' : (n : Int) ≤ 9 := by omega
      clear hc hcn
      go_enter Tryd.func62, Tryd.ntmps62
      go_wp2
      go_ret
      exact ⟨by rw [HD.out]; rfl, (Below.refl _ _).alloc (Nat.le_refl _) _⟩
    · have h9' : 9 < (n : Int) := by omega
      obtain ⟨m, hm⟩ : ∃ m, m = n / 10 := ⟨_, rfl⟩
      have HD : Hid (Lib.decDigits n = Lib.decDigits m ++ [c]) := by rw [Lib.decDigits, dif_neg h9, hc, hm]; rfl
      have q5 : (n : Int) / 10 = (m : Int) := by omega
      have q6 : (n : Int).tdiv 10 = (m : Int) := by rw [Int.tdiv_eq_ediv_of_nonneg (by omega)]; exact q5
      have hml := dec_len m (by omega)
      have HML := hid hml
      have ih := decimal_any N m (by omega) (by omega)
      have HIH := hid ih
      have a1 : ∀ w : World, (Op.stringOp .add (strOf (Lib.decDigits m)) (strOf [c])).run Tryd.prog w = .ok (.string (strOf (Lib.decDigits m ++ [c]))) w := fun w => str_add _ _ w (by have := HML.out; simp; omega)
      clear hc hcn hm hml ih
      go_enter Tryd.func62, Tryd.ntmps62
      go_wp2_with fail
      refine (HIH.out _).mono ?_
      rintro e w2 ⟨rfl, hb2⟩
      go_wp2
      go_ret
      exact ⟨by rw [HD.out]; rfl, bel ((Below.refl _ _).alloc (Nat.le_refl _) _) hb2⟩
def p1 (n : Nat) : List UInt8 := Lib.decDigits (n / 16777216) ++ [46]
def p2 (n : Nat) : List UInt8 := p1 n ++ Lib.decDigits (n / 65536 % 256) ++ [46]
def p3 (n : Nat) : List UInt8 := p2 n ++ Lib.decDigits (n / 256 % 256) ++ [46]
def pr (n : Nat) : List UInt8 := p3 n ++ Lib.decDigits (n % 256)
theorem len3 (n : Nat) (h : n < 256) : (Lib.decDigits n).length ≤ 3 := digits_len 2 n (by omega)
theorem p1_len (n : Nat) (h : n < 4294967296) : (p1 n).length ≤ 4 := by have := len3 (n / 16777216) (by omega); simp [p1]; omega
theorem p2_len (n : Nat) (h : n < 4294967296) : (p2 n).length ≤ 8 := by have := len3 (n / 65536 % 256) (by omega); have := p1_len n h; simp [p2]; omega
theorem p3_len (n : Nat) (h : n < 4294967296) : (p3 n).length ≤ 12 := by have := len3 (n / 256 % 256) (by omega); have := p2_len n h; simp [p3]; omega
theorem pr_len (n : Nat) (h : n < 4294967296) : (pr n).length ≤ 15 := by have := len3 (n % 256) (by omega); have := p3_len n h; simp [pr]; omega
theorem and255 (a : Nat) (h : a < 4294967296) : bits .and .u32 (a : Int) 255 = ((a % 256 : Nat) : Int) := by
  have := u32_and_nat a 255 h (by omega)
  rw [show ((255 : Nat) : Int) = 255 from rfl] at this
  rw [this]
  congr 1
  exact Nat.and_two_pow_sub_one_eq_mod a 8
def pj (n : Nat) : Nat → List UInt8
  | 0 => []
  | 1 => p1 n
  | 2 => p2 n
  | 3 => p3 n
  | _ => pr n
set_option maxRecDepth 100000 in
set_option maxHeartbeats 4000000 in
theorem print_any (n : Nat) (hn : n < 4294967296) (w : World) (hT : Tab.Pow w) : Calls Tryd.prog 55 #[.int .u32 (n : Int)] w fun e w' => e = .returned (.string (strOf (pr n))) ∧ Below w.heap.size w w' := by
  have HT := hid hT
  have hni : (n : Int) < 4294967296 := by omega
  have hn0 : 0 ≤ (n : Int) := by omega
  have HPL : Hid ((p1 n).length ≤ 4 ∧ (p2 n).length ≤ 8 ∧ (p3 n).length ≤ 12) := ⟨p1_len n hn, p2_len n hn, p3_len n hn⟩
  clear hT
  go_enter Tryd.func55, Tryd.ntmps55
  go_wp2
  go_loopw [3, 4] (fun vo vs wr => ∃ j : Nat, j ≤ 4 ∧ vo = .string (strOf (pj n j)) ∧ vs = .int .i64 (24 - 8 * (j : Int)) ∧ Hid (Below w.heap.size w wr)) (fun _ vs _ => (intOf vs + 8).toNat)
  case atStart => exact ⟨0, by omega, rfl, rfl, Below.refl _ _⟩
  case round =>
    obtain ⟨j, hj, rfl, rfl, HB⟩ := hrel
    have hj5 : j = 0 ∨ j = 1 ∨ j = 2 ∨ j = 3 ∨ j = 4 := by omega
    rcases hj5 with rfl | rfl | rfl | rfl | rfl
    · obtain ⟨b, hb⟩ : ∃ b, b = n / 16777216 := ⟨_, rfl⟩
      have hb256 : b < 256 := by omega
      obtain ⟨a, ha⟩ : ∃ a, a = n / 16777216 := ⟨_, rfl⟩
      have hal : a < 4294967296 := by omega
      have hsh : (n : Int) / 16777216 = (a : Int) := by omega
      have hand : bits .and .u32 (a : Int) 255 = (b : Int) := by rw [and255 a hal]; omega
      have hbl := len3 b hb256
      have HBL := hid hbl
      have HBB := hid hb
      have hai : (a : Int) < 4294967296 := by omega
      have hbi : (b : Int) < 256 := by omega
      have a1 : ∀ w : World, (Op.stringOp .add (strOf (pj n 0)) (strOf (Lib.decDigits b))).run Tryd.prog w = .ok (.string (strOf (pj n 0 ++ Lib.decDigits b))) w := fun w => str_add _ _ w (by have h1 := HPL.out; have h2 := HBL.out; simp only [pj] at h1 ⊢; simp; omega)
      have a2 : ∀ w : World, (Op.stringOp .add (strOf (pj n 0 ++ Lib.decDigits b)) ⟨#[46]⟩).run Tryd.prog w = .ok (.string (strOf (pj n 1))) w := fun w => by
        have e : pj n 1 = pj n 0 ++ Lib.decDigits b ++ [46] := by rw [HBB.out]; rfl
        rw [e]
        exact str_add _ [46] w (by have h1 := HPL.out; have h2 := HBL.out; simp only [pj] at h1 ⊢; simp; omega)
      clear hb ha hal hbl
      generalize hX : strOf (pj n 0) = X at a1 ⊢
      generalize hY : strOf (Lib.decDigits b) = Y at a1
      generalize hZ : strOf (pj n 0 ++ Lib.decDigits b) = Z at a1 a2
      generalize hV : strOf (pj n 1) = V at a2
      have HYD := hid hY
      have HXX := hid hX
      have HZZ := hid hZ
      have HVV := hid hV
      clear hV
      clear hX hY hZ
      go_wp2_with fail
      refine (Tab.itoa_any b (by omega) _ (HT.out.below HB.out)).mono ?_
      rw [HYD.out]
      rintro e w2 ⟨rfl, hb2⟩
      have HB2 : Hid (Below w.heap.size w w2) := bel HB.out hb2
      clear hb2
      go_wp2
      go_roundw
      case rel => exact ⟨1, by omega, by rw [HVV.out], rfl, HB2⟩
      case measure => simp [intOf]
    · obtain ⟨b, hb⟩ : ∃ b, b = n / 65536 % 256 := ⟨_, rfl⟩
      have hb256 : b < 256 := by omega
      obtain ⟨a, ha⟩ : ∃ a, a = n / 65536 := ⟨_, rfl⟩
      have hal : a < 4294967296 := by omega
      have hsh : (n : Int) / 65536 = (a : Int) := by omega
      have hand : bits .and .u32 (a : Int) 255 = (b : Int) := by rw [and255 a hal]; omega
      have hbl := len3 b hb256
      have HBL := hid hbl
      have HBB := hid hb
      have hai : (a : Int) < 4294967296 := by omega
      have hbi : (b : Int) < 256 := by omega
      have a1 : ∀ w : World, (Op.stringOp .add (strOf (pj n 1)) (strOf (Lib.decDigits b))).run Tryd.prog w = .ok (.string (strOf (pj n 1 ++ Lib.decDigits b))) w := fun w => str_add _ _ w (by have h1 := HPL.out; have h2 := HBL.out; simp only [pj] at h1 ⊢; simp; omega)
      have a2 : ∀ w : World, (Op.stringOp .add (strOf (pj n 1 ++ Lib.decDigits b)) ⟨#[46]⟩).run Tryd.prog w = .ok (.string (strOf (pj n 2))) w := fun w => by
        have e : pj n 2 = pj n 1 ++ Lib.decDigits b ++ [46] := by rw [HBB.out]; rfl
        rw [e]
        exact str_add _ [46] w (by have h1 := HPL.out; have h2 := HBL.out; simp only [pj] at h1 ⊢; simp; omega)
      clear hb ha hal hbl
      generalize hX : strOf (pj n 1) = X at a1 ⊢
      generalize hY : strOf (Lib.decDigits b) = Y at a1
      generalize hZ : strOf (pj n 1 ++ Lib.decDigits b) = Z at a1 a2
      generalize hV : strOf (pj n 2) = V at a2
      have HYD := hid hY
      have HXX := hid hX
      have HZZ := hid hZ
      have HVV := hid hV
      clear hV
      clear hX hY hZ
      go_wp2_with fail
      refine (Tab.itoa_any b (by omega) _ (HT.out.below HB.out)).mono ?_
      rw [HYD.out]
      rintro e w2 ⟨rfl, hb2⟩
      have HB2 : Hid (Below w.heap.size w w2) := bel HB.out hb2
      clear hb2
      go_wp2
      go_roundw
      case rel => exact ⟨2, by omega, by rw [HVV.out], rfl, HB2⟩
      case measure => simp [intOf]
    · obtain ⟨b, hb⟩ : ∃ b, b = n / 256 % 256 := ⟨_, rfl⟩
      have hb256 : b < 256 := by omega
      obtain ⟨a, ha⟩ : ∃ a, a = n / 256 := ⟨_, rfl⟩
      have hal : a < 4294967296 := by omega
      have hsh : (n : Int) / 256 = (a : Int) := by omega
      have hand : bits .and .u32 (a : Int) 255 = (b : Int) := by rw [and255 a hal]; omega
      have hbl := len3 b hb256
      have HBL := hid hbl
      have HBB := hid hb
      have hai : (a : Int) < 4294967296 := by omega
      have hbi : (b : Int) < 256 := by omega
      have a1 : ∀ w : World, (Op.stringOp .add (strOf (pj n 2)) (strOf (Lib.decDigits b))).run Tryd.prog w = .ok (.string (strOf (pj n 2 ++ Lib.decDigits b))) w := fun w => str_add _ _ w (by have h1 := HPL.out; have h2 := HBL.out; simp only [pj] at h1 ⊢; simp; omega)
      have a2 : ∀ w : World, (Op.stringOp .add (strOf (pj n 2 ++ Lib.decDigits b)) ⟨#[46]⟩).run Tryd.prog w = .ok (.string (strOf (pj n 3))) w := fun w => by
        have e : pj n 3 = pj n 2 ++ Lib.decDigits b ++ [46] := by rw [HBB.out]; rfl
        rw [e]
        exact str_add _ [46] w (by have h1 := HPL.out; have h2 := HBL.out; simp only [pj] at h1 ⊢; simp; omega)
      clear hb ha hal hbl
      generalize hX : strOf (pj n 2) = X at a1 ⊢
      generalize hY : strOf (Lib.decDigits b) = Y at a1
      generalize hZ : strOf (pj n 2 ++ Lib.decDigits b) = Z at a1 a2
      generalize hV : strOf (pj n 3) = V at a2
      have HYD := hid hY
      have HXX := hid hX
      have HZZ := hid hZ
      have HVV := hid hV
      clear hV
      clear hX hY hZ
      go_wp2_with fail
      refine (Tab.itoa_any b (by omega) _ (HT.out.below HB.out)).mono ?_
      rw [HYD.out]
      rintro e w2 ⟨rfl, hb2⟩
      have HB2 : Hid (Below w.heap.size w w2) := bel HB.out hb2
      clear hb2
      go_wp2
      go_roundw
      case rel => exact ⟨3, by omega, by rw [HVV.out], rfl, HB2⟩
      case measure => simp [intOf]
    · obtain ⟨b, hb⟩ : ∃ b, b = n % 256 := ⟨_, rfl⟩
      have hb256 : b < 256 := by omega
      obtain ⟨a, ha⟩ : ∃ a, a = n := ⟨_, rfl⟩
      have hal : a < 4294967296 := by omega
      have hsh : (n : Int) / 1 = (a : Int) := by omega
      have hand : bits .and .u32 (a : Int) 255 = (b : Int) := by rw [and255 a hal]; omega
      have hbl := len3 b hb256
      have HBL := hid hbl
      have HBB := hid hb
      have hai : (a : Int) < 4294967296 := by omega
      have hbi : (b : Int) < 256 := by omega
      have a1 : ∀ w : World, (Op.stringOp .add (strOf (pj n 3)) (strOf (Lib.decDigits b))).run Tryd.prog w = .ok (.string (strOf (pj n 3 ++ Lib.decDigits b))) w := fun w => str_add _ _ w (by have h1 := HPL.out; have h2 := HBL.out; simp only [pj] at h1 ⊢; simp; omega)
      have HLAST : Hid (pj n 3 ++ Lib.decDigits b = pj n 4) := by show _ = _; rw [HBB.out]; rfl
      clear hb ha hal hbl
      generalize hX : strOf (pj n 3) = X at a1 ⊢
      generalize hY : strOf (Lib.decDigits b) = Y at a1
      generalize hZ : strOf (pj n 3 ++ Lib.decDigits b) = Z at a1
      have HYD := hid hY
      have HXX := hid hX
      have HZZ := hid hZ
      clear hX hY hZ
      go_wp2_with fail
      refine (Tab.itoa_any b (by omega) _ (HT.out.below HB.out)).mono ?_
      rw [HYD.out]
      rintro e w2 ⟨rfl, hb2⟩
      have HB2 : Hid (Below w.heap.size w w2) := bel HB.out hb2
      clear hb2
      go_wp2
      go_roundw
      case rel => exact ⟨4, by omega, by rw [← HZZ.out, HLAST.out], rfl, HB2⟩
      case measure => simp [intOf]
    · go_wp2
      go_ret
      exact ⟨rfl, HB.out⟩
end Go.Proofs.YtnmkkejodkjjiaaDoor.QudG
