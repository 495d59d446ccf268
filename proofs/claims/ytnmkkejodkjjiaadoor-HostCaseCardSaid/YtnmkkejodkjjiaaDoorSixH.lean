/- IPv6 addresses: what is printed, plain; six.join, six.longest. -/
import Derived.Test.YtnmkkejodkjjiaaDoorSixC
import Derived.Test.YtnmkkejodkjjiaaDoorSixG
namespace Go.Proofs.YtnmkkejodkjjiaaDoor.SixH
open Go.RowKit Go.Proofs.YtnmkkejodkjjiaaDoor.Base Go.Proofs.YtnmkkejodkjjiaaDoor.Base2 Go.Proofs.YtnmkkejodkjjiaaDoor.QudP Go.Proofs.YtnmkkejodkjjiaaDoor.SixP Go.Proofs.YtnmkkejodkjjiaaDoor.SixQ Go.Proofs.YtnmkkejodkjjiaaDoor.SixA Go.Proofs.YtnmkkejodkjjiaaDoor.SixB Go.Proofs.YtnmkkejodkjjiaaDoor.SixC Go.Proofs.YtnmkkejodkjjiaaDoor.SixG

theorem hxs_len : ∀ (f u : Nat) (acc : List UInt8), (hxs f u acc).length ≤ f + 1 + acc.length
  | 0, u, acc => by simp [hxs]; omega
  | f + 1, u, acc => by
    unfold hxs
    split
    · have := hxs_len f (u / 16) (hexd (u % 16) :: acc)
      simp at this ⊢
      omega
    · simp; omega
theorem hx_len (n : Nat) : (hx n).length ≤ 4 := hxs_len 3 n []
theorem hxs_last : ∀ (f u : Nat) (acc : List UInt8), ∃ pre, hxs f u acc = pre ++ hexd (u % 16) :: acc ∨ (u < 16 ∨ f = 0) ∧ hxs f u acc = hexd u :: acc
  | 0, u, acc => ⟨[], .inr ⟨.inr rfl, rfl⟩⟩
  | f + 1, u, acc => by
    unfold hxs
    split
    · rw [hxs_acc]
      exact ⟨_, .inl rfl⟩
    · exact ⟨[], .inr ⟨.inl (by omega), rfl⟩⟩
/-- The last digit of a piece. -/
theorem hx_last (n : Nat) (h : n < 65536) : ∃ pre, hx n = pre ++ [hexd (n % 16)] := by
  by_cases h16 : 16 ≤ n
  · exact ⟨_, hx_big h16 h⟩
  · refine ⟨[], ?_⟩
    rw [hx_small (by omega), show n % 16 = n by omega]
    rfl
theorem hexd_ok (d : Nat) (h : d < 16) : isD 16 (hexd d) = true ∧ dv (hexd d) = d ∧ hexd d ≠ 58 ∧ hexd d ≠ 46 := by
  have H : ∀ d : Fin 16, isD 16 (hexd d.val) = true ∧ dv (hexd d.val) = d.val ∧ hexd d.val ≠ 58 ∧ hexd d.val ≠ 46 := by decide +kernel
  exact H ⟨d, h⟩
/-- Texts with colons between. -/
def joinC : List (List UInt8) → List UInt8
  | [] => []
  | [x] => x
  | x :: y :: r => x ++ 58 :: joinC (y :: r)
theorem joinC_snoc : ∀ (xs : List (List UInt8)) (y : List UInt8), xs ≠ [] → joinC (xs ++ [y]) = joinC xs ++ 58 :: y
  | [], _, h => absurd rfl h
  | [x], y, _ => rfl
  | x :: z :: r, y, _ => by
    show x ++ 58 :: joinC ((z :: r) ++ [y]) = x ++ 58 :: joinC (z :: r) ++ 58 :: y
    rw [joinC_snoc (z :: r) y (by simp)]
    simp
def jx (L : List Nat) : List UInt8 := joinC (L.map hx)
theorem jx_nil : jx [] = [] := rfl
theorem jx_one (n : Nat) : jx [n] = hx n := rfl
theorem jx_snoc (L : List Nat) (n : Nat) (h : L ≠ []) : jx (L ++ [n]) = jx L ++ 58 :: hx n := by
  unfold jx
  rw [List.map_append]
  exact joinC_snoc _ _ (by simpa using h)
theorem jx_len (L : List Nat) : (jx L).length ≤ 5 * L.length := by
  have H : ∀ M : List Nat, (jx M.reverse).length ≤ 5 * M.length := by
    intro M
    induction M with
    | nil => simp [jx, joinC]
    | cons n M ih =>
      rw [List.reverse_cons]
      have := hx_len n
      by_cases h : M.reverse = []
      · rw [h, List.nil_append, jx_one, List.length_cons]
        omega
      · rw [jx_snoc _ _ h, List.length_append, List.length_cons, List.length_cons]
        omega
  have := H L.reverse
  rwa [List.reverse_reverse, List.length_reverse] at this
theorem take_snocN (L : List Nat) (k : Nat) (h : k < L.length) : L.take (k + 1) = L.take k ++ [L[k]] := List.take_succ_eq_append_getElem h
set_option maxRecDepth 100000 in
set_option maxHeartbeats 2000000 in
theorem join_any (A : Option Addr) (n c : Nat) (L : List Nat) (w : World) (hr : Rds w A n (ncells L)) (h8 : n ≤ 8) (h6 : ∀ x ∈ L, x < 65536) (hL : Lad w) :
    Calls Tryd.prog 28 #[.slice A n c] w fun e w' => e = .returned (.string (strOf (jx L))) ∧ Below w.heap.size w w' := by
  have hl : L.length = n := by rw [← length_ncells]; exact hr.1
  have HM := hid hl
  have HR := hid hr
  have HLAD := hid hL
  have H6 := hid h6
  clear hr hL h6 hl
  go_enter Tryd.func28, Tryd.ntmps28
  go_wp2
  go_loopw [3, 4, 5, 8] (fun vo _ _ vk wr => ∃ (k : Nat) (X : ByteArray), k ≤ n ∧ vk = .int .i64 (k : Int) ∧ vo = .string X ∧ Hid (X = strOf (jx (L.take k))) ∧ Hid (Below w.heap.size w wr)) (fun _ _ _ vk _ => n - (intOf vk).toNat)
  case atStart => exact ⟨0, ⟨#[]⟩, by omega, rfl, rfl, rfl, Below.refl _ _⟩
  case round =>
    obtain ⟨k, X, hk, rfl, rfl, HX, HB⟩ := hrel
    by_cases hlt : k < n
    · obtain ⟨b, off, rfl, _, _⟩ := HR.out.spot (by omega)
      obtain ⟨x, hx⟩ : ∃ x, L[k]'(by rw [HM.out]; exact hlt) = x := ⟨_, rfl⟩
      have hcl : wr.cell? ⟨b, off + k, none⟩ = some (.int .u16 (x : Int)) := by
        obtain ⟨b', o', e1, _, hc'⟩ := (HR.out.below HB.out).2 k (by rw [length_ncells, HM.out]; exact hlt)
        cases e1
        rw [hc']
        simp [ncells, hx]
      have hx6 : x < 65536 := by rw [← hx]; exact H6.out _ (List.getElem_mem _)
      have HT : Hid (L.take (k + 1) = L.take k ++ [x]) := by show _ = _; rw [take_snocN L k (by rw [HM.out]; exact hlt), hx]
      have hwx : IntKind.u64.wrap (x : Int) = (x : Int) := by simp [IntKind.wrap, IntKind.signed, IntKind.bits]; omega
      have HX6 := hid hx6
      clear hx6
      have HXL : Hid (X.size ≤ 40) := by
        show _ ≤ _
        rw [HX.out, size_strOf]
        have := jx_len (L.take k)
        rw [List.length_take] at this
        omega
      have hhl := hx_len x
      clear hx
      obtain ⟨Z, hZ⟩ : ∃ Z, Z = strOf (jx (L.take (k + 1))) := ⟨_, rfl⟩
      have HZ := hid hZ
      by_cases hk0 : k = 0
      · have HK0 := hid hk0
        have hk1 : ¬ (0 : Int) < (k : Int) := by omega
        clear hk0
        have a2 : ∀ w : World, (Op.stringOp .add X (strOf (hx x))).run Tryd.prog w = .ok (.string Z) w := fun w => by
          rw [hZ, HT.out, HX.out, HK0.out, List.take_zero, List.nil_append, jx_one, jx_nil]
          exact str_add [] (hx x) w (by simp; omega)
        clear hZ hhl
        go_wp2_with fail
        refine (format_any x HX6.out _ (HLAD.out.below HB.out)).mono ?_
        rintro e w2 ⟨rfl, hb2⟩
        have HB2 : Hid (Below w.heap.size w w2) := bel HB.out hb2
        clear hb2
        go_wp2
        go_roundw
        case rel => exact ⟨k + 1, Z, by omega, by go_num, rfl, HZ.out, HB2.out⟩
        case measure => simp [intOf]; omega
      · have hk1 : (0 : Int) < (k : Int) := by omega
        obtain ⟨Y, hY⟩ : ∃ Y, Y = strOf (jx (L.take k) ++ [58]) := ⟨_, rfl⟩
        have a1 : ∀ w : World, (Op.stringOp .add X ⟨#[58]⟩).run Tryd.prog w = .ok (.string Y) w := fun w => by
          rw [hY, HX.out]
          refine str_add _ [58] w ?_
          have := HXL.out
          rw [HX.out, size_strOf] at this
          simp
          omega
        have a2 : ∀ w : World, (Op.stringOp .add Y (strOf (hx x))).run Tryd.prog w = .ok (.string Z) w := fun w => by
          have hne : L.take k ≠ [] := by
            intro h
            have := congrArg List.length h
            rw [List.length_take, HM.out] at this
            simp at this
            omega
          rw [hZ, HT.out, jx_snoc _ _ hne, hY, show jx (L.take k) ++ 58 :: hx x = (jx (L.take k) ++ [58]) ++ hx x by simp]
          refine str_add _ _ w ?_
          have := HXL.out
          rw [HX.out, size_strOf] at this
          rw [List.length_append]
          simp
          omega
        clear hZ hY hhl hk0
        go_wp2_with fail
        refine (format_any x HX6.out _ (HLAD.out.below HB.out)).mono ?_
        rintro e w2 ⟨rfl, hb2⟩
        have HB2 : Hid (Below w.heap.size w w2) := bel HB.out hb2
        clear hb2
        go_wp2
        go_roundw
        case rel => exact ⟨k + 1, Z, by omega, by go_num, rfl, HZ.out, HB2.out⟩
        case measure => simp [intOf]; omega
    · obtain rfl : k = n := by omega
      have HE : Hid (X = strOf (jx L)) := by show _ = _; rw [HX.out, List.take_of_length_le (by rw [HM.out]; exact Nat.le_refl _)]
      go_wp2
      go_ret
      exact ⟨by rw [HE.out]; rfl, HB.out⟩
/-- How many noughts stand at a place. -/
def run (Z : List Bool) (k : Nat) : Nat := ((Z.drop k).takeWhile id).length
theorem run_zero {Z : List Bool} {k : Nat} (h : k < Z.length) (hz : Z[k] = true) : run Z k = 1 + run Z (k + 1) := by
  unfold run
  rw [List.drop_eq_getElem_cons h, List.takeWhile_cons, hz]
  simp
  omega
theorem run_nz {Z : List Bool} {k : Nat} (h : k < Z.length) (hz : Z[k] = false) : run Z k = 0 := by
  unfold run
  rw [List.drop_eq_getElem_cons h, List.takeWhile_cons, hz]
  rfl
theorem run_end {Z : List Bool} {k : Nat} (h : Z.length ≤ k) : run Z k = 0 := by
  unfold run
  rw [List.drop_eq_nil_of_le h]
  rfl
/-- The first longest run, as the code finds it. -/
def goC (Z : List Bool) : Nat → Nat → Nat → Nat → Nat × Nat
  | 0, _, f, t => (f, t)
  | fu + 1, k, f, t => if k < Z.length then (if t - f < run Z k then goC Z fu (k + run Z k + 1) k (k + run Z k) else goC Z fu (k + run Z k + 1) f t) else (f, t)
def lng (Z : List Bool) : Nat × Nat := goC Z 9 0 0 0
/-- As the document finds it. -/
def goR (Z : List Bool) : Nat → Nat → Option Nat → Nat → Option Nat × Nat
  | 0, _, f, l => (f, l)
  | fu + 1, k, f, l => if k < Z.length then (if l < run Z k then goR Z fu (k + 1) (some k) (run Z k) else goR Z fu (k + 1) f l) else (f, l)
def lngR (Z : List Bool) : Option Nat × Nat := goR Z 8 0 none 1
theorem lng_facts : ∀ b0 b1 b2 b3 b4 b5 b6 b7 : Bool, (lng [b0, b1, b2, b3, b4, b5, b6, b7]).1 ≤ (lng [b0, b1, b2, b3, b4, b5, b6, b7]).2 ∧ (lng [b0, b1, b2, b3, b4, b5, b6, b7]).2 ≤ 8 ∧ (([b0, b1, b2, b3, b4, b5, b6, b7].take (lng [b0, b1, b2, b3, b4, b5, b6, b7]).2).drop (lng [b0, b1, b2, b3, b4, b5, b6, b7]).1).all id = true ∧
    lngR [b0, b1, b2, b3, b4, b5, b6, b7] = if (lng [b0, b1, b2, b3, b4, b5, b6, b7]).2 - (lng [b0, b1, b2, b3, b4, b5, b6, b7]).1 < 2 then (none, 1) else (some (lng [b0, b1, b2, b3, b4, b5, b6, b7]).1, (lng [b0, b1, b2, b3, b4, b5, b6, b7]).2 - (lng [b0, b1, b2, b3, b4, b5, b6, b7]).1) := by decide +kernel
def V8 (f : Nat → Nat) : List Nat := [f 0, f 1, f 2, f 3, f 4, f 5, f 6, f 7]
def zs (f : Nat → Nat) : List Bool := (V8 f).map (· == 0)
theorem zs_length (f : Nat → Nat) : (zs f).length = 8 := rfl
theorem eight (i : Nat) (h : i < 8) : i = 0 ∨ i = 1 ∨ i = 2 ∨ i = 3 ∨ i = 4 ∨ i = 5 ∨ i = 6 ∨ i = 7 := by omega
theorem V8_get (f : Nat → Nat) (k : Nat) (h : k < 8) (h2 : k < (V8 f).length) : (V8 f)[k] = f k := by
  rcases eight k h with rfl | rfl | rfl | rfl | rfl | rfl | rfl | rfl <;> rfl
theorem zs_get (f : Nat → Nat) (k : Nat) (h : k < 8) (h2 : k < (zs f).length) : (zs f)[k] = (f k == 0) := by
  rcases eight k h with rfl | rfl | rfl | rfl | rfl | rfl | rfl | rfl <;> rfl
def A8 (f : Nat → Nat) : Value := .agg #[.int .u16 (f 0 : Int), .int .u16 (f 1 : Int), .int .u16 (f 2 : Int), .int .u16 (f 3 : Int), .int .u16 (f 4 : Int), .int .u16 (f 5 : Int), .int .u16 (f 6 : Int), .int .u16 (f 7 : Int)]
theorem goC_end {Z : List Bool} {fu k f t : Nat} (h : Z.length ≤ k) : goC Z fu k f t = (f, t) := by
  cases fu with
  | zero => rfl
  | succ fu => unfold goC; rw [if_neg (by omega)]
end Go.Proofs.YtnmkkejodkjjiaaDoor.SixH
