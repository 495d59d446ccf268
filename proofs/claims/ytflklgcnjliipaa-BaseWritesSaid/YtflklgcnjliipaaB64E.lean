/- base.Encode: bytes' letters. -/
import Derived.Test.YtflklgcnjliipaaB64D
import Derived.Test.YtflklgcnjliipaaBase3
import Derived.Test.YtflklgcnjliipaaRegt
namespace Go.Proofs.Ytflklgcnjliipaa.B64E
open Go.RowKit Go.Proofs.Ytflklgcnjliipaa.Base Go.Proofs.Ytflklgcnjliipaa.Base2 Go.Proofs.Ytflklgcnjliipaa.Base3 Go.Proofs.Ytflklgcnjliipaa.Regs

def let64 (n : Nat) : UInt8 := if n < 26 then UInt8.ofNat (65 + n) else if n < 52 then UInt8.ofNat (71 + n) else if n < 62 then UInt8.ofNat (n - 4) else if n = 62 then 43 else 47
def e64 : List UInt8 → List UInt8
  | [] => []
  | [a] => [let64 (a.toNat / 4), let64 (a.toNat % 4 * 16), 61, 61]
  | [a, b] => [let64 (a.toNat / 4), let64 (a.toNat % 4 * 16 + b.toNat / 16), let64 (b.toNat % 16 * 4), 61]
  | a :: b :: c :: t => [let64 (a.toNat / 4), let64 (a.toNat % 4 * 16 + b.toNat / 16), let64 (b.toNat % 16 * 4 + c.toNat / 64), let64 (c.toNat % 64)] ++ e64 t
theorem let_at (k : Nat) (h : k < (⟨#[65, 66, 67, 68, 69, 70, 71, 72, 73, 74, 75, 76, 77, 78, 79, 80, 81, 82, 83, 84, 85, 86, 87, 88, 89, 90, 97, 98, 99, 100, 101, 102, 103, 104, 105, 106, 107, 108, 109, 110, 111, 112, 113, 114, 115, 116, 117, 118, 119, 120, 121, 122, 48, 49, 50, 51, 52, 53, 54, 55, 56, 57, 43, 47]⟩ : ByteArray).size) : (⟨#[65, 66, 67, 68, 69, 70, 71, 72, 73, 74, 75, 76, 77, 78, 79, 80, 81, 82, 83, 84, 85, 86, 87, 88, 89, 90, 97, 98, 99, 100, 101, 102, 103, 104, 105, 106, 107, 108, 109, 110, 111, 112, 113, 114, 115, 116, 117, 118, 119, 120, 121, 122, 48, 49, 50, 51, 52, 53, 54, 55, 56, 57, 43, 47]⟩ : ByteArray)[k]'h = let64 k := by
  have H : ∀ k : Fin 64, (⟨#[65, 66, 67, 68, 69, 70, 71, 72, 73, 74, 75, 76, 77, 78, 79, 80, 81, 82, 83, 84, 85, 86, 87, 88, 89, 90, 97, 98, 99, 100, 101, 102, 103, 104, 105, 106, 107, 108, 109, 110, 111, 112, 113, 114, 115, 116, 117, 118, 119, 120, 121, 122, 48, 49, 50, 51, 52, 53, 54, 55, 56, 57, 43, 47]⟩ : ByteArray)[k.val]'k.isLt = let64 k.val := by decide +kernel
  exact H ⟨k, h⟩
theorem let_at' (z : Int) (k : Nat) (h0 : z = (k : Int)) (_hk : k < 64) (h : z.toNat < (⟨#[65, 66, 67, 68, 69, 70, 71, 72, 73, 74, 75, 76, 77, 78, 79, 80, 81, 82, 83, 84, 85, 86, 87, 88, 89, 90, 97, 98, 99, 100, 101, 102, 103, 104, 105, 106, 107, 108, 109, 110, 111, 112, 113, 114, 115, 116, 117, 118, 119, 120, 121, 122, 48, 49, 50, 51, 52, 53, 54, 55, 56, 57, 43, 47]⟩ : ByteArray).size) : (⟨#[65, 66, 67, 68, 69, 70, 71, 72, 73, 74, 75, 76, 77, 78, 79, 80, 81, 82, 83, 84, 85, 86, 87, 88, 89, 90, 97, 98, 99, 100, 101, 102, 103, 104, 105, 106, 107, 108, 109, 110, 111, 112, 113, 114, 115, 116, 117, 118, 119, 120, 121, 122, 48, 49, 50, 51, 52, 53, 54, 55, 56, 57, 43, 47]⟩ : ByteArray)[z.toNat]'h = let64 k := by
  subst h0
  exact let_at k h
theorem and3 (c : UInt8) : bits .and .u8 (c.toNat : Int) 3 = (c.toNat : Int) % 4 := by
  have H : ∀ n : Fin 256, bits .and .u8 (n.val : Int) 3 = (n.val : Int) % 4 := by decide +kernel
  exact H ⟨c.toNat, c.toNat_lt⟩
theorem and63 (c : UInt8) : bits .and .u8 (c.toNat : Int) 63 = (c.toNat : Int) % 64 := by
  have H : ∀ n : Fin 256, bits .and .u8 (n.val : Int) 63 = (n.val : Int) % 64 := by decide +kernel
  exact H ⟨c.toNat, c.toNat_lt⟩
theorem or4 (x y : Nat) (hx : x < 4) (hy : y < 16) : bits .or .u8 ((x : Int) * 16) (y : Int) = (x : Int) * 16 + y := by
  have H : ∀ (x : Fin 4) (y : Fin 16), bits .or .u8 ((x.val : Int) * 16) (y.val : Int) = (x.val : Int) * 16 + y.val := by decide +kernel
  exact H ⟨x, hx⟩ ⟨y, hy⟩
theorem or2 (x y : Nat) (hx : x < 16) (hy : y < 4) : bits .or .u8 ((x : Int) * 4) (y : Int) = (x : Int) * 4 + y := by
  have H : ∀ (x : Fin 16) (y : Fin 4), bits .or .u8 ((x.val : Int) * 4) (y.val : Int) = (x.val : Int) * 4 + y.val := by decide +kernel
  exact H ⟨x, hx⟩ ⟨y, hy⟩
theorem or_ab (a b : UInt8) : bits .or .u8 ((a.toNat : Int) % 4 * 16) ((b.toNat : Int) / 16) = (a.toNat : Int) % 4 * 16 + (b.toNat : Int) / 16 := by
  have := or4 (a.toNat % 4) (b.toNat / 16) (by omega) (by have := b.toNat_lt; omega)
  simpa using this
theorem or_bc (b c : UInt8) : bits .or .u8 ((b.toNat : Int) % 16 * 4) ((c.toNat : Int) / 64) = (b.toNat : Int) % 16 * 4 + (c.toNat : Int) / 64 := by
  have := or2 (b.toNat % 16) (c.toNat / 64) (by omega) (by have := c.toNat_lt; omega)
  simpa using this
theorem wrap_a (a : UInt8) : IntKind.u8.wrap ((a.toNat : Int) % 4 * 16) = (a.toNat : Int) % 4 * 16 := by
  have H : ∀ n : Fin 256, IntKind.u8.wrap ((n.val : Int) % 4 * 16) = (n.val : Int) % 4 * 16 := by decide +kernel
  exact H ⟨a.toNat, a.toNat_lt⟩
theorem wrap_b (b : UInt8) : IntKind.u8.wrap ((b.toNat : Int) % 16 * 4) = (b.toNat : Int) % 16 * 4 := by
  have H : ∀ n : Fin 256, IntKind.u8.wrap ((n.val : Int) % 16 * 4) = (n.val : Int) % 16 * 4 := by decide +kernel
  exact H ⟨b.toNat, b.toNat_lt⟩
def lenS : Value → Nat | .slice _ n _ => n | _ => 0
theorem e64_len (L : List UInt8) : (e64 L).length = (L.length + 2) / 3 * 4 := by
  have H : ∀ (n : Nat) (L : List UInt8), L.length ≤ n → (e64 L).length = (L.length + 2) / 3 * 4 := by
    intro n
    induction n with
    | zero => intro L h; obtain rfl : L = [] := List.eq_nil_of_length_eq_zero (by omega); rfl
    | succ n ih =>
      intro L h
      match L with
      | [] => rfl
      | [a] => simp [e64]
      | [a, b] => simp [e64]
      | a :: b :: c :: t =>
        have := ih t (by simp at h; omega)
        simp only [e64, List.length_append, List.length_cons, List.length_nil, this]
        omega
  exact H _ L (Nat.le_refl _)
theorem three {M : List UInt8} (h : 3 ≤ M.length) : ∃ a b c t, M = a :: b :: c :: t := by
  match M, h with
  | a :: b :: c :: t, _ => exact ⟨a, b, c, t, rfl⟩
theorem one_of {M : List UInt8} (h : M.length = 1) : ∃ a, M = [a] := by
  match M, h with
  | [a], _ => exact ⟨a, rfl⟩
theorem two_of {M : List UInt8} (h : M.length = 2) : ∃ a b, M = [a, b] := by
  match M, h with
  | [a, b], _ => exact ⟨a, b, rfl⟩
set_option linter.unusedSimpArgs false in
set_option maxHeartbeats 4000000 in
set_option maxRecDepth 100000 in
theorem encode_any (A : Option Addr) (n cap : Nat) (L : List UInt8) (w : World) (h : Rds w A n (bcells L)) (hc : n ≤ cap) (hm : n ≤ 1073741824) :
    Calls Try.prog 9 #[.slice A n cap] w fun e w' => e = .returned (.string (strOf (e64 L))) ∧ Below w.heap.size w w' := by
  obtain ⟨i0, hi, hz0, hz1, hz2⟩ := info_parts info_u8
  have HH := hid h
  clear h
  have hq : ((n : Int) + 2).tdiv 3 = (((n + 2) / 3 : Nat) : Int) := by rw [Int.tdiv_eq_ediv_of_nonneg (by omega)]; omega
  have hq2 : ((n : Int) + 2) / 3 = (((n + 2) / 3 : Nat) : Int) := by omega
  have hq3 : (n + 2) / 3 ≤ 536870912 := by omega
  obtain ⟨q, hqq⟩ : ∃ q, q = (n + 2) / 3 := ⟨_, rfl⟩
  rw [← hqq] at hq hq2 hq3
  clear hqq
  go_enter Try.func9, Try.ntmps9
  go_wp2_with (at_make; refine wpList_make_own _ rfl _ _ 22 rfl w.heap.size 5 i0 (.int .u8 0) 1 Try.underlying22 hi hz0 hz1 .i64 .i64 _ (q * 4) rfl rfl rfl (by rw [hz2]; omega) (by unfold maxLen; omega) (Nat.le_refl _) ?_)
  intro w1 hown1 hg1
  have hbel1 : Below w.heap.size w w1 := (Below.refl _ _).grown hg1 (Nat.le_refl _) (by intro k h; cases h)
  clear hg1 hq hq2
  go_wp2
  go_loopw [0, 3] (fun vs v wr => ∃ (m c : Nat) (Ak : Option Addr) (M X : List UInt8), m ≤ n ∧ m ≤ c ∧ vs = .slice Ak m c ∧ X.length + 2 * m ≤ 2 * n ∧ Hid (Rds w Ak m (bcells M)) ∧ Hid (X ++ e64 M = e64 L) ∧ wr.ownsRow w.heap.size 5 1 v X.length (bcells X) ∧ Below w.heap.size w wr) (fun vs _ _ => lenS vs)
  case atStart => exact ⟨n, cap, A, L, [], Nat.le_refl _, hc, rfl, by simp, HH, rfl, hown1, hbel1⟩
  case round =>
    clear hown1 hbel1 HH hc
    obtain ⟨m, cp, Ak, M, X, hmn, hmc, rfl, hX, HM, HE, hown, hbel⟩ := hrel
    have hml : M.length = m := by rw [← length_bcells]; exact HM.out.1
    by_cases h3 : 3 ≤ m
    · obtain ⟨g, off, rfl, hg, _⟩ := (HM.out).spot (by omega)
      obtain ⟨a, b, c, tt, hMM⟩ := three (M := M) (by omega)
      subst hMM
      have hgr : g < wr.heap.size := Nat.lt_of_lt_of_le hg hbel.size
      have hc0 : wr.cell? ⟨g, off, none⟩ = some (.int .u8 (a.toNat : Int)) := (hbel.cell (p := ⟨g, off + 0, none⟩) hg).trans (HM.out.byte 0 (by simp))
      have hc1 : wr.cell? ⟨g, off + 1, none⟩ = some (.int .u8 (b.toNat : Int)) := (hbel.cell (p := ⟨g, off + 1, none⟩) hg).trans (HM.out.byte 1 (by simp))
      have hc2 : wr.cell? ⟨g, off + 2, none⟩ = some (.int .u8 (c.toNat : Int)) := (hbel.cell (p := ⟨g, off + 2, none⟩) hg).trans (HM.out.byte 2 (by simp))
      have HML := hid hml
      clear hml
      have HE2 : Hid ((X ++ [let64 (a.toNat / 4), let64 (a.toNat % 4 * 16 + b.toNat / 16), let64 (b.toNat % 16 * 4 + c.toNat / 64), let64 (c.toNat % 64)]) ++ e64 tt = e64 L) := by
        have := HE.out
        rw [e64, ← List.append_assoc] at this
        exact this
      have HCut : Hid (Rds w (some ⟨g, off + 3, none⟩) (m - 3) (bcells tt)) := by
        have := HM.out.cut 3 h3
        exact this
      have ba : (a.toNat : Int) < 256 := by have := a.toNat_lt; omega
      have bb : (b.toNat : Int) < 256 := by have := b.toNat_lt; omega
      have bc : (c.toNat : Int) < 256 := by have := c.toNat_lt; omega
      have o1 := or_ab a b
      have o2 := or_bc b c
      have o3 := and3 a
      have o4 := and15 b
      have o5 := and63 c
      have o6 := wrap_a a
      have o7 := wrap_b b
      have x0 : (0 : Int) ≤ (a.toNat : Int) / 4 := by omega
      have x1 : (a.toNat : Int) / 4 < 64 := by omega
      have x2 : ∀ h, (⟨#[65, 66, 67, 68, 69, 70, 71, 72, 73, 74, 75, 76, 77, 78, 79, 80, 81, 82, 83, 84, 85, 86, 87, 88, 89, 90, 97, 98, 99, 100, 101, 102, 103, 104, 105, 106, 107, 108, 109, 110, 111, 112, 113, 114, 115, 116, 117, 118, 119, 120, 121, 122, 48, 49, 50, 51, 52, 53, 54, 55, 56, 57, 43, 47]⟩ : ByteArray)[((a.toNat : Int) / 4).toNat]'h = let64 (a.toNat / 4) := fun h => let_at' _ (a.toNat / 4) (by omega) (by omega) h
      have y0 : (0 : Int) ≤ (a.toNat : Int) % 4 * 16 + (b.toNat : Int) / 16 := by omega
      have y1 : (a.toNat : Int) % 4 * 16 + (b.toNat : Int) / 16 < 64 := by omega
      have y2 : ∀ h, (⟨#[65, 66, 67, 68, 69, 70, 71, 72, 73, 74, 75, 76, 77, 78, 79, 80, 81, 82, 83, 84, 85, 86, 87, 88, 89, 90, 97, 98, 99, 100, 101, 102, 103, 104, 105, 106, 107, 108, 109, 110, 111, 112, 113, 114, 115, 116, 117, 118, 119, 120, 121, 122, 48, 49, 50, 51, 52, 53, 54, 55, 56, 57, 43, 47]⟩ : ByteArray)[((a.toNat : Int) % 4 * 16 + (b.toNat : Int) / 16).toNat]'h = let64 (a.toNat % 4 * 16 + b.toNat / 16) := fun h => let_at' _ (a.toNat % 4 * 16 + b.toNat / 16) (by omega) (by omega) h
      have z0 : (0 : Int) ≤ (b.toNat : Int) % 16 * 4 + (c.toNat : Int) / 64 := by omega
      have z1 : (b.toNat : Int) % 16 * 4 + (c.toNat : Int) / 64 < 64 := by omega
      have z2 : ∀ h, (⟨#[65, 66, 67, 68, 69, 70, 71, 72, 73, 74, 75, 76, 77, 78, 79, 80, 81, 82, 83, 84, 85, 86, 87, 88, 89, 90, 97, 98, 99, 100, 101, 102, 103, 104, 105, 106, 107, 108, 109, 110, 111, 112, 113, 114, 115, 116, 117, 118, 119, 120, 121, 122, 48, 49, 50, 51, 52, 53, 54, 55, 56, 57, 43, 47]⟩ : ByteArray)[((b.toNat : Int) % 16 * 4 + (c.toNat : Int) / 64).toNat]'h = let64 (b.toNat % 16 * 4 + c.toNat / 64) := fun h => let_at' _ (b.toNat % 16 * 4 + c.toNat / 64) (by omega) (by omega) h
      have u0 : (0 : Int) ≤ (c.toNat : Int) % 64 := by omega
      have u1 : (c.toNat : Int) % 64 < 64 := by omega
      have u2 : ∀ h, (⟨#[65, 66, 67, 68, 69, 70, 71, 72, 73, 74, 75, 76, 77, 78, 79, 80, 81, 82, 83, 84, 85, 86, 87, 88, 89, 90, 97, 98, 99, 100, 101, 102, 103, 104, 105, 106, 107, 108, 109, 110, 111, 112, 113, 114, 115, 116, 117, 118, 119, 120, 121, 122, 48, 49, 50, 51, 52, 53, 54, 55, 56, 57, 43, 47]⟩ : ByteArray)[((c.toNat : Int) % 64).toNat]'h = let64 (c.toNat % 64) := fun h => let_at' _ (c.toNat % 64) (by omega) (by omega) h
      have j1 : (1 : Int) < (m : Int) := by omega
      have j2 : (2 : Int) < (m : Int) := by omega
      have j0 : (0 : Int) < (m : Int) := by omega
      have j3 : (3 : Int) ≤ (m : Int) := by omega
      have l0 : 0 < m := by omega
      have l1 : 1 < m := by omega
      have l2 : 2 < m := by omega
      go_wp2
      refine wp_region_rel_tail (by kernel_rfl) 34 [is (u3), is (.slice (some ⟨g, off, none⟩) m cp), is (.pointer (some ⟨g, off, none⟩)), is (.int .u8 (a.toNat : Int)), is (.int .u8 ((a.toNat : Int) / 4)), is (.int .u8 ((let64 (a.toNat / 4)).toNat : Int)), is (.slice (some ⟨g, off, none⟩) m cp), is (.pointer (some ⟨g, off, none⟩)), is (.int .u8 (a.toNat : Int)), is (.int .u8 ((a.toNat : Int) % 4)), is (.int .u8 ((a.toNat : Int) % 4 * 16)), is (.slice (some ⟨g, off, none⟩) m cp), is (.pointer (some ⟨g, off + 1, none⟩)), is (.int .u8 (b.toNat : Int)), is (.int .u8 ((b.toNat : Int) / 16)), is (.int .u8 ((a.toNat : Int) % 4 * 16 + (b.toNat : Int) / 16)), is (.int .u8 ((let64 (a.toNat % 4 * 16 + b.toNat / 16)).toNat : Int)), is (.slice (some ⟨g, off, none⟩) m cp), is (.pointer (some ⟨g, off + 1, none⟩)), is (.int .u8 (b.toNat : Int)), is (.int .u8 ((b.toNat : Int) % 16)), is (.int .u8 ((b.toNat : Int) % 16 * 4)), is (.slice (some ⟨g, off, none⟩) m cp), is (.pointer (some ⟨g, off + 2, none⟩)), is (.int .u8 (c.toNat : Int)), is (.int .u8 ((c.toNat : Int) / 64)), is (.int .u8 ((b.toNat : Int) % 16 * 4 + (c.toNat : Int) / 64)), is (.int .u8 ((let64 (b.toNat % 16 * 4 + c.toNat / 64)).toNat : Int)), is (.slice (some ⟨g, off, none⟩) m cp), is (.pointer (some ⟨g, off + 2, none⟩)), is (.int .u8 (c.toNat : Int)), is (.int .u8 ((c.toNat : Int) % 64)), is (.int .u8 ((let64 (c.toNat % 64)).toNat : Int)), row 4 (bcells [let64 (a.toNat / 4), let64 (a.toNat % 4 * 16 + b.toNat / 16), let64 (b.toNat % 16 * 4 + c.toNat / 64), let64 (c.toNat % 64)])] [[], [], [1], [1, 2], [1, 2, 3], [1, 2, 3, 4], [], [6], [6, 7], [6, 7, 8], [6, 7, 8, 9], [], [11], [11, 12], [11, 12, 13], [6, 7, 8, 9, 10, 11, 12, 13, 14], [6, 7, 8, 9, 10, 11, 12, 13, 14, 15], [], [17], [17, 18], [17, 18, 19], [17, 18, 19, 20], [], [22], [22, 23], [22, 23, 24], [17, 18, 19, 20, 21, 22, 23, 24, 25], [17, 18, 19, 20, 21, 22, 23, 24, 25, 26], [], [28], [28, 29], [28, 29, 30], [28, 29, 30, 31], [1, 2, 3, 4, 5, 6, 7, 8, 9, 10, 11, 12, 13, 14, 15, 16, 17, 18, 19, 20, 21, 22, 23, 24, 25, 26, 27, 28, 29, 30, 31, 32], [0, 1, 2, 3, 4, 5, 6, 7, 8, 9, 10, 11, 12, 13, 14, 15, 16, 17, 18, 19, 20, 21, 22, 23, 24, 25, 26, 27, 28, 29, 30, 31, 32, 33]] (by kernel_rfl) ?_ ?_
      · refine ⟨?_, ?_, ?_, ?_, ?_, ?_, ?_, ?_, ?_, ?_, ?_, ?_, ?_, ?_, ?_, ?_, ?_, ?_, ?_, ?_, ?_, ?_, ?_, ?_, ?_, ?_, ?_, ?_, ?_, ?_, ?_, ?_, ?_, ?_, trivial⟩
        · intro t wq hbq hh K hK
          clear hh
          simp only [filled, filledN, upd, Have, is, any, row, pick, Act.put, List.setIfInBounds_toArray, List.set_cons_zero, List.set_cons_succ, Nat.reduceAdd, Nat.reduceEqDiff, reduceIte] at hK ⊢
          go_simp
          exact hK _ _ (Below.refl _ _) rfl
        · intro t wq hbq hh K hK
          clear hh
          simp only [filled, filledN, upd, Have, is, any, row, pick, Act.put, List.setIfInBounds_toArray, List.set_cons_zero, List.set_cons_succ, Nat.reduceAdd, Nat.reduceEqDiff, reduceIte] at hK ⊢
          go_simp
          exact hK _ _ (Below.refl _ _) rfl
        · intro t wq hbq hh K hK
          have e1 := hh.1
          simp only [pick] at e1
          replace e1 : t 1 = (.slice (some ⟨g, off, none⟩) m cp) := e1
          clear hh
          simp only [filled, filledN, upd, Have, is, any, row, pick, Act.put, List.setIfInBounds_toArray, List.set_cons_zero, List.set_cons_succ, Nat.reduceAdd, Nat.reduceEqDiff, reduceIte] at hK ⊢
          simp only [e1] at hK ⊢
          go_simp
          exact hK _ _ (Below.refl _ _) rfl
        · intro t wq hbq hh K hK
          have e2 := hh.2.1
          simp only [pick] at e2
          replace e2 : t 2 = (.pointer (some ⟨g, off, none⟩)) := e2
          clear hh
          simp only [filled, filledN, upd, Have, is, any, row, pick, Act.put, List.setIfInBounds_toArray, List.set_cons_zero, List.set_cons_succ, Nat.reduceAdd, Nat.reduceEqDiff, reduceIte] at hK ⊢
          simp only [e2] at hK ⊢
          have hq := (hbq.cell (p := ⟨g, off, none⟩) hgr).trans hc0
          go_simp
          first | exact hK _ _ (Below.refl _ _) rfl | (refine hK _ _ (Below.refl _ _) ?_; simp [is, pick])
        · intro t wq hbq hh K hK
          have e3 := hh.2.2.1
          simp only [pick] at e3
          replace e3 : t 3 = (.int .u8 (a.toNat : Int)) := e3
          clear hh
          simp only [filled, filledN, upd, Have, is, any, row, pick, Act.put, List.setIfInBounds_toArray, List.set_cons_zero, List.set_cons_succ, Nat.reduceAdd, Nat.reduceEqDiff, reduceIte] at hK ⊢
          simp only [e3] at hK ⊢
          go_simp
          exact hK _ _ (Below.refl _ _) rfl
        · intro t wq hbq hh K hK
          have e4 := hh.2.2.2.1
          simp only [pick] at e4
          replace e4 : t 4 = (.int .u8 ((a.toNat : Int) / 4)) := e4
          clear hh
          simp only [filled, filledN, upd, Have, is, any, row, pick, Act.put, List.setIfInBounds_toArray, List.set_cons_zero, List.set_cons_succ, Nat.reduceAdd, Nat.reduceEqDiff, reduceIte] at hK ⊢
          simp only [e4] at hK ⊢
          go_simp
          exact hK _ _ (Below.refl _ _) rfl
        · intro t wq hbq hh K hK
          clear hh
          simp only [filled, filledN, upd, Have, is, any, row, pick, Act.put, List.setIfInBounds_toArray, List.set_cons_zero, List.set_cons_succ, Nat.reduceAdd, Nat.reduceEqDiff, reduceIte] at hK ⊢
          go_simp
          exact hK _ _ (Below.refl _ _) rfl
        · intro t wq hbq hh K hK
          have e6 := hh.1
          simp only [pick] at e6
          replace e6 : t 6 = (.slice (some ⟨g, off, none⟩) m cp) := e6
          clear hh
          simp only [filled, filledN, upd, Have, is, any, row, pick, Act.put, List.setIfInBounds_toArray, List.set_cons_zero, List.set_cons_succ, Nat.reduceAdd, Nat.reduceEqDiff, reduceIte] at hK ⊢
          simp only [e6] at hK ⊢
          go_simp
          exact hK _ _ (Below.refl _ _) rfl
        · intro t wq hbq hh K hK
          have e7 := hh.2.1
          simp only [pick] at e7
          replace e7 : t 7 = (.pointer (some ⟨g, off, none⟩)) := e7
          clear hh
          simp only [filled, filledN, upd, Have, is, any, row, pick, Act.put, List.setIfInBounds_toArray, List.set_cons_zero, List.set_cons_succ, Nat.reduceAdd, Nat.reduceEqDiff, reduceIte] at hK ⊢
          simp only [e7] at hK ⊢
          have hq := (hbq.cell (p := ⟨g, off, none⟩) hgr).trans hc0
          go_simp
          first | exact hK _ _ (Below.refl _ _) rfl | (refine hK _ _ (Below.refl _ _) ?_; simp [is, pick])
        · intro t wq hbq hh K hK
          have e8 := hh.2.2.1
          simp only [pick] at e8
          replace e8 : t 8 = (.int .u8 (a.toNat : Int)) := e8
          clear hh
          simp only [filled, filledN, upd, Have, is, any, row, pick, Act.put, List.setIfInBounds_toArray, List.set_cons_zero, List.set_cons_succ, Nat.reduceAdd, Nat.reduceEqDiff, reduceIte] at hK ⊢
          simp only [e8] at hK ⊢
          go_simp
          exact hK _ _ (Below.refl _ _) rfl
        · intro t wq hbq hh K hK
          have e9 := hh.2.2.2.1
          simp only [pick] at e9
          replace e9 : t 9 = (.int .u8 ((a.toNat : Int) % 4)) := e9
          clear hh
          simp only [filled, filledN, upd, Have, is, any, row, pick, Act.put, List.setIfInBounds_toArray, List.set_cons_zero, List.set_cons_succ, Nat.reduceAdd, Nat.reduceEqDiff, reduceIte] at hK ⊢
          simp only [e9] at hK ⊢
          go_simp
          exact hK _ _ (Below.refl _ _) rfl
        · intro t wq hbq hh K hK
          clear hh
          simp only [filled, filledN, upd, Have, is, any, row, pick, Act.put, List.setIfInBounds_toArray, List.set_cons_zero, List.set_cons_succ, Nat.reduceAdd, Nat.reduceEqDiff, reduceIte] at hK ⊢
          go_simp
          exact hK _ _ (Below.refl _ _) rfl
        · intro t wq hbq hh K hK
          have e11 := hh.1
          simp only [pick] at e11
          replace e11 : t 11 = (.slice (some ⟨g, off, none⟩) m cp) := e11
          clear hh
          simp only [filled, filledN, upd, Have, is, any, row, pick, Act.put, List.setIfInBounds_toArray, List.set_cons_zero, List.set_cons_succ, Nat.reduceAdd, Nat.reduceEqDiff, reduceIte] at hK ⊢
          simp only [e11] at hK ⊢
          go_simp
          exact hK _ _ (Below.refl _ _) rfl
        · intro t wq hbq hh K hK
          have e12 := hh.2.1
          simp only [pick] at e12
          replace e12 : t 12 = (.pointer (some ⟨g, off + 1, none⟩)) := e12
          clear hh
          simp only [filled, filledN, upd, Have, is, any, row, pick, Act.put, List.setIfInBounds_toArray, List.set_cons_zero, List.set_cons_succ, Nat.reduceAdd, Nat.reduceEqDiff, reduceIte] at hK ⊢
          simp only [e12] at hK ⊢
          have hq := (hbq.cell (p := ⟨g, off + 1, none⟩) hgr).trans hc1
          go_simp
          first | exact hK _ _ (Below.refl _ _) rfl | (refine hK _ _ (Below.refl _ _) ?_; simp [is, pick])
        · intro t wq hbq hh K hK
          have e13 := hh.2.2.1
          simp only [pick] at e13
          replace e13 : t 13 = (.int .u8 (b.toNat : Int)) := e13
          clear hh
          simp only [filled, filledN, upd, Have, is, any, row, pick, Act.put, List.setIfInBounds_toArray, List.set_cons_zero, List.set_cons_succ, Nat.reduceAdd, Nat.reduceEqDiff, reduceIte] at hK ⊢
          simp only [e13] at hK ⊢
          go_simp
          exact hK _ _ (Below.refl _ _) rfl
        · intro t wq hbq hh K hK
          have e10 := hh.2.2.2.2.1
          simp only [pick] at e10
          replace e10 : t 10 = (.int .u8 ((a.toNat : Int) % 4 * 16)) := e10
          have e14 := hh.2.2.2.2.2.2.2.2.1
          simp only [pick] at e14
          replace e14 : t 14 = (.int .u8 ((b.toNat : Int) / 16)) := e14
          clear hh
          simp only [filled, filledN, upd, Have, is, any, row, pick, Act.put, List.setIfInBounds_toArray, List.set_cons_zero, List.set_cons_succ, Nat.reduceAdd, Nat.reduceEqDiff, reduceIte] at hK ⊢
          simp only [e10, e14] at hK ⊢
          go_simp
          exact hK _ _ (Below.refl _ _) rfl
        · intro t wq hbq hh K hK
          have e15 := hh.2.2.2.2.2.2.2.2.2.1
          simp only [pick] at e15
          replace e15 : t 15 = (.int .u8 ((a.toNat : Int) % 4 * 16 + (b.toNat : Int) / 16)) := e15
          clear hh
          simp only [filled, filledN, upd, Have, is, any, row, pick, Act.put, List.setIfInBounds_toArray, List.set_cons_zero, List.set_cons_succ, Nat.reduceAdd, Nat.reduceEqDiff, reduceIte] at hK ⊢
          simp only [e15] at hK ⊢
          go_simp
          exact hK _ _ (Below.refl _ _) rfl
        · intro t wq hbq hh K hK
          clear hh
          simp only [filled, filledN, upd, Have, is, any, row, pick, Act.put, List.setIfInBounds_toArray, List.set_cons_zero, List.set_cons_succ, Nat.reduceAdd, Nat.reduceEqDiff, reduceIte] at hK ⊢
          go_simp
          exact hK _ _ (Below.refl _ _) rfl
        · intro t wq hbq hh K hK
          have e17 := hh.1
          simp only [pick] at e17
          replace e17 : t 17 = (.slice (some ⟨g, off, none⟩) m cp) := e17
          clear hh
          simp only [filled, filledN, upd, Have, is, any, row, pick, Act.put, List.setIfInBounds_toArray, List.set_cons_zero, List.set_cons_succ, Nat.reduceAdd, Nat.reduceEqDiff, reduceIte] at hK ⊢
          simp only [e17] at hK ⊢
          go_simp
          exact hK _ _ (Below.refl _ _) rfl
        · intro t wq hbq hh K hK
          have e18 := hh.2.1
          simp only [pick] at e18
          replace e18 : t 18 = (.pointer (some ⟨g, off + 1, none⟩)) := e18
          clear hh
          simp only [filled, filledN, upd, Have, is, any, row, pick, Act.put, List.setIfInBounds_toArray, List.set_cons_zero, List.set_cons_succ, Nat.reduceAdd, Nat.reduceEqDiff, reduceIte] at hK ⊢
          simp only [e18] at hK ⊢
          have hq := (hbq.cell (p := ⟨g, off + 1, none⟩) hgr).trans hc1
          go_simp
          first | exact hK _ _ (Below.refl _ _) rfl | (refine hK _ _ (Below.refl _ _) ?_; simp [is, pick])
        · intro t wq hbq hh K hK
          have e19 := hh.2.2.1
          simp only [pick] at e19
          replace e19 : t 19 = (.int .u8 (b.toNat : Int)) := e19
          clear hh
          simp only [filled, filledN, upd, Have, is, any, row, pick, Act.put, List.setIfInBounds_toArray, List.set_cons_zero, List.set_cons_succ, Nat.reduceAdd, Nat.reduceEqDiff, reduceIte] at hK ⊢
          simp only [e19] at hK ⊢
          go_simp
          exact hK _ _ (Below.refl _ _) rfl
        · intro t wq hbq hh K hK
          have e20 := hh.2.2.2.1
          simp only [pick] at e20
          replace e20 : t 20 = (.int .u8 ((b.toNat : Int) % 16)) := e20
          clear hh
          simp only [filled, filledN, upd, Have, is, any, row, pick, Act.put, List.setIfInBounds_toArray, List.set_cons_zero, List.set_cons_succ, Nat.reduceAdd, Nat.reduceEqDiff, reduceIte] at hK ⊢
          simp only [e20] at hK ⊢
          go_simp
          exact hK _ _ (Below.refl _ _) rfl
        · intro t wq hbq hh K hK
          clear hh
          simp only [filled, filledN, upd, Have, is, any, row, pick, Act.put, List.setIfInBounds_toArray, List.set_cons_zero, List.set_cons_succ, Nat.reduceAdd, Nat.reduceEqDiff, reduceIte] at hK ⊢
          go_simp
          exact hK _ _ (Below.refl _ _) rfl
        · intro t wq hbq hh K hK
          have e22 := hh.1
          simp only [pick] at e22
          replace e22 : t 22 = (.slice (some ⟨g, off, none⟩) m cp) := e22
          clear hh
          simp only [filled, filledN, upd, Have, is, any, row, pick, Act.put, List.setIfInBounds_toArray, List.set_cons_zero, List.set_cons_succ, Nat.reduceAdd, Nat.reduceEqDiff, reduceIte] at hK ⊢
          simp only [e22] at hK ⊢
          go_simp
          exact hK _ _ (Below.refl _ _) rfl
        · intro t wq hbq hh K hK
          have e23 := hh.2.1
          simp only [pick] at e23
          replace e23 : t 23 = (.pointer (some ⟨g, off + 2, none⟩)) := e23
          clear hh
          simp only [filled, filledN, upd, Have, is, any, row, pick, Act.put, List.setIfInBounds_toArray, List.set_cons_zero, List.set_cons_succ, Nat.reduceAdd, Nat.reduceEqDiff, reduceIte] at hK ⊢
          simp only [e23] at hK ⊢
          have hq := (hbq.cell (p := ⟨g, off + 2, none⟩) hgr).trans hc2
          go_simp
          first | exact hK _ _ (Below.refl _ _) rfl | (refine hK _ _ (Below.refl _ _) ?_; simp [is, pick])
        · intro t wq hbq hh K hK
          have e24 := hh.2.2.1
          simp only [pick] at e24
          replace e24 : t 24 = (.int .u8 (c.toNat : Int)) := e24
          clear hh
          simp only [filled, filledN, upd, Have, is, any, row, pick, Act.put, List.setIfInBounds_toArray, List.set_cons_zero, List.set_cons_succ, Nat.reduceAdd, Nat.reduceEqDiff, reduceIte] at hK ⊢
          simp only [e24] at hK ⊢
          go_simp
          exact hK _ _ (Below.refl _ _) rfl
        · intro t wq hbq hh K hK
          have e21 := hh.2.2.2.2.1
          simp only [pick] at e21
          replace e21 : t 21 = (.int .u8 ((b.toNat : Int) % 16 * 4)) := e21
          have e25 := hh.2.2.2.2.2.2.2.2.1
          simp only [pick] at e25
          replace e25 : t 25 = (.int .u8 ((c.toNat : Int) / 64)) := e25
          clear hh
          simp only [filled, filledN, upd, Have, is, any, row, pick, Act.put, List.setIfInBounds_toArray, List.set_cons_zero, List.set_cons_succ, Nat.reduceAdd, Nat.reduceEqDiff, reduceIte] at hK ⊢
          simp only [e21, e25] at hK ⊢
          go_simp
          exact hK _ _ (Below.refl _ _) rfl
        · intro t wq hbq hh K hK
          have e26 := hh.2.2.2.2.2.2.2.2.2.1
          simp only [pick] at e26
          replace e26 : t 26 = (.int .u8 ((b.toNat : Int) % 16 * 4 + (c.toNat : Int) / 64)) := e26
          clear hh
          simp only [filled, filledN, upd, Have, is, any, row, pick, Act.put, List.setIfInBounds_toArray, List.set_cons_zero, List.set_cons_succ, Nat.reduceAdd, Nat.reduceEqDiff, reduceIte] at hK ⊢
          simp only [e26] at hK ⊢
          go_simp
          exact hK _ _ (Below.refl _ _) rfl
        · intro t wq hbq hh K hK
          clear hh
          simp only [filled, filledN, upd, Have, is, any, row, pick, Act.put, List.setIfInBounds_toArray, List.set_cons_zero, List.set_cons_succ, Nat.reduceAdd, Nat.reduceEqDiff, reduceIte] at hK ⊢
          go_simp
          exact hK _ _ (Below.refl _ _) rfl
        · intro t wq hbq hh K hK
          have e28 := hh.1
          simp only [pick] at e28
          replace e28 : t 28 = (.slice (some ⟨g, off, none⟩) m cp) := e28
          clear hh
          simp only [filled, filledN, upd, Have, is, any, row, pick, Act.put, List.setIfInBounds_toArray, List.set_cons_zero, List.set_cons_succ, Nat.reduceAdd, Nat.reduceEqDiff, reduceIte] at hK ⊢
          simp only [e28] at hK ⊢
          go_simp
          exact hK _ _ (Below.refl _ _) rfl
        · intro t wq hbq hh K hK
          have e29 := hh.2.1
          simp only [pick] at e29
          replace e29 : t 29 = (.pointer (some ⟨g, off + 2, none⟩)) := e29
          clear hh
          simp only [filled, filledN, upd, Have, is, any, row, pick, Act.put, List.setIfInBounds_toArray, List.set_cons_zero, List.set_cons_succ, Nat.reduceAdd, Nat.reduceEqDiff, reduceIte] at hK ⊢
          simp only [e29] at hK ⊢
          have hq := (hbq.cell (p := ⟨g, off + 2, none⟩) hgr).trans hc2
          go_simp
          first | exact hK _ _ (Below.refl _ _) rfl | (refine hK _ _ (Below.refl _ _) ?_; simp [is, pick])
        · intro t wq hbq hh K hK
          have e30 := hh.2.2.1
          simp only [pick] at e30
          replace e30 : t 30 = (.int .u8 (c.toNat : Int)) := e30
          clear hh
          simp only [filled, filledN, upd, Have, is, any, row, pick, Act.put, List.setIfInBounds_toArray, List.set_cons_zero, List.set_cons_succ, Nat.reduceAdd, Nat.reduceEqDiff, reduceIte] at hK ⊢
          simp only [e30] at hK ⊢
          go_simp
          exact hK _ _ (Below.refl _ _) rfl
        · intro t wq hbq hh K hK
          have e31 := hh.2.2.2.1
          simp only [pick] at e31
          replace e31 : t 31 = (.int .u8 ((c.toNat : Int) % 64)) := e31
          clear hh
          simp only [filled, filledN, upd, Have, is, any, row, pick, Act.put, List.setIfInBounds_toArray, List.set_cons_zero, List.set_cons_succ, Nat.reduceAdd, Nat.reduceEqDiff, reduceIte] at hK ⊢
          simp only [e31] at hK ⊢
          go_simp
          exact hK _ _ (Below.refl _ _) rfl
        · intro t wq hbq hh K hK
          have e5 := hh.2.2.2.2.1
          simp only [pick] at e5
          replace e5 : t 5 = (.int .u8 ((let64 (a.toNat / 4)).toNat : Int)) := e5
          have e16 := hh.2.2.2.2.2.2.2.2.2.2.2.2.2.2.2.1
          simp only [pick] at e16
          replace e16 : t 16 = (.int .u8 ((let64 (a.toNat % 4 * 16 + b.toNat / 16)).toNat : Int)) := e16
          have e27 := hh.2.2.2.2.2.2.2.2.2.2.2.2.2.2.2.2.2.2.2.2.2.2.2.2.2.2.1
          simp only [pick] at e27
          replace e27 : t 27 = (.int .u8 ((let64 (b.toNat % 16 * 4 + c.toNat / 64)).toNat : Int)) := e27
          have e32 := hh.2.2.2.2.2.2.2.2.2.2.2.2.2.2.2.2.2.2.2.2.2.2.2.2.2.2.2.2.2.2.2.1
          simp only [pick] at e32
          replace e32 : t 32 = (.int .u8 ((let64 (c.toNat % 64)).toNat : Int)) := e32
          clear hh
          simp only [filled, filledN, upd, Have, is, any, row, pick, Act.put, List.setIfInBounds_toArray, List.set_cons_zero, List.set_cons_succ, Nat.reduceAdd, Nat.reduceEqDiff, reduceIte] at hK ⊢
          simp only [e5, e16, e27, e32] at hK ⊢
          go_simp
          exact hK _ _ ((Below.refl _ _).alloc (Nat.le_refl _) _) ⟨_, _, rfl, Nat.le_refl _, by decide, rds_const wq [let64 (a.toNat / 4), let64 (a.toNat % 4 * 16 + b.toNat / 16), let64 (b.toNat % 16 * 4 + c.toNat / 64), let64 (c.toNat % 64)] 5 (0, 0)⟩
      · intro t wq hbq hh
        have f0 := have_get hh 0 (by decide)
        simp only [pick] at f0
        replace f0 : t 0 = (u3) := f0
        have f33 := have_get hh 33 (by decide)
        simp only [pick] at f33
        clear hh
        simp only [filled, filledN, upd, Have, is, any, row, pick, Act.put, List.setIfInBounds_toArray, List.set_cons_zero, List.set_cons_succ, Nat.reduceAdd, Nat.reduceEqDiff, reduceIte]
        obtain ⟨A33, c33, f33, hc33, hm33, hr33⟩ := f33
        simp only [f0, f33]
        have hown1 := owns_below hown hbq
        have hbel1 : Below w.heap.size w wq := hbel.trans (hbq.mono hbel.size)
        refine wpList_app_any rfl _ _ 22 rfl w.heap.size 5 i0 (.int .u8 0) 1 Try.underlying22 hi hz0 hz1 hz2 rfl _ X.length _ rfl hown1 hbel1 hbel1.size A33 4 c33 (bcells [let64 (a.toNat / 4), let64 (a.toNat % 4 * 16 + b.toNat / 16), let64 (b.toNat % 16 * 4 + c.toNat / 64), let64 (c.toNat % 64)]) rfl hr33 (bcells_one _) (by unfold maxLen; omega) (by omega) ?_
        intro v' w2 hown2 hbel2
        clear o1 o2 o3 o4 o5 o6 o7 x0 x1 x2 y0 y1 y2 z0 z1 z2 u0 u1 u2 hown hown1
        have HO : Hid (w2.ownsRow w.heap.size 5 1 v' (X ++ [let64 (a.toNat / 4), let64 (a.toNat % 4 * 16 + b.toNat / 16), let64 (b.toNat % 16 * 4 + c.toNat / 64), let64 (c.toNat % 64)]).length (bcells (X ++ [let64 (a.toNat / 4), let64 (a.toNat % 4 * 16 + b.toNat / 16), let64 (b.toNat % 16 * 4 + c.toNat / 64), let64 (c.toNat % 64)]))) := by
          rw [bcells_append, List.length_append]
          exact hown2
        clear hown2
        by_cases hcap : cp = 3
        · subst hcap
          obtain rfl : m = 3 := by omega
          have HN : Hid (tt = []) := by
            have := HML.out
            simp at this
            exact this
          go_wp2
          go_roundw
          case rel => exact ⟨0, 0, _, [], X ++ [let64 (a.toNat / 4), let64 (a.toNat % 4 * 16 + b.toNat / 16), let64 (b.toNat % 16 * 4 + c.toNat / 64), let64 (c.toNat % 64)], by omega, by omega, rfl, by simp; omega, Rds.nil _, by rw [← HE2.out, HN.out]; exact rfl, HO.out, hbel2⟩
          case measure => simp [lenS]
        · have hcap' : ¬ (cp : Int) = 3 := by omega
          go_wp2
          go_roundw
          case rel => exact ⟨m - 3, cp - 3, _, tt, X ++ [let64 (a.toNat / 4), let64 (a.toNat % 4 * 16 + b.toNat / 16), let64 (b.toNat % 16 * 4 + c.toNat / 64), let64 (c.toNat % 64)], by omega, by omega, rfl, by simp; omega, HCut, HE2, HO.out, hbel2⟩
          case measure => simp [lenS]; omega
    · have hfin : ∀ (v : Value) (wz : World) (Y : List UInt8), Y = e64 L → wz.ownsRow w.heap.size 5 1 v Y.length (bcells Y) → ∃ A2 c2, v = .slice A2 (e64 L).length c2 ∧ (convert 22 9 (.slice A2 (e64 L).length c2)).run Try.prog wz = .ok (.string (strOf (e64 L))) wz := by
        intro v wz Y hY hv
        subst hY
        obtain ⟨A2, c2, rfl, _, _, hr2⟩ := owns_form hv
        exact ⟨A2, c2, rfl, run_string_of 22 9 5 Try.underlying22 Try.underlying5 Try.underlying9 _ c2 hr2⟩
      have HF := hid hfin
      clear hfin
      have hcase : m = 0 ∨ m = 1 ∨ m = 2 := by omega
      rcases hcase with rfl | rfl | rfl
      · have hM0 : M = [] := List.eq_nil_of_length_eq_zero hml
        subst hM0
        obtain ⟨A2, c2, rfl, hst⟩ := HF.out u3 wr X (by have := HE.out; simpa [e64] using this) hown
        go_wp2
        go_ret
        exact ⟨rfl, hbel⟩
      · obtain ⟨a, hMM⟩ := one_of hml
        subst hMM
        obtain ⟨g, off, rfl, hg, _⟩ := (HM.out).spot (by omega)
        have hgr : g < wr.heap.size := Nat.lt_of_lt_of_le hg hbel.size
        have hc0 : wr.cell? ⟨g, off, none⟩ = some (.int .u8 (a.toNat : Int)) := (hbel.cell (p := ⟨g, off + 0, none⟩) hg).trans (HM.out.byte 0 (by simp))
        have HE2 : Hid (X ++ [let64 (a.toNat / 4), let64 (a.toNat % 4 * 16), 61, 61] = e64 L) := by
          have := HE.out
          rw [e64] at this
          exact this
        have ba : (a.toNat : Int) < 256 := by have := a.toNat_lt; omega
        have o3 := and3 a
        have o6 := wrap_a a
        have x0 : (0 : Int) ≤ (a.toNat : Int) / 4 := by omega
        have x1 : (a.toNat : Int) / 4 < 64 := by omega
        have x2 : ∀ h, (⟨#[65, 66, 67, 68, 69, 70, 71, 72, 73, 74, 75, 76, 77, 78, 79, 80, 81, 82, 83, 84, 85, 86, 87, 88, 89, 90, 97, 98, 99, 100, 101, 102, 103, 104, 105, 106, 107, 108, 109, 110, 111, 112, 113, 114, 115, 116, 117, 118, 119, 120, 121, 122, 48, 49, 50, 51, 52, 53, 54, 55, 56, 57, 43, 47]⟩ : ByteArray)[((a.toNat : Int) / 4).toNat]'h = let64 (a.toNat / 4) := fun h => let_at' _ (a.toNat / 4) (by omega) (by omega) h
        have y0 : (0 : Int) ≤ (a.toNat : Int) % 4 * 16 := by omega
        have y1 : (a.toNat : Int) % 4 * 16 < 64 := by omega
        have y2 : ∀ h, (⟨#[65, 66, 67, 68, 69, 70, 71, 72, 73, 74, 75, 76, 77, 78, 79, 80, 81, 82, 83, 84, 85, 86, 87, 88, 89, 90, 97, 98, 99, 100, 101, 102, 103, 104, 105, 106, 107, 108, 109, 110, 111, 112, 113, 114, 115, 116, 117, 118, 119, 120, 121, 122, 48, 49, 50, 51, 52, 53, 54, 55, 56, 57, 43, 47]⟩ : ByteArray)[((a.toNat : Int) % 4 * 16).toNat]'h = let64 (a.toNat % 4 * 16) := fun h => let_at' _ (a.toNat % 4 * 16) (by omega) (by omega) h
        go_wp2
        refine wp_region_rel_tail (by kernel_rfl) 13 [is (u3), is (.slice (some ⟨g, off, none⟩) 1 cp), is (.pointer (some ⟨g, off, none⟩)), is (.int .u8 (a.toNat : Int)), is (.int .u8 ((a.toNat : Int) / 4)), is (.int .u8 ((let64 (a.toNat / 4)).toNat : Int)), is (.slice (some ⟨g, off, none⟩) 1 cp), is (.pointer (some ⟨g, off, none⟩)), is (.int .u8 (a.toNat : Int)), is (.int .u8 ((a.toNat : Int) % 4)), is (.int .u8 ((a.toNat : Int) % 4 * 16)), is (.int .u8 ((let64 (a.toNat % 4 * 16)).toNat : Int)), row 4 (bcells [let64 (a.toNat / 4), let64 (a.toNat % 4 * 16), 61, 61])] [[], [], [1], [1, 2], [1, 2, 3], [1, 2, 3, 4], [], [6], [6, 7], [6, 7, 8], [6, 7, 8, 9], [6, 7, 8, 9, 10], [1, 2, 3, 4, 5, 6, 7, 8, 9, 10, 11], [0, 1, 2, 3, 4, 5, 6, 7, 8, 9, 10, 11, 12]] (by kernel_rfl) ?_ ?_
        · refine ⟨?_, ?_, ?_, ?_, ?_, ?_, ?_, ?_, ?_, ?_, ?_, ?_, ?_, trivial⟩
          · intro t wq hbq hh K hK
            clear hh
            simp only [filled, filledN, upd, Have, is, any, row, pick, Act.put, List.setIfInBounds_toArray, List.set_cons_zero, List.set_cons_succ, Nat.reduceAdd, Nat.reduceEqDiff, reduceIte] at hK ⊢
            go_simp
            exact hK _ _ (Below.refl _ _) rfl
          · intro t wq hbq hh K hK
            clear hh
            simp only [filled, filledN, upd, Have, is, any, row, pick, Act.put, List.setIfInBounds_toArray, List.set_cons_zero, List.set_cons_succ, Nat.reduceAdd, Nat.reduceEqDiff, reduceIte] at hK ⊢
            go_simp
            exact hK _ _ (Below.refl _ _) rfl
          · intro t wq hbq hh K hK
            have e1 := hh.1
            simp only [pick] at e1
            replace e1 : t 1 = (.slice (some ⟨g, off, none⟩) 1 cp) := e1
            clear hh
            simp only [filled, filledN, upd, Have, is, any, row, pick, Act.put, List.setIfInBounds_toArray, List.set_cons_zero, List.set_cons_succ, Nat.reduceAdd, Nat.reduceEqDiff, reduceIte] at hK ⊢
            simp only [e1] at hK ⊢
            go_simp
            exact hK _ _ (Below.refl _ _) rfl
          · intro t wq hbq hh K hK
            have e2 := hh.2.1
            simp only [pick] at e2
            replace e2 : t 2 = (.pointer (some ⟨g, off, none⟩)) := e2
            clear hh
            simp only [filled, filledN, upd, Have, is, any, row, pick, Act.put, List.setIfInBounds_toArray, List.set_cons_zero, List.set_cons_succ, Nat.reduceAdd, Nat.reduceEqDiff, reduceIte] at hK ⊢
            simp only [e2] at hK ⊢
            have hq := (hbq.cell (p := ⟨g, off, none⟩) hgr).trans hc0
            go_simp
            first | exact hK _ _ (Below.refl _ _) rfl | (refine hK _ _ (Below.refl _ _) ?_; simp [is, pick])
          · intro t wq hbq hh K hK
            have e3 := hh.2.2.1
            simp only [pick] at e3
            replace e3 : t 3 = (.int .u8 (a.toNat : Int)) := e3
            clear hh
            simp only [filled, filledN, upd, Have, is, any, row, pick, Act.put, List.setIfInBounds_toArray, List.set_cons_zero, List.set_cons_succ, Nat.reduceAdd, Nat.reduceEqDiff, reduceIte] at hK ⊢
            simp only [e3] at hK ⊢
            go_simp
            exact hK _ _ (Below.refl _ _) rfl
          · intro t wq hbq hh K hK
            have e4 := hh.2.2.2.1
            simp only [pick] at e4
            replace e4 : t 4 = (.int .u8 ((a.toNat : Int) / 4)) := e4
            clear hh
            simp only [filled, filledN, upd, Have, is, any, row, pick, Act.put, List.setIfInBounds_toArray, List.set_cons_zero, List.set_cons_succ, Nat.reduceAdd, Nat.reduceEqDiff, reduceIte] at hK ⊢
            simp only [e4] at hK ⊢
            go_simp
            exact hK _ _ (Below.refl _ _) rfl
          · intro t wq hbq hh K hK
            clear hh
            simp only [filled, filledN, upd, Have, is, any, row, pick, Act.put, List.setIfInBounds_toArray, List.set_cons_zero, List.set_cons_succ, Nat.reduceAdd, Nat.reduceEqDiff, reduceIte] at hK ⊢
            go_simp
            exact hK _ _ (Below.refl _ _) rfl
          · intro t wq hbq hh K hK
            have e6 := hh.1
            simp only [pick] at e6
            replace e6 : t 6 = (.slice (some ⟨g, off, none⟩) 1 cp) := e6
            clear hh
            simp only [filled, filledN, upd, Have, is, any, row, pick, Act.put, List.setIfInBounds_toArray, List.set_cons_zero, List.set_cons_succ, Nat.reduceAdd, Nat.reduceEqDiff, reduceIte] at hK ⊢
            simp only [e6] at hK ⊢
            go_simp
            exact hK _ _ (Below.refl _ _) rfl
          · intro t wq hbq hh K hK
            have e7 := hh.2.1
            simp only [pick] at e7
            replace e7 : t 7 = (.pointer (some ⟨g, off, none⟩)) := e7
            clear hh
            simp only [filled, filledN, upd, Have, is, any, row, pick, Act.put, List.setIfInBounds_toArray, List.set_cons_zero, List.set_cons_succ, Nat.reduceAdd, Nat.reduceEqDiff, reduceIte] at hK ⊢
            simp only [e7] at hK ⊢
            have hq := (hbq.cell (p := ⟨g, off, none⟩) hgr).trans hc0
            go_simp
            first | exact hK _ _ (Below.refl _ _) rfl | (refine hK _ _ (Below.refl _ _) ?_; simp [is, pick])
          · intro t wq hbq hh K hK
            have e8 := hh.2.2.1
            simp only [pick] at e8
            replace e8 : t 8 = (.int .u8 (a.toNat : Int)) := e8
            clear hh
            simp only [filled, filledN, upd, Have, is, any, row, pick, Act.put, List.setIfInBounds_toArray, List.set_cons_zero, List.set_cons_succ, Nat.reduceAdd, Nat.reduceEqDiff, reduceIte] at hK ⊢
            simp only [e8] at hK ⊢
            go_simp
            exact hK _ _ (Below.refl _ _) rfl
          · intro t wq hbq hh K hK
            have e9 := hh.2.2.2.1
            simp only [pick] at e9
            replace e9 : t 9 = (.int .u8 ((a.toNat : Int) % 4)) := e9
            clear hh
            simp only [filled, filledN, upd, Have, is, any, row, pick, Act.put, List.setIfInBounds_toArray, List.set_cons_zero, List.set_cons_succ, Nat.reduceAdd, Nat.reduceEqDiff, reduceIte] at hK ⊢
            simp only [e9] at hK ⊢
            go_simp
            exact hK _ _ (Below.refl _ _) rfl
          · intro t wq hbq hh K hK
            have e10 := hh.2.2.2.2.1
            simp only [pick] at e10
            replace e10 : t 10 = (.int .u8 ((a.toNat : Int) % 4 * 16)) := e10
            clear hh
            simp only [filled, filledN, upd, Have, is, any, row, pick, Act.put, List.setIfInBounds_toArray, List.set_cons_zero, List.set_cons_succ, Nat.reduceAdd, Nat.reduceEqDiff, reduceIte] at hK ⊢
            simp only [e10] at hK ⊢
            go_simp
            exact hK _ _ (Below.refl _ _) rfl
          · intro t wq hbq hh K hK
            have e5 := hh.2.2.2.2.1
            simp only [pick] at e5
            replace e5 : t 5 = (.int .u8 ((let64 (a.toNat / 4)).toNat : Int)) := e5
            have e11 := hh.2.2.2.2.2.2.2.2.2.2.1
            simp only [pick] at e11
            replace e11 : t 11 = (.int .u8 ((let64 (a.toNat % 4 * 16)).toNat : Int)) := e11
            clear hh
            simp only [filled, filledN, upd, Have, is, any, row, pick, Act.put, List.setIfInBounds_toArray, List.set_cons_zero, List.set_cons_succ, Nat.reduceAdd, Nat.reduceEqDiff, reduceIte] at hK ⊢
            simp only [e5, e11] at hK ⊢
            go_simp
            exact hK _ _ ((Below.refl _ _).alloc (Nat.le_refl _) _) ⟨_, _, rfl, Nat.le_refl _, by decide, rds_const wq [let64 (a.toNat / 4), let64 (a.toNat % 4 * 16), 61, 61] 5 (0, 0)⟩
        · intro t wq hbq hh
          have f0 := have_get hh 0 (by decide)
          simp only [pick] at f0
          replace f0 : t 0 = (u3) := f0
          have f12 := have_get hh 12 (by decide)
          simp only [pick] at f12
          clear hh
          simp only [filled, filledN, upd, Have, is, any, row, pick, Act.put, List.setIfInBounds_toArray, List.set_cons_zero, List.set_cons_succ, Nat.reduceAdd, Nat.reduceEqDiff, reduceIte]
          obtain ⟨A12, c12, f12, hc12, hm12, hr12⟩ := f12
          simp only [f0, f12]
          have hown1 := owns_below hown hbq
          have hbel1 : Below w.heap.size w wq := hbel.trans (hbq.mono hbel.size)
          refine wpList_app_any rfl _ _ 22 rfl w.heap.size 5 i0 (.int .u8 0) 1 Try.underlying22 hi hz0 hz1 hz2 rfl _ X.length _ rfl hown1 hbel1 hbel1.size A12 4 c12 (bcells [let64 (a.toNat / 4), let64 (a.toNat % 4 * 16), 61, 61]) rfl hr12 (bcells_one _) (by unfold maxLen; omega) (by omega) ?_
          intro v' w2 hown2 hbel2
          clear o3 o6 x0 x1 x2 y0 y1 y2 hown hown1
          obtain ⟨A2, c2, rfl, hst⟩ := HF.out v' w2 _ HE2.out (by
            rw [bcells_append, List.length_append]
            exact hown2)
          go_wp2
          go_ret
          exact ⟨rfl, hbel2⟩
      · obtain ⟨a, b, hMM⟩ := two_of hml
        subst hMM
        obtain ⟨g, off, rfl, hg, _⟩ := (HM.out).spot (by omega)
        have hgr : g < wr.heap.size := Nat.lt_of_lt_of_le hg hbel.size
        have hc0 : wr.cell? ⟨g, off, none⟩ = some (.int .u8 (a.toNat : Int)) := (hbel.cell (p := ⟨g, off + 0, none⟩) hg).trans (HM.out.byte 0 (by simp))
        have hc1 : wr.cell? ⟨g, off + 1, none⟩ = some (.int .u8 (b.toNat : Int)) := (hbel.cell (p := ⟨g, off + 1, none⟩) hg).trans (HM.out.byte 1 (by simp))
        have HE2 : Hid (X ++ [let64 (a.toNat / 4), let64 (a.toNat % 4 * 16 + b.toNat / 16), let64 (b.toNat % 16 * 4), 61] = e64 L) := by
          have := HE.out
          rw [e64] at this
          exact this
        have ba : (a.toNat : Int) < 256 := by have := a.toNat_lt; omega
        have bb : (b.toNat : Int) < 256 := by have := b.toNat_lt; omega
        have o1 := or_ab a b
        have o3 := and3 a
        have o4 := and15 b
        have o6 := wrap_a a
        have o7 := wrap_b b
        have x0 : (0 : Int) ≤ (a.toNat : Int) / 4 := by omega
        have x1 : (a.toNat : Int) / 4 < 64 := by omega
        have x2 : ∀ h, (⟨#[65, 66, 67, 68, 69, 70, 71, 72, 73, 74, 75, 76, 77, 78, 79, 80, 81, 82, 83, 84, 85, 86, 87, 88, 89, 90, 97, 98, 99, 100, 101, 102, 103, 104, 105, 106, 107, 108, 109, 110, 111, 112, 113, 114, 115, 116, 117, 118, 119, 120, 121, 122, 48, 49, 50, 51, 52, 53, 54, 55, 56, 57, 43, 47]⟩ : ByteArray)[((a.toNat : Int) / 4).toNat]'h = let64 (a.toNat / 4) := fun h => let_at' _ (a.toNat / 4) (by omega) (by omega) h
        have y0 : (0 : Int) ≤ (a.toNat : Int) % 4 * 16 + (b.toNat : Int) / 16 := by omega
        have y1 : (a.toNat : Int) % 4 * 16 + (b.toNat : Int) / 16 < 64 := by omega
        have y2 : ∀ h, (⟨#[65, 66, 67, 68, 69, 70, 71, 72, 73, 74, 75, 76, 77, 78, 79, 80, 81, 82, 83, 84, 85, 86, 87, 88, 89, 90, 97, 98, 99, 100, 101, 102, 103, 104, 105, 106, 107, 108, 109, 110, 111, 112, 113, 114, 115, 116, 117, 118, 119, 120, 121, 122, 48, 49, 50, 51, 52, 53, 54, 55, 56, 57, 43, 47]⟩ : ByteArray)[((a.toNat : Int) % 4 * 16 + (b.toNat : Int) / 16).toNat]'h = let64 (a.toNat % 4 * 16 + b.toNat / 16) := fun h => let_at' _ (a.toNat % 4 * 16 + b.toNat / 16) (by omega) (by omega) h
        have z0 : (0 : Int) ≤ (b.toNat : Int) % 16 * 4 := by omega
        have z1 : (b.toNat : Int) % 16 * 4 < 64 := by omega
        have z2 : ∀ h, (⟨#[65, 66, 67, 68, 69, 70, 71, 72, 73, 74, 75, 76, 77, 78, 79, 80, 81, 82, 83, 84, 85, 86, 87, 88, 89, 90, 97, 98, 99, 100, 101, 102, 103, 104, 105, 106, 107, 108, 109, 110, 111, 112, 113, 114, 115, 116, 117, 118, 119, 120, 121, 122, 48, 49, 50, 51, 52, 53, 54, 55, 56, 57, 43, 47]⟩ : ByteArray)[((b.toNat : Int) % 16 * 4).toNat]'h = let64 (b.toNat % 16 * 4) := fun h => let_at' _ (b.toNat % 16 * 4) (by omega) (by omega) h
        go_wp2
        refine wp_region_rel_tail (by kernel_rfl) 24 [is (u3), is (.slice (some ⟨g, off, none⟩) 2 cp), is (.pointer (some ⟨g, off, none⟩)), is (.int .u8 (a.toNat : Int)), is (.int .u8 ((a.toNat : Int) / 4)), is (.int .u8 ((let64 (a.toNat / 4)).toNat : Int)), is (.slice (some ⟨g, off, none⟩) 2 cp), is (.pointer (some ⟨g, off, none⟩)), is (.int .u8 (a.toNat : Int)), is (.int .u8 ((a.toNat : Int) % 4)), is (.int .u8 ((a.toNat : Int) % 4 * 16)), is (.slice (some ⟨g, off, none⟩) 2 cp), is (.pointer (some ⟨g, off + 1, none⟩)), is (.int .u8 (b.toNat : Int)), is (.int .u8 ((b.toNat : Int) / 16)), is (.int .u8 ((a.toNat : Int) % 4 * 16 + (b.toNat : Int) / 16)), is (.int .u8 ((let64 (a.toNat % 4 * 16 + b.toNat / 16)).toNat : Int)), is (.slice (some ⟨g, off, none⟩) 2 cp), is (.pointer (some ⟨g, off + 1, none⟩)), is (.int .u8 (b.toNat : Int)), is (.int .u8 ((b.toNat : Int) % 16)), is (.int .u8 ((b.toNat : Int) % 16 * 4)), is (.int .u8 ((let64 (b.toNat % 16 * 4)).toNat : Int)), row 4 (bcells [let64 (a.toNat / 4), let64 (a.toNat % 4 * 16 + b.toNat / 16), let64 (b.toNat % 16 * 4), 61])] [[], [], [1], [1, 2], [1, 2, 3], [1, 2, 3, 4], [], [6], [6, 7], [6, 7, 8], [6, 7, 8, 9], [], [11], [11, 12], [11, 12, 13], [6, 7, 8, 9, 10, 11, 12, 13, 14], [6, 7, 8, 9, 10, 11, 12, 13, 14, 15], [], [17], [17, 18], [17, 18, 19], [17, 18, 19, 20], [17, 18, 19, 20, 21], [1, 2, 3, 4, 5, 6, 7, 8, 9, 10, 11, 12, 13, 14, 15, 16, 17, 18, 19, 20, 21, 22], [0, 1, 2, 3, 4, 5, 6, 7, 8, 9, 10, 11, 12, 13, 14, 15, 16, 17, 18, 19, 20, 21, 22, 23]] (by kernel_rfl) ?_ ?_
        · refine ⟨?_, ?_, ?_, ?_, ?_, ?_, ?_, ?_, ?_, ?_, ?_, ?_, ?_, ?_, ?_, ?_, ?_, ?_, ?_, ?_, ?_, ?_, ?_, ?_, trivial⟩
          · intro t wq hbq hh K hK
            clear hh
            simp only [filled, filledN, upd, Have, is, any, row, pick, Act.put, List.setIfInBounds_toArray, List.set_cons_zero, List.set_cons_succ, Nat.reduceAdd, Nat.reduceEqDiff, reduceIte] at hK ⊢
            go_simp
            exact hK _ _ (Below.refl _ _) rfl
          · intro t wq hbq hh K hK
            clear hh
            simp only [filled, filledN, upd, Have, is, any, row, pick, Act.put, List.setIfInBounds_toArray, List.set_cons_zero, List.set_cons_succ, Nat.reduceAdd, Nat.reduceEqDiff, reduceIte] at hK ⊢
            go_simp
            exact hK _ _ (Below.refl _ _) rfl
          · intro t wq hbq hh K hK
            have e1 := hh.1
            simp only [pick] at e1
            replace e1 : t 1 = (.slice (some ⟨g, off, none⟩) 2 cp) := e1
            clear hh
            simp only [filled, filledN, upd, Have, is, any, row, pick, Act.put, List.setIfInBounds_toArray, List.set_cons_zero, List.set_cons_succ, Nat.reduceAdd, Nat.reduceEqDiff, reduceIte] at hK ⊢
            simp only [e1] at hK ⊢
            go_simp
            exact hK _ _ (Below.refl _ _) rfl
          · intro t wq hbq hh K hK
            have e2 := hh.2.1
            simp only [pick] at e2
            replace e2 : t 2 = (.pointer (some ⟨g, off, none⟩)) := e2
            clear hh
            simp only [filled, filledN, upd, Have, is, any, row, pick, Act.put, List.setIfInBounds_toArray, List.set_cons_zero, List.set_cons_succ, Nat.reduceAdd, Nat.reduceEqDiff, reduceIte] at hK ⊢
            simp only [e2] at hK ⊢
            have hq := (hbq.cell (p := ⟨g, off, none⟩) hgr).trans hc0
            go_simp
            first | exact hK _ _ (Below.refl _ _) rfl | (refine hK _ _ (Below.refl _ _) ?_; simp [is, pick])
          · intro t wq hbq hh K hK
            have e3 := hh.2.2.1
            simp only [pick] at e3
            replace e3 : t 3 = (.int .u8 (a.toNat : Int)) := e3
            clear hh
            simp only [filled, filledN, upd, Have, is, any, row, pick, Act.put, List.setIfInBounds_toArray, List.set_cons_zero, List.set_cons_succ, Nat.reduceAdd, Nat.reduceEqDiff, reduceIte] at hK ⊢
            simp only [e3] at hK ⊢
            go_simp
            exact hK _ _ (Below.refl _ _) rfl
          · intro t wq hbq hh K hK
            have e4 := hh.2.2.2.1
            simp only [pick] at e4
            replace e4 : t 4 = (.int .u8 ((a.toNat : Int) / 4)) := e4
            clear hh
            simp only [filled, filledN, upd, Have, is, any, row, pick, Act.put, List.setIfInBounds_toArray, List.set_cons_zero, List.set_cons_succ, Nat.reduceAdd, Nat.reduceEqDiff, reduceIte] at hK ⊢
            simp only [e4] at hK ⊢
            go_simp
            exact hK _ _ (Below.refl _ _) rfl
          · intro t wq hbq hh K hK
            clear hh
            simp only [filled, filledN, upd, Have, is, any, row, pick, Act.put, List.setIfInBounds_toArray, List.set_cons_zero, List.set_cons_succ, Nat.reduceAdd, Nat.reduceEqDiff, reduceIte] at hK ⊢
            go_simp
            exact hK _ _ (Below.refl _ _) rfl
          · intro t wq hbq hh K hK
            have e6 := hh.1
            simp only [pick] at e6
            replace e6 : t 6 = (.slice (some ⟨g, off, none⟩) 2 cp) := e6
            clear hh
            simp only [filled, filledN, upd, Have, is, any, row, pick, Act.put, List.setIfInBounds_toArray, List.set_cons_zero, List.set_cons_succ, Nat.reduceAdd, Nat.reduceEqDiff, reduceIte] at hK ⊢
            simp only [e6] at hK ⊢
            go_simp
            exact hK _ _ (Below.refl _ _) rfl
          · intro t wq hbq hh K hK
            have e7 := hh.2.1
            simp only [pick] at e7
            replace e7 : t 7 = (.pointer (some ⟨g, off, none⟩)) := e7
            clear hh
            simp only [filled, filledN, upd, Have, is, any, row, pick, Act.put, List.setIfInBounds_toArray, List.set_cons_zero, List.set_cons_succ, Nat.reduceAdd, Nat.reduceEqDiff, reduceIte] at hK ⊢
            simp only [e7] at hK ⊢
            have hq := (hbq.cell (p := ⟨g, off, none⟩) hgr).trans hc0
            go_simp
            first | exact hK _ _ (Below.refl _ _) rfl | (refine hK _ _ (Below.refl _ _) ?_; simp [is, pick])
          · intro t wq hbq hh K hK
            have e8 := hh.2.2.1
            simp only [pick] at e8
            replace e8 : t 8 = (.int .u8 (a.toNat : Int)) := e8
            clear hh
            simp only [filled, filledN, upd, Have, is, any, row, pick, Act.put, List.setIfInBounds_toArray, List.set_cons_zero, List.set_cons_succ, Nat.reduceAdd, Nat.reduceEqDiff, reduceIte] at hK ⊢
            simp only [e8] at hK ⊢
            go_simp
            exact hK _ _ (Below.refl _ _) rfl
          · intro t wq hbq hh K hK
            have e9 := hh.2.2.2.1
            simp only [pick] at e9
            replace e9 : t 9 = (.int .u8 ((a.toNat : Int) % 4)) := e9
            clear hh
            simp only [filled, filledN, upd, Have, is, any, row, pick, Act.put, List.setIfInBounds_toArray, List.set_cons_zero, List.set_cons_succ, Nat.reduceAdd, Nat.reduceEqDiff, reduceIte] at hK ⊢
            simp only [e9] at hK ⊢
            go_simp
            exact hK _ _ (Below.refl _ _) rfl
          · intro t wq hbq hh K hK
            clear hh
            simp only [filled, filledN, upd, Have, is, any, row, pick, Act.put, List.setIfInBounds_toArray, List.set_cons_zero, List.set_cons_succ, Nat.reduceAdd, Nat.reduceEqDiff, reduceIte] at hK ⊢
            go_simp
            exact hK _ _ (Below.refl _ _) rfl
          · intro t wq hbq hh K hK
            have e11 := hh.1
            simp only [pick] at e11
            replace e11 : t 11 = (.slice (some ⟨g, off, none⟩) 2 cp) := e11
            clear hh
            simp only [filled, filledN, upd, Have, is, any, row, pick, Act.put, List.setIfInBounds_toArray, List.set_cons_zero, List.set_cons_succ, Nat.reduceAdd, Nat.reduceEqDiff, reduceIte] at hK ⊢
            simp only [e11] at hK ⊢
            go_simp
            exact hK _ _ (Below.refl _ _) rfl
          · intro t wq hbq hh K hK
            have e12 := hh.2.1
            simp only [pick] at e12
            replace e12 : t 12 = (.pointer (some ⟨g, off + 1, none⟩)) := e12
            clear hh
            simp only [filled, filledN, upd, Have, is, any, row, pick, Act.put, List.setIfInBounds_toArray, List.set_cons_zero, List.set_cons_succ, Nat.reduceAdd, Nat.reduceEqDiff, reduceIte] at hK ⊢
            simp only [e12] at hK ⊢
            have hq := (hbq.cell (p := ⟨g, off + 1, none⟩) hgr).trans hc1
            go_simp
            first | exact hK _ _ (Below.refl _ _) rfl | (refine hK _ _ (Below.refl _ _) ?_; simp [is, pick])
          · intro t wq hbq hh K hK
            have e13 := hh.2.2.1
            simp only [pick] at e13
            replace e13 : t 13 = (.int .u8 (b.toNat : Int)) := e13
            clear hh
            simp only [filled, filledN, upd, Have, is, any, row, pick, Act.put, List.setIfInBounds_toArray, List.set_cons_zero, List.set_cons_succ, Nat.reduceAdd, Nat.reduceEqDiff, reduceIte] at hK ⊢
            simp only [e13] at hK ⊢
            go_simp
            exact hK _ _ (Below.refl _ _) rfl
          · intro t wq hbq hh K hK
            have e10 := hh.2.2.2.2.1
            simp only [pick] at e10
            replace e10 : t 10 = (.int .u8 ((a.toNat : Int) % 4 * 16)) := e10
            have e14 := hh.2.2.2.2.2.2.2.2.1
            simp only [pick] at e14
            replace e14 : t 14 = (.int .u8 ((b.toNat : Int) / 16)) := e14
            clear hh
            simp only [filled, filledN, upd, Have, is, any, row, pick, Act.put, List.setIfInBounds_toArray, List.set_cons_zero, List.set_cons_succ, Nat.reduceAdd, Nat.reduceEqDiff, reduceIte] at hK ⊢
            simp only [e10, e14] at hK ⊢
            go_simp
            exact hK _ _ (Below.refl _ _) rfl
          · intro t wq hbq hh K hK
            have e15 := hh.2.2.2.2.2.2.2.2.2.1
            simp only [pick] at e15
            replace e15 : t 15 = (.int .u8 ((a.toNat : Int) % 4 * 16 + (b.toNat : Int) / 16)) := e15
            clear hh
            simp only [filled, filledN, upd, Have, is, any, row, pick, Act.put, List.setIfInBounds_toArray, List.set_cons_zero, List.set_cons_succ, Nat.reduceAdd, Nat.reduceEqDiff, reduceIte] at hK ⊢
            simp only [e15] at hK ⊢
            go_simp
            exact hK _ _ (Below.refl _ _) rfl
          · intro t wq hbq hh K hK
            clear hh
            simp only [filled, filledN, upd, Have, is, any, row, pick, Act.put, List.setIfInBounds_toArray, List.set_cons_zero, List.set_cons_succ, Nat.reduceAdd, Nat.reduceEqDiff, reduceIte] at hK ⊢
            go_simp
            exact hK _ _ (Below.refl _ _) rfl
          · intro t wq hbq hh K hK
            have e17 := hh.1
            simp only [pick] at e17
            replace e17 : t 17 = (.slice (some ⟨g, off, none⟩) 2 cp) := e17
            clear hh
            simp only [filled, filledN, upd, Have, is, any, row, pick, Act.put, List.setIfInBounds_toArray, List.set_cons_zero, List.set_cons_succ, Nat.reduceAdd, Nat.reduceEqDiff, reduceIte] at hK ⊢
            simp only [e17] at hK ⊢
            go_simp
            exact hK _ _ (Below.refl _ _) rfl
          · intro t wq hbq hh K hK
            have e18 := hh.2.1
            simp only [pick] at e18
            replace e18 : t 18 = (.pointer (some ⟨g, off + 1, none⟩)) := e18
            clear hh
            simp only [filled, filledN, upd, Have, is, any, row, pick, Act.put, List.setIfInBounds_toArray, List.set_cons_zero, List.set_cons_succ, Nat.reduceAdd, Nat.reduceEqDiff, reduceIte] at hK ⊢
            simp only [e18] at hK ⊢
            have hq := (hbq.cell (p := ⟨g, off + 1, none⟩) hgr).trans hc1
            go_simp
            first | exact hK _ _ (Below.refl _ _) rfl | (refine hK _ _ (Below.refl _ _) ?_; simp [is, pick])
          · intro t wq hbq hh K hK
            have e19 := hh.2.2.1
            simp only [pick] at e19
            replace e19 : t 19 = (.int .u8 (b.toNat : Int)) := e19
            clear hh
            simp only [filled, filledN, upd, Have, is, any, row, pick, Act.put, List.setIfInBounds_toArray, List.set_cons_zero, List.set_cons_succ, Nat.reduceAdd, Nat.reduceEqDiff, reduceIte] at hK ⊢
            simp only [e19] at hK ⊢
            go_simp
            exact hK _ _ (Below.refl _ _) rfl
          · intro t wq hbq hh K hK
            have e20 := hh.2.2.2.1
            simp only [pick] at e20
            replace e20 : t 20 = (.int .u8 ((b.toNat : Int) % 16)) := e20
            clear hh
            simp only [filled, filledN, upd, Have, is, any, row, pick, Act.put, List.setIfInBounds_toArray, List.set_cons_zero, List.set_cons_succ, Nat.reduceAdd, Nat.reduceEqDiff, reduceIte] at hK ⊢
            simp only [e20] at hK ⊢
            go_simp
            exact hK _ _ (Below.refl _ _) rfl
          · intro t wq hbq hh K hK
            have e21 := hh.2.2.2.2.1
            simp only [pick] at e21
            replace e21 : t 21 = (.int .u8 ((b.toNat : Int) % 16 * 4)) := e21
            clear hh
            simp only [filled, filledN, upd, Have, is, any, row, pick, Act.put, List.setIfInBounds_toArray, List.set_cons_zero, List.set_cons_succ, Nat.reduceAdd, Nat.reduceEqDiff, reduceIte] at hK ⊢
            simp only [e21] at hK ⊢
            go_simp
            exact hK _ _ (Below.refl _ _) rfl
          · intro t wq hbq hh K hK
            have e5 := hh.2.2.2.2.1
            simp only [pick] at e5
            replace e5 : t 5 = (.int .u8 ((let64 (a.toNat / 4)).toNat : Int)) := e5
            have e16 := hh.2.2.2.2.2.2.2.2.2.2.2.2.2.2.2.1
            simp only [pick] at e16
            replace e16 : t 16 = (.int .u8 ((let64 (a.toNat % 4 * 16 + b.toNat / 16)).toNat : Int)) := e16
            have e22 := hh.2.2.2.2.2.2.2.2.2.2.2.2.2.2.2.2.2.2.2.2.2.1
            simp only [pick] at e22
            replace e22 : t 22 = (.int .u8 ((let64 (b.toNat % 16 * 4)).toNat : Int)) := e22
            clear hh
            simp only [filled, filledN, upd, Have, is, any, row, pick, Act.put, List.setIfInBounds_toArray, List.set_cons_zero, List.set_cons_succ, Nat.reduceAdd, Nat.reduceEqDiff, reduceIte] at hK ⊢
            simp only [e5, e16, e22] at hK ⊢
            go_simp
            exact hK _ _ ((Below.refl _ _).alloc (Nat.le_refl _) _) ⟨_, _, rfl, Nat.le_refl _, by decide, rds_const wq [let64 (a.toNat / 4), let64 (a.toNat % 4 * 16 + b.toNat / 16), let64 (b.toNat % 16 * 4), 61] 5 (0, 0)⟩
        · intro t wq hbq hh
          have f0 := have_get hh 0 (by decide)
          simp only [pick] at f0
          replace f0 : t 0 = (u3) := f0
          have f23 := have_get hh 23 (by decide)
          simp only [pick] at f23
          clear hh
          simp only [filled, filledN, upd, Have, is, any, row, pick, Act.put, List.setIfInBounds_toArray, List.set_cons_zero, List.set_cons_succ, Nat.reduceAdd, Nat.reduceEqDiff, reduceIte]
          obtain ⟨A23, c23, f23, hc23, hm23, hr23⟩ := f23
          simp only [f0, f23]
          have hown1 := owns_below hown hbq
          have hbel1 : Below w.heap.size w wq := hbel.trans (hbq.mono hbel.size)
          refine wpList_app_any rfl _ _ 22 rfl w.heap.size 5 i0 (.int .u8 0) 1 Try.underlying22 hi hz0 hz1 hz2 rfl _ X.length _ rfl hown1 hbel1 hbel1.size A23 4 c23 (bcells [let64 (a.toNat / 4), let64 (a.toNat % 4 * 16 + b.toNat / 16), let64 (b.toNat % 16 * 4), 61]) rfl hr23 (bcells_one _) (by unfold maxLen; omega) (by omega) ?_
          intro v' w2 hown2 hbel2
          clear o1 o3 o4 o6 o7 x0 x1 x2 y0 y1 y2 z0 z1 z2 hown hown1
          obtain ⟨A2, c2, rfl, hst⟩ := HF.out v' w2 _ HE2.out (by
            rw [bcells_append, List.length_append]
            exact hown2)
          go_wp2
          go_ret
          exact ⟨rfl, hbel2⟩
end Go.Proofs.Ytflklgcnjliipaa.B64E
