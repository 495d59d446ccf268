/- Names: the law's own 'name' says what ident.Of does. -/
import Derived.Test.YtdgdmlchegjejaaIdnA
namespace Go.Proofs.Ytdgdmlchegjejaa.IdnB
open Go.RowKit Go.Proofs.Ytdgdmlchegjejaa.Base Go.Proofs.Ytdgdmlchegjejaa.Base2 Go.Proofs.Ytdgdmlchegjejaa.Base3 Go.Proofs.Ytdgdmlchegjejaa.IdnA

theorem wrap16 (c : UInt8) : IntKind.u8.wrap ((c.toNat : Int) / 16) = (c.toNat : Int) / 16 := by
  have H : ∀ n : Fin 256, IntKind.u8.wrap ((n.val : Int) / 16) = (n.val : Int) / 16 := by decide +kernel
  exact H ⟨c.toNat, c.toNat_lt⟩
theorem wrapm (c : UInt8) (k : Int) (hk : 0 < k) : IntKind.u8.wrap ((c.toNat : Int) % k) = (c.toNat : Int) % k := by
  have h0 := c.toNat_lt
  have h1 := Int.emod_nonneg (c.toNat : Int) (show k ≠ 0 by omega)
  have h2 : (c.toNat : Int) % k ≤ (c.toNat : Int) := by
    have := Int.emod_add_mul_ediv (c.toNat : Int) k
    have h3 : 0 ≤ (c.toNat : Int) / k := Int.ediv_nonneg (by omega) (by omega)
    have h4 : 0 ≤ k * ((c.toNat : Int) / k) := Int.mul_nonneg (by omega) h3
    omega
  simp [IntKind.wrap, IntKind.signed, IntKind.bits]
  omega
theorem tm (c : UInt8) (k : Int) : (c.toNat : Int).tmod k = (c.toNat : Int) % k := Int.tmod_eq_emod_of_nonneg (by omega)
theorem wrapb (b : UInt8) (x : Int) (h : x = (b.toNat : Int)) : IntKind.u8.wrap x = (b.toNat : Int) := by
  have h0 := b.toNat_lt
  subst h
  simp [IntKind.wrap, IntKind.signed, IntKind.bits]
  omega
set_option linter.unusedSimpArgs false in
set_option maxRecDepth 100000 in
set_option maxHeartbeats 16000000 in
theorem name_any (f : Nat → UInt8) (w : World) : Calls Try.prog 24 #[.agg #[.int .u8 ((f 0).toNat : Int), .int .u8 ((f 1).toNat : Int), .int .u8 ((f 2).toNat : Int), .int .u8 ((f 3).toNat : Int), .int .u8 ((f 4).toNat : Int), .int .u8 ((f 5).toNat : Int), .int .u8 ((f 6).toNat : Int), .int .u8 ((f 7).toNat : Int), .int .u8 ((f 8).toNat : Int), .int .u8 ((f 9).toNat : Int), .int .u8 ((f 10).toNat : Int), .int .u8 ((f 11).toNat : Int), .int .u8 ((f 12).toNat : Int), .int .u8 ((f 13).toNat : Int), .int .u8 ((f 14).toNat : Int), .int .u8 ((f 15).toNat : Int)]] w fun e w' => e = .returned (.string (strOf (nm f 16))) ∧ Below w.heap.size w w' := by
  obtain ⟨i0, hi, hz0, hz1, hz2⟩ := info_parts info_u8
  have l6 := (f 6).toNat_lt
  have l8 := (f 8).toNat_lt
  obtain ⟨b6, h6⟩ : ∃ b : UInt8, b.toNat = (f 6).toNat % 16 + 64 := ⟨UInt8.ofNat ((f 6).toNat % 16 + 64), by simp; omega⟩
  obtain ⟨b8, h8⟩ : ∃ b : UInt8, b.toNat = (f 8).toNat % 64 + 128 := ⟨UInt8.ofNat ((f 8).toNat % 64 + 128), by simp; omega⟩
  have H6 := hid h6
  have H8 := hid h8
  clear h6 h8 l6 l8
  go_enter Try.func24, Try.ntmps24
  go_wp2
  generalize hw1 : w.alloc _ = w1
  have hbel1 : Below w.heap.size w w1 := by rw [← hw1]; exact (Below.refl _ _).alloc (Nat.le_refl _) _
  have HROW : Hid (w1.heap[w.heap.size]? = some (.cells #[.int .u8 ((f 0).toNat : Int), .int .u8 ((f 1).toNat : Int), .int .u8 ((f 2).toNat : Int), .int .u8 ((f 3).toNat : Int), .int .u8 ((f 4).toNat : Int), .int .u8 ((f 5).toNat : Int), .int .u8 ((f 6).toNat : Int), .int .u8 ((f 7).toNat : Int), .int .u8 ((f 8).toNat : Int), .int .u8 ((f 9).toNat : Int), .int .u8 ((f 10).toNat : Int), .int .u8 ((f 11).toNat : Int), .int .u8 ((f 12).toNat : Int), .int .u8 ((f 13).toNat : Int), .int .u8 ((f 14).toNat : Int), .int .u8 ((f 15).toNat : Int)] 39 (0, 0))) := by rw [← hw1]; exact heap_alloc_new w _
  have hs1 : w1.heap.size = w.heap.size + 1 := by rw [← hw1]; simp
  clear hw1
  go_loopw [3, 6] (fun v vk wr => ∃ k : Nat, k ≤ 16 ∧ vk = .int .i64 (k : Int) ∧ wr.ownsRow (w.heap.size + 1) 5 1 v (nm f k).length (bcells (nm f k)) ∧ Below (w.heap.size + 1) w1 wr) (fun _ vk _ => 16 - (intOf vk).toNat)
  case atStart => exact ⟨0, by omega, rfl, World.ownsRow_nil _ _ _ _, Below.refl _ _⟩
  case round =>
    obtain ⟨k, hk, rfl, hown, hbel⟩ := hrel
    have HR : Hid (wr.heap[w.heap.size]? = some (.cells #[.int .u8 ((f 0).toNat : Int), .int .u8 ((f 1).toNat : Int), .int .u8 ((f 2).toNat : Int), .int .u8 ((f 3).toNat : Int), .int .u8 ((f 4).toNat : Int), .int .u8 ((f 5).toNat : Int), .int .u8 ((f 6).toNat : Int), .int .u8 ((f 7).toNat : Int), .int .u8 ((f 8).toNat : Int), .int .u8 ((f 9).toNat : Int), .int .u8 ((f 10).toNat : Int), .int .u8 ((f 11).toNat : Int), .int .u8 ((f 12).toNat : Int), .int .u8 ((f 13).toNat : Int), .int .u8 ((f 14).toNat : Int), .int .u8 ((f 15).toNat : Int)] 39 (0, 0))) := (hbel.block _ (by omega)).trans HROW.out
    have hbs : w.heap.size + 1 ≤ wr.heap.size := by have := hbel.size; omega
    have hle := nm_len f k
    obtain ⟨m, hmm⟩ : ∃ m, m = (nm f k).length := ⟨_, rfl⟩
    rw [← hmm] at hle hown
    have HM := hid hmm
    clear hmm
    by_cases hlt : k < 16
    · have hcase : k = 0 ∨ k = 1 ∨ k = 2 ∨ k = 3 ∨ k = 4 ∨ k = 5 ∨ k = 6 ∨ k = 7 ∨ k = 8 ∨ k = 9 ∨ k = 10 ∨ k = 11 ∨ k = 12 ∨ k = 13 ∨ k = 14 ∨ k = 15 := by omega
      clear hlt hk
      rcases hcase with rfl | rfl | rfl | rfl | rfl | rfl | rfl | rfl | rfl | rfl | rfl | rfl | rfl | rfl | rfl | rfl
      · have hc := (cell_of_row wr w.heap.size 0 _ _ _ HR.out).trans (show _ = some (.int .u8 ((f 0).toNat : Int)) from rfl)
        have hc0 : ((f 0).toNat : Int) < 256 := by have := (f 0).toNat_lt; omega
        have HP : Hid (piece 0 (f 0).toNat = [] ++ [dgt ((f 0).toNat / 16), dgt ((f 0).toNat % 16)]) := piece_at 0 (f 0).toNat (f 0) rfl
        go_wp2
        clear hc
        have q1 : (0 : Int) ≤ ((f 0).toNat : Int) / 16 := by omega
        have q2 : ((f 0).toNat : Int) / 16 < 16 := by omega
        have q3 : (0 : Int) ≤ ((f 0).toNat : Int) % 16 := by omega
        have q4 : ((f 0).toNat : Int) % 16 < 16 := by omega
        have q5 := tm (f 0) 16
        have q8 := wrap16 (f 0)
        have q9 := wrapm (f 0) 16 (by decide)
        have q6 : ∀ h, (⟨#[48, 49, 50, 51, 52, 53, 54, 55, 56, 57, 97, 98, 99, 100, 101, 102]⟩ : ByteArray)[(((f 0).toNat : Int) / 16).toNat]'h = dgt ((f 0).toNat / 16) := fun h => dgt_at _ h
        have q7 : ∀ h, (⟨#[48, 49, 50, 51, 52, 53, 54, 55, 56, 57, 97, 98, 99, 100, 101, 102]⟩ : ByteArray)[(((f 0).toNat : Int) % 16).toNat]'h = dgt ((f 0).toNat % 16) := fun h => dgt_at _ h
        go_region_held3 (fun _ => True) (trivial) ((refine step_app (by rfl) _ _ 22 (by rfl) (w.heap.size + 1) 5 i0 (.int .u8 0) 1 Try.underlying22 hi hz0 hz1 hz2 (by rfl) _ m _ (by rfl) hown hbel hbs [.int .u8 ((dgt ((f 0).toNat / 16)).toNat : Int), .int .u8 ((dgt ((f 0).toNat % 16)).toNat : Int)] 2 (by rfl) (by decide) (by rfl) (two_one _ _) (by unfold maxLen; omega) (by omega) ⟨(Below.refl _ _).drew, fun _ => rfl, by simp⟩ ?_; intro v3 w3 hown3 hbel3))
        all_goals
          clear hown hbel hbs q1 q2 q3 q4 q5 q6 q7 q8 q9
          go_wp2
          go_roundw
          case rel => exact ⟨1, by omega, rfl, by
              rw [show nm f 1 = nm f 0 ++ piece 0 (f 0).toNat from rfl, HP.out, List.length_append, bcells_append, ← HM.out]
              first | exact hown3 | simpa [bcells, List.append_assoc, Nat.add_assoc] using hown3, hbel3⟩
          case measure => simp [intOf]
      · have hc := (cell_of_row wr w.heap.size 1 _ _ _ HR.out).trans (show _ = some (.int .u8 ((f 1).toNat : Int)) from rfl)
        have hc0 : ((f 1).toNat : Int) < 256 := by have := (f 1).toNat_lt; omega
        have HP : Hid (piece 1 (f 1).toNat = [] ++ [dgt ((f 1).toNat / 16), dgt ((f 1).toNat % 16)]) := piece_at 1 (f 1).toNat (f 1) rfl
        go_wp2
        clear hc
        have q1 : (0 : Int) ≤ ((f 1).toNat : Int) / 16 := by omega
        have q2 : ((f 1).toNat : Int) / 16 < 16 := by omega
        have q3 : (0 : Int) ≤ ((f 1).toNat : Int) % 16 := by omega
        have q4 : ((f 1).toNat : Int) % 16 < 16 := by omega
        have q5 := tm (f 1) 16
        have q8 := wrap16 (f 1)
        have q9 := wrapm (f 1) 16 (by decide)
        have q6 : ∀ h, (⟨#[48, 49, 50, 51, 52, 53, 54, 55, 56, 57, 97, 98, 99, 100, 101, 102]⟩ : ByteArray)[(((f 1).toNat : Int) / 16).toNat]'h = dgt ((f 1).toNat / 16) := fun h => dgt_at _ h
        have q7 : ∀ h, (⟨#[48, 49, 50, 51, 52, 53, 54, 55, 56, 57, 97, 98, 99, 100, 101, 102]⟩ : ByteArray)[(((f 1).toNat : Int) % 16).toNat]'h = dgt ((f 1).toNat % 16) := fun h => dgt_at _ h
        go_region_held3 (fun _ => True) (trivial) ((refine step_app (by rfl) _ _ 22 (by rfl) (w.heap.size + 1) 5 i0 (.int .u8 0) 1 Try.underlying22 hi hz0 hz1 hz2 (by rfl) _ m _ (by rfl) hown hbel hbs [.int .u8 ((dgt ((f 1).toNat / 16)).toNat : Int), .int .u8 ((dgt ((f 1).toNat % 16)).toNat : Int)] 2 (by rfl) (by decide) (by rfl) (two_one _ _) (by unfold maxLen; omega) (by omega) ⟨(Below.refl _ _).drew, fun _ => rfl, by simp⟩ ?_; intro v3 w3 hown3 hbel3))
        all_goals
          clear hown hbel hbs q1 q2 q3 q4 q5 q6 q7 q8 q9
          go_wp2
          go_roundw
          case rel => exact ⟨2, by omega, rfl, by
              rw [show nm f 2 = nm f 1 ++ piece 1 (f 1).toNat from rfl, HP.out, List.length_append, bcells_append, ← HM.out]
              first | exact hown3 | simpa [bcells, List.append_assoc, Nat.add_assoc] using hown3, hbel3⟩
          case measure => simp [intOf]
      · have hc := (cell_of_row wr w.heap.size 2 _ _ _ HR.out).trans (show _ = some (.int .u8 ((f 2).toNat : Int)) from rfl)
        have hc0 : ((f 2).toNat : Int) < 256 := by have := (f 2).toNat_lt; omega
        have HP : Hid (piece 2 (f 2).toNat = [] ++ [dgt ((f 2).toNat / 16), dgt ((f 2).toNat % 16)]) := piece_at 2 (f 2).toNat (f 2) rfl
        go_wp2
        clear hc
        have q1 : (0 : Int) ≤ ((f 2).toNat : Int) / 16 := by omega
        have q2 : ((f 2).toNat : Int) / 16 < 16 := by omega
        have q3 : (0 : Int) ≤ ((f 2).toNat : Int) % 16 := by omega
        have q4 : ((f 2).toNat : Int) % 16 < 16 := by omega
        have q5 := tm (f 2) 16
        have q8 := wrap16 (f 2)
        have q9 := wrapm (f 2) 16 (by decide)
        have q6 : ∀ h, (⟨#[48, 49, 50, 51, 52, 53, 54, 55, 56, 57, 97, 98, 99, 100, 101, 102]⟩ : ByteArray)[(((f 2).toNat : Int) / 16).toNat]'h = dgt ((f 2).toNat / 16) := fun h => dgt_at _ h
        have q7 : ∀ h, (⟨#[48, 49, 50, 51, 52, 53, 54, 55, 56, 57, 97, 98, 99, 100, 101, 102]⟩ : ByteArray)[(((f 2).toNat : Int) % 16).toNat]'h = dgt ((f 2).toNat % 16) := fun h => dgt_at _ h
        go_region_held3 (fun _ => True) (trivial) ((refine step_app (by rfl) _ _ 22 (by rfl) (w.heap.size + 1) 5 i0 (.int .u8 0) 1 Try.underlying22 hi hz0 hz1 hz2 (by rfl) _ m _ (by rfl) hown hbel hbs [.int .u8 ((dgt ((f 2).toNat / 16)).toNat : Int), .int .u8 ((dgt ((f 2).toNat % 16)).toNat : Int)] 2 (by rfl) (by decide) (by rfl) (two_one _ _) (by unfold maxLen; omega) (by omega) ⟨(Below.refl _ _).drew, fun _ => rfl, by simp⟩ ?_; intro v3 w3 hown3 hbel3))
        all_goals
          clear hown hbel hbs q1 q2 q3 q4 q5 q6 q7 q8 q9
          go_wp2
          go_roundw
          case rel => exact ⟨3, by omega, rfl, by
              rw [show nm f 3 = nm f 2 ++ piece 2 (f 2).toNat from rfl, HP.out, List.length_append, bcells_append, ← HM.out]
              first | exact hown3 | simpa [bcells, List.append_assoc, Nat.add_assoc] using hown3, hbel3⟩
          case measure => simp [intOf]
      · have hc := (cell_of_row wr w.heap.size 3 _ _ _ HR.out).trans (show _ = some (.int .u8 ((f 3).toNat : Int)) from rfl)
        have hc0 : ((f 3).toNat : Int) < 256 := by have := (f 3).toNat_lt; omega
        have HP : Hid (piece 3 (f 3).toNat = [] ++ [dgt ((f 3).toNat / 16), dgt ((f 3).toNat % 16)]) := piece_at 3 (f 3).toNat (f 3) rfl
        go_wp2
        clear hc
        have q1 : (0 : Int) ≤ ((f 3).toNat : Int) / 16 := by omega
        have q2 : ((f 3).toNat : Int) / 16 < 16 := by omega
        have q3 : (0 : Int) ≤ ((f 3).toNat : Int) % 16 := by omega
        have q4 : ((f 3).toNat : Int) % 16 < 16 := by omega
        have q5 := tm (f 3) 16
        have q8 := wrap16 (f 3)
        have q9 := wrapm (f 3) 16 (by decide)
        have q6 : ∀ h, (⟨#[48, 49, 50, 51, 52, 53, 54, 55, 56, 57, 97, 98, 99, 100, 101, 102]⟩ : ByteArray)[(((f 3).toNat : Int) / 16).toNat]'h = dgt ((f 3).toNat / 16) := fun h => dgt_at _ h
        have q7 : ∀ h, (⟨#[48, 49, 50, 51, 52, 53, 54, 55, 56, 57, 97, 98, 99, 100, 101, 102]⟩ : ByteArray)[(((f 3).toNat : Int) % 16).toNat]'h = dgt ((f 3).toNat % 16) := fun h => dgt_at _ h
        go_region_held3 (fun _ => True) (trivial) ((refine step_app (by rfl) _ _ 22 (by rfl) (w.heap.size + 1) 5 i0 (.int .u8 0) 1 Try.underlying22 hi hz0 hz1 hz2 (by rfl) _ m _ (by rfl) hown hbel hbs [.int .u8 ((dgt ((f 3).toNat / 16)).toNat : Int), .int .u8 ((dgt ((f 3).toNat % 16)).toNat : Int)] 2 (by rfl) (by decide) (by rfl) (two_one _ _) (by unfold maxLen; omega) (by omega) ⟨(Below.refl _ _).drew, fun _ => rfl, by simp⟩ ?_; intro v3 w3 hown3 hbel3))
        all_goals
          clear hown hbel hbs q1 q2 q3 q4 q5 q6 q7 q8 q9
          go_wp2
          go_roundw
          case rel => exact ⟨4, by omega, rfl, by
              rw [show nm f 4 = nm f 3 ++ piece 3 (f 3).toNat from rfl, HP.out, List.length_append, bcells_append, ← HM.out]
              first | exact hown3 | simpa [bcells, List.append_assoc, Nat.add_assoc] using hown3, hbel3⟩
          case measure => simp [intOf]
      · have hc := (cell_of_row wr w.heap.size 4 _ _ _ HR.out).trans (show _ = some (.int .u8 ((f 4).toNat : Int)) from rfl)
        have hc0 : ((f 4).toNat : Int) < 256 := by have := (f 4).toNat_lt; omega
        have HP : Hid (piece 4 (f 4).toNat = [45] ++ [dgt ((f 4).toNat / 16), dgt ((f 4).toNat % 16)]) := piece_at 4 (f 4).toNat (f 4) rfl
        go_wp2_with (at_builtin; refine wpList_app rfl _ _ 22 rfl (w.heap.size + 1) 5 i0 (.int .u8 0) 1 Try.underlying22 hi hz0 hz1 hz2 rfl _ m _ rfl hown hbel hbs [.int .u8 45] 1 rfl rfl (by intro u hu; simp at hu; subst hu; rfl) (by unfold maxLen; omega) (by omega) ?_)
        intro v' w2 hown2 hbel2
        have hbs2 : w.heap.size + 1 ≤ w2.heap.size := by have := hbel2.size; omega
        clear hown hbel hbs
        go_wp2
        clear hc
        have q1 : (0 : Int) ≤ ((f 4).toNat : Int) / 16 := by omega
        have q2 : ((f 4).toNat : Int) / 16 < 16 := by omega
        have q3 : (0 : Int) ≤ ((f 4).toNat : Int) % 16 := by omega
        have q4 : ((f 4).toNat : Int) % 16 < 16 := by omega
        have q5 := tm (f 4) 16
        have q8 := wrap16 (f 4)
        have q9 := wrapm (f 4) 16 (by decide)
        have q6 : ∀ h, (⟨#[48, 49, 50, 51, 52, 53, 54, 55, 56, 57, 97, 98, 99, 100, 101, 102]⟩ : ByteArray)[(((f 4).toNat : Int) / 16).toNat]'h = dgt ((f 4).toNat / 16) := fun h => dgt_at _ h
        have q7 : ∀ h, (⟨#[48, 49, 50, 51, 52, 53, 54, 55, 56, 57, 97, 98, 99, 100, 101, 102]⟩ : ByteArray)[(((f 4).toNat : Int) % 16).toNat]'h = dgt ((f 4).toNat % 16) := fun h => dgt_at _ h
        go_region_held3 (fun _ => True) (trivial) ((refine step_app (by rfl) _ _ 22 (by rfl) (w.heap.size + 1) 5 i0 (.int .u8 0) 1 Try.underlying22 hi hz0 hz1 hz2 (by rfl) _ (m + 1) _ (by rfl) hown2 hbel2 hbs2 [.int .u8 ((dgt ((f 4).toNat / 16)).toNat : Int), .int .u8 ((dgt ((f 4).toNat % 16)).toNat : Int)] 2 (by rfl) (by decide) (by rfl) (two_one _ _) (by unfold maxLen; omega) (by omega) ⟨(Below.refl _ _).drew, fun _ => rfl, by simp⟩ ?_; intro v3 w3 hown3 hbel3))
        all_goals
          clear hown2 hbel2 hbs2 q1 q2 q3 q4 q5 q6 q7 q8 q9
          go_wp2
          go_roundw
          case rel => exact ⟨5, by omega, rfl, by
              rw [show nm f 5 = nm f 4 ++ piece 4 (f 4).toNat from rfl, HP.out, List.length_append, bcells_append, ← HM.out]
              first | exact hown3 | simpa [bcells, List.append_assoc, Nat.add_assoc] using hown3, hbel3⟩
          case measure => simp [intOf]
      · have hc := (cell_of_row wr w.heap.size 5 _ _ _ HR.out).trans (show _ = some (.int .u8 ((f 5).toNat : Int)) from rfl)
        have hc0 : ((f 5).toNat : Int) < 256 := by have := (f 5).toNat_lt; omega
        have HP : Hid (piece 5 (f 5).toNat = [] ++ [dgt ((f 5).toNat / 16), dgt ((f 5).toNat % 16)]) := piece_at 5 (f 5).toNat (f 5) rfl
        go_wp2
        clear hc
        have q1 : (0 : Int) ≤ ((f 5).toNat : Int) / 16 := by omega
        have q2 : ((f 5).toNat : Int) / 16 < 16 := by omega
        have q3 : (0 : Int) ≤ ((f 5).toNat : Int) % 16 := by omega
        have q4 : ((f 5).toNat : Int) % 16 < 16 := by omega
        have q5 := tm (f 5) 16
        have q8 := wrap16 (f 5)
        have q9 := wrapm (f 5) 16 (by decide)
        have q6 : ∀ h, (⟨#[48, 49, 50, 51, 52, 53, 54, 55, 56, 57, 97, 98, 99, 100, 101, 102]⟩ : ByteArray)[(((f 5).toNat : Int) / 16).toNat]'h = dgt ((f 5).toNat / 16) := fun h => dgt_at _ h
        have q7 : ∀ h, (⟨#[48, 49, 50, 51, 52, 53, 54, 55, 56, 57, 97, 98, 99, 100, 101, 102]⟩ : ByteArray)[(((f 5).toNat : Int) % 16).toNat]'h = dgt ((f 5).toNat % 16) := fun h => dgt_at _ h
        go_region_held3 (fun _ => True) (trivial) ((refine step_app (by rfl) _ _ 22 (by rfl) (w.heap.size + 1) 5 i0 (.int .u8 0) 1 Try.underlying22 hi hz0 hz1 hz2 (by rfl) _ m _ (by rfl) hown hbel hbs [.int .u8 ((dgt ((f 5).toNat / 16)).toNat : Int), .int .u8 ((dgt ((f 5).toNat % 16)).toNat : Int)] 2 (by rfl) (by decide) (by rfl) (two_one _ _) (by unfold maxLen; omega) (by omega) ⟨(Below.refl _ _).drew, fun _ => rfl, by simp⟩ ?_; intro v3 w3 hown3 hbel3))
        all_goals
          clear hown hbel hbs q1 q2 q3 q4 q5 q6 q7 q8 q9
          go_wp2
          go_roundw
          case rel => exact ⟨6, by omega, rfl, by
              rw [show nm f 6 = nm f 5 ++ piece 5 (f 5).toNat from rfl, HP.out, List.length_append, bcells_append, ← HM.out]
              first | exact hown3 | simpa [bcells, List.append_assoc, Nat.add_assoc] using hown3, hbel3⟩
          case measure => simp [intOf]
      · have hc := (cell_of_row wr w.heap.size 6 _ _ _ HR.out).trans (show _ = some (.int .u8 ((f 6).toNat : Int)) from rfl)
        have hc0 : (b6.toNat : Int) < 256 := by have := b6.toNat_lt; omega
        have HP : Hid (piece 6 (f 6).toNat = [45] ++ [dgt (b6.toNat / 16), dgt (b6.toNat % 16)]) := piece_at 6 (f 6).toNat b6 H6.out
        have r1 := tm (f 6) 16
        have r2 := wrapm (f 6) 16 (by decide)
        have r3 : IntKind.u8.wrap (((f 6).toNat : Int) % 16 + 64) = (b6.toNat : Int) := wrapb _ _ (by have := H6.out; omega)
        go_wp2_with (at_builtin; refine wpList_app rfl _ _ 22 rfl (w.heap.size + 1) 5 i0 (.int .u8 0) 1 Try.underlying22 hi hz0 hz1 hz2 rfl _ m _ rfl hown hbel hbs [.int .u8 45] 1 rfl rfl (by intro u hu; simp at hu; subst hu; rfl) (by unfold maxLen; omega) (by omega) ?_)
        intro v' w2 hown2 hbel2
        have hbs2 : w.heap.size + 1 ≤ w2.heap.size := by have := hbel2.size; omega
        clear hown hbel hbs
        go_wp2
        clear hc
        clear r1 r2 r3
        have q1 : (0 : Int) ≤ (b6.toNat : Int) / 16 := by omega
        have q2 : (b6.toNat : Int) / 16 < 16 := by omega
        have q3 : (0 : Int) ≤ (b6.toNat : Int) % 16 := by omega
        have q4 : (b6.toNat : Int) % 16 < 16 := by omega
        have q5 := tm b6 16
        have q8 := wrap16 b6
        have q9 := wrapm b6 16 (by decide)
        have q6 : ∀ h, (⟨#[48, 49, 50, 51, 52, 53, 54, 55, 56, 57, 97, 98, 99, 100, 101, 102]⟩ : ByteArray)[((b6.toNat : Int) / 16).toNat]'h = dgt (b6.toNat / 16) := fun h => dgt_at _ h
        have q7 : ∀ h, (⟨#[48, 49, 50, 51, 52, 53, 54, 55, 56, 57, 97, 98, 99, 100, 101, 102]⟩ : ByteArray)[((b6.toNat : Int) % 16).toNat]'h = dgt (b6.toNat % 16) := fun h => dgt_at _ h
        go_region_held3 (fun _ => True) (trivial) ((refine step_app (by rfl) _ _ 22 (by rfl) (w.heap.size + 1) 5 i0 (.int .u8 0) 1 Try.underlying22 hi hz0 hz1 hz2 (by rfl) _ (m + 1) _ (by rfl) hown2 hbel2 hbs2 [.int .u8 ((dgt (b6.toNat / 16)).toNat : Int), .int .u8 ((dgt (b6.toNat % 16)).toNat : Int)] 2 (by rfl) (by decide) (by rfl) (two_one _ _) (by unfold maxLen; omega) (by omega) ⟨(Below.refl _ _).drew, fun _ => rfl, by simp⟩ ?_; intro v3 w3 hown3 hbel3))
        all_goals
          clear hown2 hbel2 hbs2 q1 q2 q3 q4 q5 q6 q7 q8 q9
          go_wp2
          go_roundw
          case rel => exact ⟨7, by omega, rfl, by
              rw [show nm f 7 = nm f 6 ++ piece 6 (f 6).toNat from rfl, HP.out, List.length_append, bcells_append, ← HM.out]
              first | exact hown3 | simpa [bcells, List.append_assoc, Nat.add_assoc] using hown3, hbel3⟩
          case measure => simp [intOf]
      · have hc := (cell_of_row wr w.heap.size 7 _ _ _ HR.out).trans (show _ = some (.int .u8 ((f 7).toNat : Int)) from rfl)
        have hc0 : ((f 7).toNat : Int) < 256 := by have := (f 7).toNat_lt; omega
        have HP : Hid (piece 7 (f 7).toNat = [] ++ [dgt ((f 7).toNat / 16), dgt ((f 7).toNat % 16)]) := piece_at 7 (f 7).toNat (f 7) rfl
        go_wp2
        clear hc
        have q1 : (0 : Int) ≤ ((f 7).toNat : Int) / 16 := by omega
        have q2 : ((f 7).toNat : Int) / 16 < 16 := by omega
        have q3 : (0 : Int) ≤ ((f 7).toNat : Int) % 16 := by omega
        have q4 : ((f 7).toNat : Int) % 16 < 16 := by omega
        have q5 := tm (f 7) 16
        have q8 := wrap16 (f 7)
        have q9 := wrapm (f 7) 16 (by decide)
        have q6 : ∀ h, (⟨#[48, 49, 50, 51, 52, 53, 54, 55, 56, 57, 97, 98, 99, 100, 101, 102]⟩ : ByteArray)[(((f 7).toNat : Int) / 16).toNat]'h = dgt ((f 7).toNat / 16) := fun h => dgt_at _ h
        have q7 : ∀ h, (⟨#[48, 49, 50, 51, 52, 53, 54, 55, 56, 57, 97, 98, 99, 100, 101, 102]⟩ : ByteArray)[(((f 7).toNat : Int) % 16).toNat]'h = dgt ((f 7).toNat % 16) := fun h => dgt_at _ h
        go_region_held3 (fun _ => True) (trivial) ((refine step_app (by rfl) _ _ 22 (by rfl) (w.heap.size + 1) 5 i0 (.int .u8 0) 1 Try.underlying22 hi hz0 hz1 hz2 (by rfl) _ m _ (by rfl) hown hbel hbs [.int .u8 ((dgt ((f 7).toNat / 16)).toNat : Int), .int .u8 ((dgt ((f 7).toNat % 16)).toNat : Int)] 2 (by rfl) (by decide) (by rfl) (two_one _ _) (by unfold maxLen; omega) (by omega) ⟨(Below.refl _ _).drew, fun _ => rfl, by simp⟩ ?_; intro v3 w3 hown3 hbel3))
        all_goals
          clear hown hbel hbs q1 q2 q3 q4 q5 q6 q7 q8 q9
          go_wp2
          go_roundw
          case rel => exact ⟨8, by omega, rfl, by
              rw [show nm f 8 = nm f 7 ++ piece 7 (f 7).toNat from rfl, HP.out, List.length_append, bcells_append, ← HM.out]
              first | exact hown3 | simpa [bcells, List.append_assoc, Nat.add_assoc] using hown3, hbel3⟩
          case measure => simp [intOf]
      · have hc := (cell_of_row wr w.heap.size 8 _ _ _ HR.out).trans (show _ = some (.int .u8 ((f 8).toNat : Int)) from rfl)
        have hc0 : (b8.toNat : Int) < 256 := by have := b8.toNat_lt; omega
        have HP : Hid (piece 8 (f 8).toNat = [45] ++ [dgt (b8.toNat / 16), dgt (b8.toNat % 16)]) := piece_at 8 (f 8).toNat b8 H8.out
        have r1 := tm (f 8) 64
        have r2 := wrapm (f 8) 64 (by decide)
        have r3 : IntKind.u8.wrap (((f 8).toNat : Int) % 64 + 128) = (b8.toNat : Int) := wrapb _ _ (by have := H8.out; omega)
        go_wp2_with (at_builtin; refine wpList_app rfl _ _ 22 rfl (w.heap.size + 1) 5 i0 (.int .u8 0) 1 Try.underlying22 hi hz0 hz1 hz2 rfl _ m _ rfl hown hbel hbs [.int .u8 45] 1 rfl rfl (by intro u hu; simp at hu; subst hu; rfl) (by unfold maxLen; omega) (by omega) ?_)
        intro v' w2 hown2 hbel2
        have hbs2 : w.heap.size + 1 ≤ w2.heap.size := by have := hbel2.size; omega
        clear hown hbel hbs
        go_wp2
        clear hc
        clear r1 r2 r3
        have q1 : (0 : Int) ≤ (b8.toNat : Int) / 16 := by omega
        have q2 : (b8.toNat : Int) / 16 < 16 := by omega
        have q3 : (0 : Int) ≤ (b8.toNat : Int) % 16 := by omega
        have q4 : (b8.toNat : Int) % 16 < 16 := by omega
        have q5 := tm b8 16
        have q8 := wrap16 b8
        have q9 := wrapm b8 16 (by decide)
        have q6 : ∀ h, (⟨#[48, 49, 50, 51, 52, 53, 54, 55, 56, 57, 97, 98, 99, 100, 101, 102]⟩ : ByteArray)[((b8.toNat : Int) / 16).toNat]'h = dgt (b8.toNat / 16) := fun h => dgt_at _ h
        have q7 : ∀ h, (⟨#[48, 49, 50, 51, 52, 53, 54, 55, 56, 57, 97, 98, 99, 100, 101, 102]⟩ : ByteArray)[((b8.toNat : Int) % 16).toNat]'h = dgt (b8.toNat % 16) := fun h => dgt_at _ h
        go_region_held3 (fun _ => True) (trivial) ((refine step_app (by rfl) _ _ 22 (by rfl) (w.heap.size + 1) 5 i0 (.int .u8 0) 1 Try.underlying22 hi hz0 hz1 hz2 (by rfl) _ (m + 1) _ (by rfl) hown2 hbel2 hbs2 [.int .u8 ((dgt (b8.toNat / 16)).toNat : Int), .int .u8 ((dgt (b8.toNat % 16)).toNat : Int)] 2 (by rfl) (by decide) (by rfl) (two_one _ _) (by unfold maxLen; omega) (by omega) ⟨(Below.refl _ _).drew, fun _ => rfl, by simp⟩ ?_; intro v3 w3 hown3 hbel3))
        all_goals
          clear hown2 hbel2 hbs2 q1 q2 q3 q4 q5 q6 q7 q8 q9
          go_wp2
          go_roundw
          case rel => exact ⟨9, by omega, rfl, by
              rw [show nm f 9 = nm f 8 ++ piece 8 (f 8).toNat from rfl, HP.out, List.length_append, bcells_append, ← HM.out]
              first | exact hown3 | simpa [bcells, List.append_assoc, Nat.add_assoc] using hown3, hbel3⟩
          case measure => simp [intOf]
      · have hc := (cell_of_row wr w.heap.size 9 _ _ _ HR.out).trans (show _ = some (.int .u8 ((f 9).toNat : Int)) from rfl)
        have hc0 : ((f 9).toNat : Int) < 256 := by have := (f 9).toNat_lt; omega
        have HP : Hid (piece 9 (f 9).toNat = [] ++ [dgt ((f 9).toNat / 16), dgt ((f 9).toNat % 16)]) := piece_at 9 (f 9).toNat (f 9) rfl
        go_wp2
        clear hc
        have q1 : (0 : Int) ≤ ((f 9).toNat : Int) / 16 := by omega
        have q2 : ((f 9).toNat : Int) / 16 < 16 := by omega
        have q3 : (0 : Int) ≤ ((f 9).toNat : Int) % 16 := by omega
        have q4 : ((f 9).toNat : Int) % 16 < 16 := by omega
        have q5 := tm (f 9) 16
        have q8 := wrap16 (f 9)
        have q9 := wrapm (f 9) 16 (by decide)
        have q6 : ∀ h, (⟨#[48, 49, 50, 51, 52, 53, 54, 55, 56, 57, 97, 98, 99, 100, 101, 102]⟩ : ByteArray)[(((f 9).toNat : Int) / 16).toNat]'h = dgt ((f 9).toNat / 16) := fun h => dgt_at _ h
        have q7 : ∀ h, (⟨#[48, 49, 50, 51, 52, 53, 54, 55, 56, 57, 97, 98, 99, 100, 101, 102]⟩ : ByteArray)[(((f 9).toNat : Int) % 16).toNat]'h = dgt ((f 9).toNat % 16) := fun h => dgt_at _ h
        go_region_held3 (fun _ => True) (trivial) ((refine step_app (by rfl) _ _ 22 (by rfl) (w.heap.size + 1) 5 i0 (.int .u8 0) 1 Try.underlying22 hi hz0 hz1 hz2 (by rfl) _ m _ (by rfl) hown hbel hbs [.int .u8 ((dgt ((f 9).toNat / 16)).toNat : Int), .int .u8 ((dgt ((f 9).toNat % 16)).toNat : Int)] 2 (by rfl) (by decide) (by rfl) (two_one _ _) (by unfold maxLen; omega) (by omega) ⟨(Below.refl _ _).drew, fun _ => rfl, by simp⟩ ?_; intro v3 w3 hown3 hbel3))
        all_goals
          clear hown hbel hbs q1 q2 q3 q4 q5 q6 q7 q8 q9
          go_wp2
          go_roundw
          case rel => exact ⟨10, by omega, rfl, by
              rw [show nm f 10 = nm f 9 ++ piece 9 (f 9).toNat from rfl, HP.out, List.length_append, bcells_append, ← HM.out]
              first | exact hown3 | simpa [bcells, List.append_assoc, Nat.add_assoc] using hown3, hbel3⟩
          case measure => simp [intOf]
      · have hc := (cell_of_row wr w.heap.size 10 _ _ _ HR.out).trans (show _ = some (.int .u8 ((f 10).toNat : Int)) from rfl)
        have hc0 : ((f 10).toNat : Int) < 256 := by have := (f 10).toNat_lt; omega
        have HP : Hid (piece 10 (f 10).toNat = [45] ++ [dgt ((f 10).toNat / 16), dgt ((f 10).toNat % 16)]) := piece_at 10 (f 10).toNat (f 10) rfl
        go_wp2_with (at_builtin; refine wpList_app rfl _ _ 22 rfl (w.heap.size + 1) 5 i0 (.int .u8 0) 1 Try.underlying22 hi hz0 hz1 hz2 rfl _ m _ rfl hown hbel hbs [.int .u8 45] 1 rfl rfl (by intro u hu; simp at hu; subst hu; rfl) (by unfold maxLen; omega) (by omega) ?_)
        intro v' w2 hown2 hbel2
        have hbs2 : w.heap.size + 1 ≤ w2.heap.size := by have := hbel2.size; omega
        clear hown hbel hbs
        go_wp2
        clear hc
        have q1 : (0 : Int) ≤ ((f 10).toNat : Int) / 16 := by omega
        have q2 : ((f 10).toNat : Int) / 16 < 16 := by omega
        have q3 : (0 : Int) ≤ ((f 10).toNat : Int) % 16 := by omega
        have q4 : ((f 10).toNat : Int) % 16 < 16 := by omega
        have q5 := tm (f 10) 16
        have q8 := wrap16 (f 10)
        have q9 := wrapm (f 10) 16 (by decide)
        have q6 : ∀ h, (⟨#[48, 49, 50, 51, 52, 53, 54, 55, 56, 57, 97, 98, 99, 100, 101, 102]⟩ : ByteArray)[(((f 10).toNat : Int) / 16).toNat]'h = dgt ((f 10).toNat / 16) := fun h => dgt_at _ h
        have q7 : ∀ h, (⟨#[48, 49, 50, 51, 52, 53, 54, 55, 56, 57, 97, 98, 99, 100, 101, 102]⟩ : ByteArray)[(((f 10).toNat : Int) % 16).toNat]'h = dgt ((f 10).toNat % 16) := fun h => dgt_at _ h
        go_region_held3 (fun _ => True) (trivial) ((refine step_app (by rfl) _ _ 22 (by rfl) (w.heap.size + 1) 5 i0 (.int .u8 0) 1 Try.underlying22 hi hz0 hz1 hz2 (by rfl) _ (m + 1) _ (by rfl) hown2 hbel2 hbs2 [.int .u8 ((dgt ((f 10).toNat / 16)).toNat : Int), .int .u8 ((dgt ((f 10).toNat % 16)).toNat : Int)] 2 (by rfl) (by decide) (by rfl) (two_one _ _) (by unfold maxLen; omega) (by omega) ⟨(Below.refl _ _).drew, fun _ => rfl, by simp⟩ ?_; intro v3 w3 hown3 hbel3))
        all_goals
          clear hown2 hbel2 hbs2 q1 q2 q3 q4 q5 q6 q7 q8 q9
          go_wp2
          go_roundw
          case rel => exact ⟨11, by omega, rfl, by
              rw [show nm f 11 = nm f 10 ++ piece 10 (f 10).toNat from rfl, HP.out, List.length_append, bcells_append, ← HM.out]
              first | exact hown3 | simpa [bcells, List.append_assoc, Nat.add_assoc] using hown3, hbel3⟩
          case measure => simp [intOf]
      · have hc := (cell_of_row wr w.heap.size 11 _ _ _ HR.out).trans (show _ = some (.int .u8 ((f 11).toNat : Int)) from rfl)
        have hc0 : ((f 11).toNat : Int) < 256 := by have := (f 11).toNat_lt; omega
        have HP : Hid (piece 11 (f 11).toNat = [] ++ [dgt ((f 11).toNat / 16), dgt ((f 11).toNat % 16)]) := piece_at 11 (f 11).toNat (f 11) rfl
        go_wp2
        clear hc
        have q1 : (0 : Int) ≤ ((f 11).toNat : Int) / 16 := by omega
        have q2 : ((f 11).toNat : Int) / 16 < 16 := by omega
        have q3 : (0 : Int) ≤ ((f 11).toNat : Int) % 16 := by omega
        have q4 : ((f 11).toNat : Int) % 16 < 16 := by omega
        have q5 := tm (f 11) 16
        have q8 := wrap16 (f 11)
        have q9 := wrapm (f 11) 16 (by decide)
        have q6 : ∀ h, (⟨#[48, 49, 50, 51, 52, 53, 54, 55, 56, 57, 97, 98, 99, 100, 101, 102]⟩ : ByteArray)[(((f 11).toNat : Int) / 16).toNat]'h = dgt ((f 11).toNat / 16) := fun h => dgt_at _ h
        have q7 : ∀ h, (⟨#[48, 49, 50, 51, 52, 53, 54, 55, 56, 57, 97, 98, 99, 100, 101, 102]⟩ : ByteArray)[(((f 11).toNat : Int) % 16).toNat]'h = dgt ((f 11).toNat % 16) := fun h => dgt_at _ h
        go_region_held3 (fun _ => True) (trivial) ((refine step_app (by rfl) _ _ 22 (by rfl) (w.heap.size + 1) 5 i0 (.int .u8 0) 1 Try.underlying22 hi hz0 hz1 hz2 (by rfl) _ m _ (by rfl) hown hbel hbs [.int .u8 ((dgt ((f 11).toNat / 16)).toNat : Int), .int .u8 ((dgt ((f 11).toNat % 16)).toNat : Int)] 2 (by rfl) (by decide) (by rfl) (two_one _ _) (by unfold maxLen; omega) (by omega) ⟨(Below.refl _ _).drew, fun _ => rfl, by simp⟩ ?_; intro v3 w3 hown3 hbel3))
        all_goals
          clear hown hbel hbs q1 q2 q3 q4 q5 q6 q7 q8 q9
          go_wp2
          go_roundw
          case rel => exact ⟨12, by omega, rfl, by
              rw [show nm f 12 = nm f 11 ++ piece 11 (f 11).toNat from rfl, HP.out, List.length_append, bcells_append, ← HM.out]
              first | exact hown3 | simpa [bcells, List.append_assoc, Nat.add_assoc] using hown3, hbel3⟩
          case measure => simp [intOf]
      · have hc := (cell_of_row wr w.heap.size 12 _ _ _ HR.out).trans (show _ = some (.int .u8 ((f 12).toNat : Int)) from rfl)
        have hc0 : ((f 12).toNat : Int) < 256 := by have := (f 12).toNat_lt; omega
        have HP : Hid (piece 12 (f 12).toNat = [] ++ [dgt ((f 12).toNat / 16), dgt ((f 12).toNat % 16)]) := piece_at 12 (f 12).toNat (f 12) rfl
        go_wp2
        clear hc
        have q1 : (0 : Int) ≤ ((f 12).toNat : Int) / 16 := by omega
        have q2 : ((f 12).toNat : Int) / 16 < 16 := by omega
        have q3 : (0 : Int) ≤ ((f 12).toNat : Int) % 16 := by omega
        have q4 : ((f 12).toNat : Int) % 16 < 16 := by omega
        have q5 := tm (f 12) 16
        have q8 := wrap16 (f 12)
        have q9 := wrapm (f 12) 16 (by decide)
        have q6 : ∀ h, (⟨#[48, 49, 50, 51, 52, 53, 54, 55, 56, 57, 97, 98, 99, 100, 101, 102]⟩ : ByteArray)[(((f 12).toNat : Int) / 16).toNat]'h = dgt ((f 12).toNat / 16) := fun h => dgt_at _ h
        have q7 : ∀ h, (⟨#[48, 49, 50, 51, 52, 53, 54, 55, 56, 57, 97, 98, 99, 100, 101, 102]⟩ : ByteArray)[(((f 12).toNat : Int) % 16).toNat]'h = dgt ((f 12).toNat % 16) := fun h => dgt_at _ h
        go_region_held3 (fun _ => True) (trivial) ((refine step_app (by rfl) _ _ 22 (by rfl) (w.heap.size + 1) 5 i0 (.int .u8 0) 1 Try.underlying22 hi hz0 hz1 hz2 (by rfl) _ m _ (by rfl) hown hbel hbs [.int .u8 ((dgt ((f 12).toNat / 16)).toNat : Int), .int .u8 ((dgt ((f 12).toNat % 16)).toNat : Int)] 2 (by rfl) (by decide) (by rfl) (two_one _ _) (by unfold maxLen; omega) (by omega) ⟨(Below.refl _ _).drew, fun _ => rfl, by simp⟩ ?_; intro v3 w3 hown3 hbel3))
        all_goals
          clear hown hbel hbs q1 q2 q3 q4 q5 q6 q7 q8 q9
          go_wp2
          go_roundw
          case rel => exact ⟨13, by omega, rfl, by
              rw [show nm f 13 = nm f 12 ++ piece 12 (f 12).toNat from rfl, HP.out, List.length_append, bcells_append, ← HM.out]
              first | exact hown3 | simpa [bcells, List.append_assoc, Nat.add_assoc] using hown3, hbel3⟩
          case measure => simp [intOf]
      · have hc := (cell_of_row wr w.heap.size 13 _ _ _ HR.out).trans (show _ = some (.int .u8 ((f 13).toNat : Int)) from rfl)
        have hc0 : ((f 13).toNat : Int) < 256 := by have := (f 13).toNat_lt; omega
        have HP : Hid (piece 13 (f 13).toNat = [] ++ [dgt ((f 13).toNat / 16), dgt ((f 13).toNat % 16)]) := piece_at 13 (f 13).toNat (f 13) rfl
        go_wp2
        clear hc
        have q1 : (0 : Int) ≤ ((f 13).toNat : Int) / 16 := by omega
        have q2 : ((f 13).toNat : Int) / 16 < 16 := by omega
        have q3 : (0 : Int) ≤ ((f 13).toNat : Int) % 16 := by omega
        have q4 : ((f 13).toNat : Int) % 16 < 16 := by omega
        have q5 := tm (f 13) 16
        have q8 := wrap16 (f 13)
        have q9 := wrapm (f 13) 16 (by decide)
        have q6 : ∀ h, (⟨#[48, 49, 50, 51, 52, 53, 54, 55, 56, 57, 97, 98, 99, 100, 101, 102]⟩ : ByteArray)[(((f 13).toNat : Int) / 16).toNat]'h = dgt ((f 13).toNat / 16) := fun h => dgt_at _ h
        have q7 : ∀ h, (⟨#[48, 49, 50, 51, 52, 53, 54, 55, 56, 57, 97, 98, 99, 100, 101, 102]⟩ : ByteArray)[(((f 13).toNat : Int) % 16).toNat]'h = dgt ((f 13).toNat % 16) := fun h => dgt_at _ h
        go_region_held3 (fun _ => True) (trivial) ((refine step_app (by rfl) _ _ 22 (by rfl) (w.heap.size + 1) 5 i0 (.int .u8 0) 1 Try.underlying22 hi hz0 hz1 hz2 (by rfl) _ m _ (by rfl) hown hbel hbs [.int .u8 ((dgt ((f 13).toNat / 16)).toNat : Int), .int .u8 ((dgt ((f 13).toNat % 16)).toNat : Int)] 2 (by rfl) (by decide) (by rfl) (two_one _ _) (by unfold maxLen; omega) (by omega) ⟨(Below.refl _ _).drew, fun _ => rfl, by simp⟩ ?_; intro v3 w3 hown3 hbel3))
        all_goals
          clear hown hbel hbs q1 q2 q3 q4 q5 q6 q7 q8 q9
          go_wp2
          go_roundw
          case rel => exact ⟨14, by omega, rfl, by
              rw [show nm f 14 = nm f 13 ++ piece 13 (f 13).toNat from rfl, HP.out, List.length_append, bcells_append, ← HM.out]
              first | exact hown3 | simpa [bcells, List.append_assoc, Nat.add_assoc] using hown3, hbel3⟩
          case measure => simp [intOf]
      · have hc := (cell_of_row wr w.heap.size 14 _ _ _ HR.out).trans (show _ = some (.int .u8 ((f 14).toNat : Int)) from rfl)
        have hc0 : ((f 14).toNat : Int) < 256 := by have := (f 14).toNat_lt; omega
        have HP : Hid (piece 14 (f 14).toNat = [] ++ [dgt ((f 14).toNat / 16), dgt ((f 14).toNat % 16)]) := piece_at 14 (f 14).toNat (f 14) rfl
        go_wp2
        clear hc
        have q1 : (0 : Int) ≤ ((f 14).toNat : Int) / 16 := by omega
        have q2 : ((f 14).toNat : Int) / 16 < 16 := by omega
        have q3 : (0 : Int) ≤ ((f 14).toNat : Int) % 16 := by omega
        have q4 : ((f 14).toNat : Int) % 16 < 16 := by omega
        have q5 := tm (f 14) 16
        have q8 := wrap16 (f 14)
        have q9 := wrapm (f 14) 16 (by decide)
        have q6 : ∀ h, (⟨#[48, 49, 50, 51, 52, 53, 54, 55, 56, 57, 97, 98, 99, 100, 101, 102]⟩ : ByteArray)[(((f 14).toNat : Int) / 16).toNat]'h = dgt ((f 14).toNat / 16) := fun h => dgt_at _ h
        have q7 : ∀ h, (⟨#[48, 49, 50, 51, 52, 53, 54, 55, 56, 57, 97, 98, 99, 100, 101, 102]⟩ : ByteArray)[(((f 14).toNat : Int) % 16).toNat]'h = dgt ((f 14).toNat % 16) := fun h => dgt_at _ h
        go_region_held3 (fun _ => True) (trivial) ((refine step_app (by rfl) _ _ 22 (by rfl) (w.heap.size + 1) 5 i0 (.int .u8 0) 1 Try.underlying22 hi hz0 hz1 hz2 (by rfl) _ m _ (by rfl) hown hbel hbs [.int .u8 ((dgt ((f 14).toNat / 16)).toNat : Int), .int .u8 ((dgt ((f 14).toNat % 16)).toNat : Int)] 2 (by rfl) (by decide) (by rfl) (two_one _ _) (by unfold maxLen; omega) (by omega) ⟨(Below.refl _ _).drew, fun _ => rfl, by simp⟩ ?_; intro v3 w3 hown3 hbel3))
        all_goals
          clear hown hbel hbs q1 q2 q3 q4 q5 q6 q7 q8 q9
          go_wp2
          go_roundw
          case rel => exact ⟨15, by omega, rfl, by
              rw [show nm f 15 = nm f 14 ++ piece 14 (f 14).toNat from rfl, HP.out, List.length_append, bcells_append, ← HM.out]
              first | exact hown3 | simpa [bcells, List.append_assoc, Nat.add_assoc] using hown3, hbel3⟩
          case measure => simp [intOf]
      · have hc := (cell_of_row wr w.heap.size 15 _ _ _ HR.out).trans (show _ = some (.int .u8 ((f 15).toNat : Int)) from rfl)
        have hc0 : ((f 15).toNat : Int) < 256 := by have := (f 15).toNat_lt; omega
        have HP : Hid (piece 15 (f 15).toNat = [] ++ [dgt ((f 15).toNat / 16), dgt ((f 15).toNat % 16)]) := piece_at 15 (f 15).toNat (f 15) rfl
        go_wp2
        clear hc
        have q1 : (0 : Int) ≤ ((f 15).toNat : Int) / 16 := by omega
        have q2 : ((f 15).toNat : Int) / 16 < 16 := by omega
        have q3 : (0 : Int) ≤ ((f 15).toNat : Int) % 16 := by omega
        have q4 : ((f 15).toNat : Int) % 16 < 16 := by omega
        have q5 := tm (f 15) 16
        have q8 := wrap16 (f 15)
        have q9 := wrapm (f 15) 16 (by decide)
        have q6 : ∀ h, (⟨#[48, 49, 50, 51, 52, 53, 54, 55, 56, 57, 97, 98, 99, 100, 101, 102]⟩ : ByteArray)[(((f 15).toNat : Int) / 16).toNat]'h = dgt ((f 15).toNat / 16) := fun h => dgt_at _ h
        have q7 : ∀ h, (⟨#[48, 49, 50, 51, 52, 53, 54, 55, 56, 57, 97, 98, 99, 100, 101, 102]⟩ : ByteArray)[(((f 15).toNat : Int) % 16).toNat]'h = dgt ((f 15).toNat % 16) := fun h => dgt_at _ h
        go_region_held3 (fun _ => True) (trivial) ((refine step_app (by rfl) _ _ 22 (by rfl) (w.heap.size + 1) 5 i0 (.int .u8 0) 1 Try.underlying22 hi hz0 hz1 hz2 (by rfl) _ m _ (by rfl) hown hbel hbs [.int .u8 ((dgt ((f 15).toNat / 16)).toNat : Int), .int .u8 ((dgt ((f 15).toNat % 16)).toNat : Int)] 2 (by rfl) (by decide) (by rfl) (two_one _ _) (by unfold maxLen; omega) (by omega) ⟨(Below.refl _ _).drew, fun _ => rfl, by simp⟩ ?_; intro v3 w3 hown3 hbel3))
        all_goals
          clear hown hbel hbs q1 q2 q3 q4 q5 q6 q7 q8 q9
          go_wp2
          go_roundw
          case rel => exact ⟨16, by omega, rfl, by
              rw [show nm f 16 = nm f 15 ++ piece 15 (f 15).toNat from rfl, HP.out, List.length_append, bcells_append, ← HM.out]
              first | exact hown3 | simpa [bcells, List.append_assoc, Nat.add_assoc] using hown3, hbel3⟩
          case measure => simp [intOf]
    · obtain rfl : k = 16 := by omega
      obtain ⟨A', c', rfl, _, _, hrd⟩ := owns_form hown
      have hst := run_string_of 22 9 5 Try.underlying22 Try.underlying5 Try.underlying9 _ c' hrd
      go_wp2
      go_ret
      exact ⟨rfl, hbel1.trans (hbel.mono (by omega))⟩
end Go.Proofs.Ytdgdmlchegjejaa.IdnB
