/- The law's own 'place' and 'kind' of layer 19 say what the blob's do. -/
import Derived.Test.YtdgdmlchegjejaaBlobD
import Derived.Test.YtdgdmlchegjejaaRefA
namespace Go.Proofs.Ytdgdmlchegjejaa.BlobE
open Go.RowKit Go.Proofs.Ytdgdmlchegjejaa.Base Go.Proofs.Ytdgdmlchegjejaa.Base2 Go.Proofs.Ytdgdmlchegjejaa.UtfL Go.Proofs.Ytdgdmlchegjejaa.BlobA Go.Proofs.Ytdgdmlchegjejaa.BlobB Go.Proofs.Ytdgdmlchegjejaa.BlobC Go.Proofs.Ytdgdmlchegjejaa.BlobD

theorem place_law (z : Int) (b : Bool) (n l : Nat) (w : World) (hz0 : -9223372036854775808 ≤ z) (_hz1 : z ≤ 9223372036854775807) (hn : n ≤ 1073741824) :
    Calls Try.prog 16 #[.int .i64 z, .bool b, .int .i64 (n : Int), .int .i64 (l : Int)] w fun e w' => e = .returned (.int .i64 ((pl (if b then some z else none) l n : Nat) : Int)) ∧ Below w.heap.size w w' := by
  cases b
  · go_enter Try.func16, Try.ntmps16
    go_wp2
    go_ret
    exact ⟨rfl, Below.refl _ _⟩
  · have HP : Hid (pl (some z) l n = plc z n) := rfl
    by_cases hneg : z < 0
    · by_cases hs : (n : Int) ≤ -(z + 1)
      · have HV : Hid (((plc z n : Nat) : Int) = 0) := by show _ = _; unfold plc; rw [if_pos hneg]; omega
        go_enter Try.func16, Try.ntmps16
        go_wp2
        go_ret
        exact ⟨ret_int (by rw [HP.out, HV.out]), Below.refl _ _⟩
      · have HV : Hid (((plc z n : Nat) : Int) = (n : Int) + z) := by show _ = _; unfold plc; rw [if_pos hneg]; omega
        have hs2 : -(z + 1) < (n : Int) := by omega
        go_enter Try.func16, Try.ntmps16
        go_wp2
        go_ret
        exact ⟨ret_int (by rw [HP.out, HV.out]), Below.refl _ _⟩
    · by_cases hs : z ≤ (n : Int)
      · have HV : Hid (((plc z n : Nat) : Int) = z) := by show _ = _; unfold plc; rw [if_neg hneg]; omega
        go_enter Try.func16, Try.ntmps16
        go_wp2
        go_ret
        exact ⟨ret_int (by rw [HP.out, HV.out]), Below.refl _ _⟩
      · have HV : Hid (((plc z n : Nat) : Int) = (n : Int)) := by show _ = _; unfold plc; rw [if_neg hneg]; omega
        have hs2 : (n : Int) < z := by omega
        go_enter Try.func16, Try.ntmps16
        go_wp2
        go_ret
        exact ⟨ret_int (by rw [HP.out, HV.out]), Below.refl _ _⟩
set_option maxRecDepth 100000 in
theorem kind_law (s : ByteArray) (w : World) (hm : s.size ≤ 1073741824) :
    Calls Try.prog 19 #[.string s] w fun e w' => e = .returned (.string (strOf (kd s.data.toList))) ∧ Below w.heap.size w w' := by
  have hl : s.data.toList.length = s.size := Array.length_toList
  have HL := hid hl
  clear hl
  go_enter Try.func19, Try.ntmps19
  go_wp2
  go_loopw [3, 6] (fun _ vk wr => ∃ j : Nat, j ≤ s.size ∧ vk = .int .i64 j ∧ Hid (∀ i (h : i < s.data.toList.length), i < j → 32 ≤ s.data.toList[i].toNat ∧ s.data.toList[i].toNat ≤ 126) ∧ Below w.heap.size w wr) (fun _ vk _ => s.size - (intOf vk).toNat)
  case atStart => exact ⟨0, Nat.zero_le _, rfl, (fun i _ h => absurd h (by omega)), Below.refl _ _⟩
  case round =>
    obtain ⟨j, hj, rfl, HA, hbel⟩ := hrel
    by_cases hlt : j < s.size
    · obtain ⟨c, hc⟩ : ∃ c, s[j] = c := ⟨_, rfl⟩
      have HC : Hid (s.data.toList[j]'(by rw [HL.out]; exact hlt) = c) := by rw [← hc]; rfl
      have hc0 : (c.toNat : Int) < 256 := by have := c.toNat_lt; omega
      by_cases hf : 32 ≤ (c.toNat : Int) ∧ (c.toNat : Int) ≤ 126
      · obtain ⟨f1, f2⟩ := hf
        have f1' : ¬ (c.toNat : Int) < 32 := by omega
        have f2' : ¬ 126 < (c.toNat : Int) := by omega
        have HA2 : Hid (∀ i (h : i < s.data.toList.length), i < j + 1 → 32 ≤ s.data.toList[i].toNat ∧ s.data.toList[i].toNat ≤ 126) := by
          intro i h hi
          by_cases e : i = j
          · subst e
            rw [HC.out]
            omega
          · exact HA.out i h (by omega)
        go_wp2
        go_roundw
        case rel => exact ⟨j + 1, by omega, by go_num, HA2, hbel⟩
        case measure => simp [intOf]; omega
      · have HK : Hid (kd s.data.toList = []) := by
          show kd _ = []
          unfold kd
          rw [if_neg]
          unfold fineK
          rw [decide_eq_true_iff]
          intro h
          have := h c (by rw [← HC.out]; exact List.getElem_mem _)
          omega
        rcases (show (c.toNat : Int) < 32 ∨ ¬ (c.toNat : Int) < 32 ∧ 126 < (c.toNat : Int) by omega) with h1 | ⟨h1, h2⟩
        all_goals
          clear hf
          go_wp2
          go_ret
          exact ⟨ret_str (by rw [HK.out]; rfl), hbel⟩
    · obtain rfl : j = s.size := by omega
      have HK : Hid (kd s.data.toList = lower s.data.toList) := by
        show kd _ = _
        unfold kd
        rw [if_pos]
        unfold fineK
        rw [decide_eq_true_iff]
        intro c hc
        obtain ⟨i, hi, rfl⟩ := List.mem_iff_getElem.1 hc
        exact HA.out i hi (by rw [← HL.out]; exact hi)
      go_wp2_with fail
      refine (RefA.lower_any s _ hm).mono ?_
      rintro e w4 ⟨rfl, hb4⟩
      go_wp2
      go_ret
      exact ⟨ret_str (by rw [HK.out]), hbel.trans (hb4.mono hbel.size)⟩
end Go.Proofs.Ytdgdmlchegjejaa.BlobE
