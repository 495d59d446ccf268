/- Blobs: slices.Clone, Kind, New, Bytes, Kind, Len. -/
import Derived.Test.YtdgdmlchegjejaaBase3
import Derived.Test.YtdgdmlchegjejaaUtfL
import Derived.Lib.SliceRun
namespace Go.Proofs.Ytdgdmlchegjejaa.BlobA
open Go.RowKit Go.Proofs.Ytdgdmlchegjejaa.Base Go.Proofs.Ytdgdmlchegjejaa.Base2 Go.Proofs.Ytdgdmlchegjejaa.Base3 Go.Proofs.Ytdgdmlchegjejaa.UtfL

theorem clone_any (A : Option Addr) (n cap : Nat) (L : List UInt8) (w : World) (h : Rds w A n (bcells L)) (hm : n ≤ 1073741824) :
    Calls Try.prog 37 #[.slice A n cap] w fun e w' => ∃ v, e = .returned v ∧ w'.ownsRow w.heap.size 5 1 v n (bcells L) ∧ Below w.heap.size w w' := by
  have hl : L.length = n := by rw [← length_bcells]; exact h.1
  have HH := hid h
  clear h
  obtain ⟨i0, hi, hz0, hz1, hz2⟩ := info_parts info_u8
  have hnil := fun (W : World) => Lib.run_eql_slice_nil (P := Try.prog) W 22 5 A n cap 0 0 Try.underlying22
  cases A with
  | none =>
    have h0 : n = 0 := by
      rcases Nat.eq_zero_or_pos n with h0 | h0
      · exact h0
      · obtain ⟨_, _, e, _⟩ := HH.out.spot h0
        cases e
    subst h0
    obtain rfl : L = [] := List.eq_nil_of_length_eq_zero hl
    go_enter Try.func37, Try.ntmps37
    go_wp2
    go_ret
    exact ⟨_, rfl, World.ownsRow_nil _ _ _ _, Below.refl _ _⟩
  | some ad =>
    have hownA : (w.alloc (.cells #[] 5)).ownsRow w.heap.size 5 1 (.slice (some ⟨w.heap.size, 0, none⟩) 0 0) 0 [] := World.ownsRow_made w #[] 0 (Nat.le_refl _) (by decide) rfl
    have hbelA : Below w.heap.size w (w.alloc (.cells #[] 5)) := (Below.refl _ _).alloc (Nat.le_refl _) _
    have HRA : Hid (Rds (w.alloc (.cells #[] 5)) (some ad) n (bcells L)) := HH.out.below hbelA
    clear hl
    go_enter Try.func37, Try.ntmps37
    go_wp2_with (at_builtin; refine wpList_app_any rfl _ _ 22 rfl w.heap.size 5 i0 (.int .u8 0) 1 Try.underlying22 hi hz0 hz1 hz2 rfl _ 0 [] rfl hownA hbelA hbelA.size (some ad) n cap (bcells L) rfl HRA.out (bcells_one _) (by unfold maxLen; omega) (by omega) ?_)
    intro v3 w3 hown3 hbel3
    clear hownA hbelA HRA
    go_wp2
    go_ret
    exact ⟨_, rfl, hown3, hbel3⟩
/-- Are all bytes among 20 to 7E? -/
def fineK (L : List UInt8) : Bool := decide (∀ c ∈ L, 32 ≤ c.toNat ∧ c.toNat ≤ 126)
def kd (L : List UInt8) : List UInt8 := if fineK L = true then lower L else []
set_option maxRecDepth 100000 in
theorem kind_any (s : ByteArray) (w : World) (hm : s.size ≤ maxLen) :
    Calls Try.prog 21 #[.string s] w fun e w' => e = .returned (.string (strOf (kd s.data.toList))) ∧ Below w.heap.size w w' := by
  have hl : s.data.toList.length = s.size := Array.length_toList
  have HL := hid hl
  clear hl
  have hm' : s.size ≤ 9223372036854775807 := hm
  go_enter Try.func21, Try.ntmps21
  go_wp2
  go_loopw [3] (fun vk wr => ∃ j : Nat, j ≤ s.size ∧ vk = .int .i64 j ∧ Hid (∀ i (h : i < s.data.toList.length), i < j → 32 ≤ s.data.toList[i].toNat ∧ s.data.toList[i].toNat ≤ 126) ∧ Below w.heap.size w wr) (fun vk _ => s.size - (intOf vk).toNat)
  case atStart => exact ⟨0, Nat.zero_le _, rfl, (fun i _ h => absurd h (by omega)), Below.refl _ _⟩
  case round =>
    obtain ⟨j, hj, rfl, HA, hbel⟩ := hrel
    by_cases hlt : j < s.size
    · obtain ⟨c, hc⟩ : ∃ c, s[j] = c := ⟨_, rfl⟩
      have HC : Hid (s.data.toList[j]'(by rw [HL.out]; exact hlt) = c) := by rw [← hc]; rfl
      have hc0 : (c.toNat : Int) < 256 := by have := c.toNat_lt; omega
      by_cases hf : 32 ≤ (c.toNat : Int) ∧ (c.toNat : Int) ≤ 126
      · obtain ⟨f1, f2⟩ := hf
        have f1' : ¬ (c.toNat : Int) < 32 := by omega
        have f2' : ¬ 126 < (c.toNat : Int) := by omega
        have HA2 : Hid (∀ i (h : i < s.data.toList.length), i < j + 1 → 32 ≤ s.data.toList[i].toNat ∧ s.data.toList[i].toNat ≤ 126) := by
          intro i h hi
          by_cases e : i = j
          · subst e
            rw [HC.out]
            omega
          · exact HA.out i h (by omega)
        go_wp2
        go_roundw
        case rel => exact ⟨j + 1, by omega, by go_num, HA2, hbel⟩
        case measure => simp [intOf]; omega
      · have HK : Hid (kd s.data.toList = []) := by
          show kd _ = []
          unfold kd
          rw [if_neg]
          unfold fineK
          rw [decide_eq_true_iff]
          intro h
          have := h c (by rw [← HC.out]; exact List.getElem_mem _)
          omega
        rcases (show (c.toNat : Int) < 32 ∨ ¬ (c.toNat : Int) < 32 ∧ 126 < (c.toNat : Int) by omega) with h1 | ⟨h1, h2⟩
        all_goals
          clear hf
          go_wp2
          go_ret
          exact ⟨ret_str (by rw [HK.out]; rfl), hbel⟩
    · obtain rfl : j = s.size := by omega
      have HK : Hid (kd s.data.toList = lower s.data.toList) := by
        show kd _ = _
        unfold kd
        rw [if_pos]
        unfold fineK
        rw [decide_eq_true_iff]
        intro c hc
        obtain ⟨i, hi, rfl⟩ := List.mem_iff_getElem.1 hc
        exact HA.out i hi (by rw [← HL.out]; exact hi)
      go_wp2_with fail
      refine (UtfL.lower_any s _ hm).mono ?_
      rintro e w4 ⟨rfl, hb4⟩
      go_wp2
      go_ret
      exact ⟨ret_str (by rw [HK.out]), hbel.trans (hb4.mono hbel.size)⟩
end Go.Proofs.Ytdgdmlchegjejaa.BlobA
