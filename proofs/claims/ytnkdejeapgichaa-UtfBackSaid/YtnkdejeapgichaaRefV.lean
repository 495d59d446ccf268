/- The document's own Valid of layer 1, and the laws' 'same'. -/
import Derived.Test.YtnkdejeapgichaaRefD
import Derived.Deep.QuietTactic
import Derived.BigQuiet
namespace Go.Proofs.Ytnkdejeapgichaa.RefV
open Go.RowKit Go.Proofs.Ytnkdejeapgichaa.Base Go.Proofs.Ytnkdejeapgichaa.Base2 Go.Proofs.Ytnkdejeapgichaa.UtfR Go.Proofs.Ytnkdejeapgichaa.UtfP

theorem dec_len (L : List UInt8) : (dec L).length ≤ L.length := by
  have H : ∀ (n : Nat) (L : List UInt8), L.length ≤ n → (dec L).length ≤ L.length := by
    intro n
    induction n with
    | zero => intro L hl; obtain rfl : L = [] := List.eq_nil_of_length_eq_zero (by omega); simp [dec_nil]
    | succ n ih =>
      intro L hl
      cases L with
      | nil => simp [dec_nil]
      | cons x t =>
        have hs := rd_size x t
        rw [dec_cons, List.length_cons, List.length_cons]
        have := ih ((x :: t).drop (rd (x :: t)).2.1.toNat) (by simp only [List.length_drop, List.length_cons] at hl ⊢; omega)
        simp only [List.length_drop, List.length_cons] at this
        omega
  exact H _ L (Nat.le_refl _)
set_option maxHeartbeats 1000000 in
theorem valid_any (A : Option Addr) (n cap : Nat) (L : List UInt8) (w : World) (h : Rds w A n (bcells L)) (hm : n ≤ 1073741824) (hcap : n ≤ cap) :
    Calls Try.prog 14 #[.slice A n cap] w fun e w' => e = .returned (.bool (val L)) ∧ Below w.heap.size w w' := by
  have hl : L.length = n := by rw [← length_bcells]; exact h.1
  have HDL : Hid ((dec L).length ≤ 1073741824) := by have := dec_len L; show _ ≤ _; omega
  have hs0 := run_string_of 22 9 5 Try.underlying22 Try.underlying5 Try.underlying9 _ cap h
  have hs0' := run_string_of 22 9 5 Try.underlying22 Try.underlying5 Try.underlying9 _ cap (Rds_drew h)
  have hbel0 : Below w.heap.size w w := Below.refl _ _
  have HV : Hid (((strOf (UtfE.enc (dec L))).toList == (strOf L).toList) = val L) := by
    show _ = _
    rw [strOf, strOf, ByteArray.toList_mk, ByteArray.toList_mk, val_iff, Bool.eq_iff_iff]
    simp
  clear hl
  go_enter Try.func14, Try.ntmps14
  go_wp2
  go_region_with (first
    | (go_at_call 12; refine (RefD.decode_any _ _ _ L _ (by first | assumption | exact Rds_drew (by assumption)) hm hcap).mono ?_; rintro e w2 ⟨v, rfl, hown, hb2⟩; obtain ⟨A2, c2, rfl, hc2, _, hr2⟩ := owns_form hown; have hbel2 : Below w.heap.size w w2 := (by first | exact bel (by assumption) hb2 | exact bel_drew (by assumption) hb2); have hl2 : Rds w2 A n (bcells L) := (by first | exact Rds.below (by assumption) hb2 | exact rds_drew_below (by assumption) hb2); have hs2 := run_string_of 22 9 5 Try.underlying22 Try.underlying5 Try.underlying9 _ cap hl2; have hs2' := run_string_of 22 9 5 Try.underlying22 Try.underlying5 Try.underlying9 _ cap (Rds_drew hl2); clear hown)
    | (go_at_call 17; refine (RefC.ref_encode _ _ _ (dec L) _ (by first | assumption | exact Rds_drew (by assumption)) HDL.out).mono ?_; rintro e w3 ⟨v, rfl, hown, hb3⟩; obtain ⟨A3, c3, rfl, hc3, _, hr3⟩ := owns_form hown; have hbel3 : Below w.heap.size w w3 := (by first | exact bel (by assumption) hb3 | exact bel_drew (by assumption) hb3); have hl3 : Rds w3 A n (bcells L) := (by first | exact Rds.below (by assumption) hb3 | exact rds_drew_below (by assumption) hb3); have hs3 := run_string_of 22 9 5 Try.underlying22 Try.underlying5 Try.underlying9 _ cap hl3; have hs3' := run_string_of 22 9 5 Try.underlying22 Try.underlying5 Try.underlying9 _ cap (Rds_drew hl3); have he3 := run_string_of 22 9 5 Try.underlying22 Try.underlying5 Try.underlying9 _ c3 hr3; have he3' := run_string_of 22 9 5 Try.underlying22 Try.underlying5 Try.underlying9 _ c3 (Rds_drew hr3); clear hown))
  all_goals
    go_wp2
    go_ret
    refine ⟨ret_bool ?_, by first | assumption | exact Below.drew (by assumption)⟩
    rw [← HV.out]
theorem same_any (A : Option Addr) (n cap : Nat) (l : List Int) (A' : Option Addr) (n' cap' : Nat) (m : List Int) (w : World) (h : Rds w A n (icells .i32 l)) (h' : Rds w A' n' (icells .i32 m)) (hm : n ≤ 1073741824) :
    Calls Try.prog 10 #[.slice A n cap, .slice A' n' cap'] w fun e w' => e = .returned (.bool (decide (l = m))) ∧ Below w.heap.size w w' := by
  have hl : l.length = n := by rw [← length_icells .i32]; exact h.1
  have hl' : m.length = n' := by rw [← length_icells .i32]; exact h'.1
  have HL := hid hl
  have HL' := hid hl'
  have HH := hid h
  have HH' := hid h'
  clear hl hl' h h'
  by_cases hn : n = n'
  · subst hn
    go_enter Try.func10, Try.ntmps10
    go_wp2
    go_loopw [5, 13] (fun _ vk wr => ∃ (k : Nat), k ≤ n ∧ vk = .int .i64 k ∧ Hid (l.take k = m.take k) ∧ Below w.heap.size w wr) (fun _ vk _ => n - (intOf vk).toNat)
    case atStart => exact ⟨0, Nat.zero_le _, rfl, rfl, Below.refl _ _⟩
    case round =>
      obtain ⟨k, hk, rfl, HT, hbel⟩ := hrel
      by_cases hlt : k < n
      · obtain ⟨b, off, rfl, hb, _⟩ := (HH.out).spot (by omega)
        obtain ⟨b', off', rfl, hb', _⟩ := (HH'.out).spot (by omega)
        obtain ⟨x, hx⟩ : ∃ x, x = l[k]'(by rw [HL.out]; exact hlt) := ⟨_, rfl⟩
        obtain ⟨y, hy⟩ : ∃ y, y = m[k]'(by rw [HL'.out]; exact hlt) := ⟨_, rfl⟩
        have hcell : wr.cell? ⟨b, off + k, none⟩ = some (.int .i32 x) := by
          rw [hx, ← HH.out.int k (by rw [HL.out]; exact hlt)]
          exact hbel.cell (p := ⟨b, off + k, none⟩) hb
        have hcell' : wr.cell? ⟨b', off' + k, none⟩ = some (.int .i32 y) := by
          rw [hy, ← HH'.out.int k (by rw [HL'.out]; exact hlt)]
          exact hbel.cell (p := ⟨b', off' + k, none⟩) hb'
        have hp : (0 : Int) ≤ (k : Int) := by omega
        have hp2 : (k : Int) < (n : Int) := by omega
        have HX : Hid (l.take (k + 1) = l.take k ++ [x]) := by rw [hx]; exact List.take_succ_eq_append_getElem (by rw [HL.out]; exact hlt)
        have HY : Hid (m.take (k + 1) = m.take k ++ [y]) := by rw [hy]; exact List.take_succ_eq_append_getElem (by rw [HL'.out]; exact hlt)
        have HXY : Hid (x ≠ y → l ≠ m) := by
          intro hne e
          exact hne (by rw [hx, hy]; simp only [e])
        clear hx hy
        by_cases hxy : x = y
        · subst hxy
          go_wp2
          go_quiet (fail)
          go_wp2
          go_roundw
          case rel => exact ⟨k + 1, by omega, by go_num, by rw [HX.out, HY.out, HT.out]; exact rfl, by first | exact hbel | exact below_drewN hbel _⟩
          case measure => simp [intOf]; omega
        · have hxy' : (x != y) = true := by simpa using hxy
          have HE : Hid (decide (l = m) = false) := by show _ = _; simpa using HXY.out hxy
          go_wp2
          go_quiet (fail)
          go_wp2
          go_ret
          rw [HE.out]
          exact ⟨rfl, below_drewN hbel _⟩
      · obtain rfl : k = n := by omega
        have HE : Hid (decide (l = m) = true) := by
          have e := HT.out
          rw [List.take_of_length_le (by rw [HL.out]; omega), List.take_of_length_le (by rw [HL'.out]; omega)] at e
          show _ = _
          simpa using e
        go_wp2
        go_ret
        rw [HE.out]
        exact ⟨rfl, hbel⟩
  · have hne : ((n : Int) != (n' : Int)) = true := by simp; omega
    have HE : Hid (decide (l = m) = false) := by
      show _ = _
      rw [decide_eq_false_iff_not]
      intro e
      exact hn (by rw [← HL.out, ← HL'.out, e])
    go_enter Try.func10, Try.ntmps10
    go_wp2
    go_ret
    rw [HE.out]
    exact ⟨rfl, Below.refl _ _⟩
end Go.Proofs.Ytnkdejeapgichaa.RefV
