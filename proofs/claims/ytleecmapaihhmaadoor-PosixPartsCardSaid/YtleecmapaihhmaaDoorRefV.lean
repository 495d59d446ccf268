/- The document's own Valid of layer 1, and the laws' 'same'. -/
import Derived.Test.YtleecmapaihhmaaDoorRefD
import Derived.Deep.QuietTactic
import Derived.BigQuiet
set_option linter.unusedSimpArgs false
set_option linter.unusedVariables false
namespace Go.Proofs.YtleecmapaihhmaaDoor.RefV
open Go.RowKit Go.Proofs.YtleecmapaihhmaaDoor.Base Go.Proofs.YtleecmapaihhmaaDoor.Base2 Go.Proofs.YtleecmapaihhmaaDoor.UtfR Go.Proofs.YtleecmapaihhmaaDoor.UtfP

theorem dec_len (L : List UInt8) : (dec L).length ≤ L.length := by
  have H : ∀ (n : Nat) (L : List UInt8), L.length ≤ n → (dec L).length ≤ L.length := by
    intro n
    induction n with
    | zero => intro L hl; obtain rfl : L = [] := List.eq_nil_of_length_eq_zero (by omega); simp [dec_nil]
    | succ n ih =>
      intro L hl
      cases L with
      | nil => simp [dec_nil]
      | cons x t =>
        have hs := rd_size x t
        rw [dec_cons, List.length_cons, List.length_cons]
        have := ih ((x :: t).drop (rd (x :: t)).2.1.toNat) (by simp only [List.length_drop, List.length_cons] at hl ⊢; omega)
        simp only [List.length_drop, List.length_cons] at this
        omega
  exact H _ L (Nat.le_refl _)
set_option maxHeartbeats 1000000 in
theorem valid_any (A : Option Addr) (n cap : Nat) (L : List UInt8) (w : World) (h : Rds w A n (bcells L)) (hm : n ≤ 1073741824) (hcap : n ≤ cap) :
    Calls Tryd.prog 15 #[.slice A n cap] w fun e w' => e = .returned (.bool (val L)) ∧ Below w.heap.size w w' := by
  have hl : L.length = n := by rw [← length_bcells]; exact h.1
  have HDL : Hid ((dec L).length ≤ 1073741824) := by have := dec_len L; show _ ≤ _; omega
  have hs0 := run_string_of 37 9 5 Tryd.underlying37 Tryd.underlying5 Tryd.underlying9 _ cap h
  have hs0' := run_string_of 37 9 5 Tryd.underlying37 Tryd.underlying5 Tryd.underlying9 _ cap (Rds_drew h)
  have hbel0 : Below w.heap.size w w := Below.refl _ _
  have HV : Hid (((strOf (UtfE.enc (dec L))).toList == (strOf L).toList) = val L) := by
    show _ = _
    rw [strOf, strOf, ByteArray.toList_mk, ByteArray.toList_mk, val_iff, Bool.eq_iff_iff]
    simp
  clear hl
  go_enter Tryd.func15, Tryd.ntmps15
  go_wp2
  go_region_with (first
    | (go_at_call 34; refine (RefD.decode_any _ _ _ L _ (by first | assumption | exact Rds_drew (by assumption)) hm hcap).mono ?_; rintro e w2 ⟨v, rfl, hown, hb2⟩; obtain ⟨A2, c2, rfl, hc2, _, hr2⟩ := owns_form hown; have hbel2 : Below w.heap.size w w2 := (by first | exact bel (by assumption) hb2 | exact bel_drew (by assumption) hb2); have hl2 : Rds w2 A n (bcells L) := (by first | exact Rds.below (by assumption) hb2 | exact rds_drew_below (by assumption) hb2); have hs2 := run_string_of 37 9 5 Tryd.underlying37 Tryd.underlying5 Tryd.underlying9 _ cap hl2; have hs2' := run_string_of 37 9 5 Tryd.underlying37 Tryd.underlying5 Tryd.underlying9 _ cap (Rds_drew hl2); clear hown)
    | (go_at_call 33; refine (RefC.ref_encode _ _ _ (dec L) _ (by first | assumption | exact Rds_drew (by assumption)) HDL.out).mono ?_; rintro e w3 ⟨v, rfl, hown, hb3⟩; obtain ⟨A3, c3, rfl, hc3, _, hr3⟩ := owns_form hown; have hbel3 : Below w.heap.size w w3 := (by first | exact bel (by assumption) hb3 | exact bel_drew (by assumption) hb3); have hl3 : Rds w3 A n (bcells L) := (by first | exact Rds.below (by assumption) hb3 | exact rds_drew_below (by assumption) hb3); have hs3 := run_string_of 37 9 5 Tryd.underlying37 Tryd.underlying5 Tryd.underlying9 _ cap hl3; have hs3' := run_string_of 37 9 5 Tryd.underlying37 Tryd.underlying5 Tryd.underlying9 _ cap (Rds_drew hl3); have he3 := run_string_of 37 9 5 Tryd.underlying37 Tryd.underlying5 Tryd.underlying9 _ c3 hr3; have he3' := run_string_of 37 9 5 Tryd.underlying37 Tryd.underlying5 Tryd.underlying9 _ c3 (Rds_drew hr3); clear hown))
  all_goals
    go_wp2
    go_ret
    refine ⟨ret_bool ?_, by first | assumption | exact Below.drew (by assumption)⟩
    rw [← HV.out]
end Go.Proofs.YtleecmapaihhmaaDoor.RefV
