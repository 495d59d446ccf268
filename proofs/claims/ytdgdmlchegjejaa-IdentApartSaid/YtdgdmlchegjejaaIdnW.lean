/- Names: the laws' 'awake' of layer 21 answers true. -/
import Derived.Test.YtdgdmlchegjejaaIdnC
namespace Go.Proofs.Ytdgdmlchegjejaa.IdnW
open Go.RowKit Go.Proofs.Ytdgdmlchegjejaa.Base Go.Proofs.Ytdgdmlchegjejaa.Base2 Go.Proofs.Ytdgdmlchegjejaa.IdnA Go.Proofs.Ytdgdmlchegjejaa.IdnP Go.Proofs.Ytdgdmlchegjejaa.IdnC

theorem nm_zero : nm (fun _ => 0) 16 = [48, 48, 48, 48, 48, 48, 48, 48, 45, 48, 48, 48, 48, 45, 52, 48, 48, 48, 45, 56, 48, 48, 48, 45, 48, 48, 48, 48, 48, 48, 48, 48, 48, 48, 48, 48] := by decide +kernel
abbrev K0 : ByteArray := ⟨#[48, 48, 48, 48, 48, 48, 48, 48, 45, 48, 48, 48, 48, 45, 52, 48, 48, 48, 45, 56, 48, 48, 48, 45, 48, 48, 48, 48, 48, 48, 48, 48, 48, 48, 48, 48]⟩
theorem of_zero (w : World) : Calls Try.prog 23 #[.agg #[.int .u8 0, .int .u8 0, .int .u8 0, .int .u8 0, .int .u8 0, .int .u8 0, .int .u8 0, .int .u8 0, .int .u8 0, .int .u8 0, .int .u8 0, .int .u8 0, .int .u8 0, .int .u8 0, .int .u8 0, .int .u8 0]] w fun e w' => e = .returned (.string K0) ∧ Below w.heap.size w w' := by
  have h := of_any (fun _ => 0) w
  rw [nm_zero] at h
  exact h
theorem is_zero (w : World) : Calls Try.prog 25 #[.string K0] w fun e w' => e = .returned (.bool true) ∧ Below w.heap.size w w' := by
  have h := is_any K0 w (by decide)
  have e : own K0.data.toList = K0.data.toList := by
    have := own_name (fun _ => 0)
    rw [nm_zero] at this
    exact this
  rw [decide_eq_true e] at h
  exact h
set_option maxRecDepth 100000 in
theorem awake_any (w : World) : Calls Try.prog 22 #[] w fun e w' => e = .returned (.bool true) ∧ Below w.heap.size w w' := by
  go_enter Try.func22, Try.ntmps22
  go_wp2_with fail
  refine (of_zero _).mono ?_
  rintro e w1 ⟨rfl, hb1⟩
  go_wp2_with fail
  refine (is_zero _).mono ?_
  rintro e w2 ⟨rfl, hb2⟩
  go_wp2
  go_ret
  exact ⟨rfl, bel hb1 hb2⟩
end Go.Proofs.Ytdgdmlchegjejaa.IdnW
