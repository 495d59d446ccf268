/- slices.Clone of bytes. -/
import Derived.Test.YtafnekilnbhhlaaBase3
import Derived.Lib.SliceRun
namespace Go.Proofs.Ytafnekilnbhhlaa.BlobA0
open Go.RowKit Go.Proofs.Ytafnekilnbhhlaa.Base Go.Proofs.Ytafnekilnbhhlaa.Base2 Go.Proofs.Ytafnekilnbhhlaa.Base3

theorem clone_any (A : Option Addr) (n cap : Nat) (L : List UInt8) (w : World) (h : Rds w A n (bcells L)) (hm : n ≤ 1073741824) :
    Calls Try.prog 34 #[.slice A n cap] w fun e w' => ∃ v, e = .returned v ∧ w'.ownsRow w.heap.size 5 1 v n (bcells L) ∧ Below w.heap.size w w' := by
  have hl : L.length = n := by rw [← length_bcells]; exact h.1
  have HH := hid h
  clear h
  obtain ⟨i0, hi, hz0, hz1, hz2⟩ := info_parts info_u8
  have hnil := fun (W : World) => Lib.run_eql_slice_nil (P := Try.prog) W 25 5 A n cap 0 0 Try.underlying25
  cases A with
  | none =>
    have h0 : n = 0 := by
      rcases Nat.eq_zero_or_pos n with h0 | h0
      · exact h0
      · obtain ⟨_, _, e, _⟩ := HH.out.spot h0
        cases e
    subst h0
    obtain rfl : L = [] := List.eq_nil_of_length_eq_zero hl
    go_enter Try.func34, Try.ntmps34
    go_wp2
    go_ret
    exact ⟨_, rfl, World.ownsRow_nil _ _ _ _, Below.refl _ _⟩
  | some ad =>
    have hownA : (w.alloc (.cells #[] 5)).ownsRow w.heap.size 5 1 (.slice (some ⟨w.heap.size, 0, none⟩) 0 0) 0 [] := World.ownsRow_made w #[] 0 (Nat.le_refl _) (by decide) rfl
    have hbelA : Below w.heap.size w (w.alloc (.cells #[] 5)) := (Below.refl _ _).alloc (Nat.le_refl _) _
    have HRA : Hid (Rds (w.alloc (.cells #[] 5)) (some ad) n (bcells L)) := HH.out.below hbelA
    clear hl
    go_enter Try.func34, Try.ntmps34
    go_wp2_with (at_builtin; refine wpList_app_any rfl _ _ 25 rfl w.heap.size 5 i0 (.int .u8 0) 1 Try.underlying25 hi hz0 hz1 hz2 rfl _ 0 [] rfl hownA hbelA hbelA.size (some ad) n cap (bcells L) rfl HRA.out (bcells_one _) (by unfold maxLen; omega) (by omega) ?_)
    intro v3 w3 hown3 hbel3
    clear hownA hbelA HRA
    go_wp2
    go_ret
    exact ⟨_, rfl, hown3, hbel3⟩
end Go.Proofs.Ytafnekilnbhhlaa.BlobA0
