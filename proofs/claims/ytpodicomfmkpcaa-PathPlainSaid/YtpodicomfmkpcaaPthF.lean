/- Paths: a segment as it stands in a path. -/
import Derived.Test.YtpodicomfmkpcaaPthE
import Derived.Test.YtpodicomfmkpcaaEscE
namespace Go.Proofs.Ytpodicomfmkpcaa.PthF
open Go.RowKit Go.Proofs.Ytpodicomfmkpcaa.Base Go.Proofs.Ytpodicomfmkpcaa.Base2 Go.Proofs.Ytpodicomfmkpcaa.PthP Go.Proofs.Ytpodicomfmkpcaa.PthA Go.Proofs.Ytpodicomfmkpcaa.PthB

def wr (first : Bool) (L : List UInt8) : List UInt8 := if first && drv L then L.take 1 ++ [58] else EscE.enc 4 L
set_option maxHeartbeats 2000000 in
theorem written_any (first : Bool) (s : ByteArray) (w : World) (hs : s.size ≤ 1073741824) :
    Calls Try.prog 41 #[.bool first, .string s] w fun e w' => e = .returned (.string (strOf (wr first s.data.toList))) ∧ Below w.heap.size w w' := by
  obtain ⟨d, hd⟩ : ∃ d, d = drv s.data.toList := ⟨_, rfl⟩
  obtain ⟨R, hR⟩ : ∃ R, R = wr first s.data.toList := ⟨_, rfl⟩
  rw [← hR]
  have HD := hid hd
  cases first with
  | true =>
    cases d with
    | true =>
      have h2 : s.size = 2 := by
        have := drv_len _ hd.symm
        rw [show s.data.toList.length = s.size from Array.length_toList] at this
        exact this
      obtain ⟨X, hX⟩ : ∃ X, X = s.extract 0 1 := ⟨_, rfl⟩
      have hx : s.extract 0 1 = X := hX.symm
      have hXd : X = strOf (s.data.toList.take 1) := by rw [hX, Regs.ext_take]
      have hRR : R = s.data.toList.take 1 ++ [58] := by rw [hR]; unfold wr; rw [← hd]; rfl
      have a1 : ∀ w : World, (Op.stringOp .add X ⟨#[58]⟩).run Try.prog w = .ok (.string (strOf R)) w := fun w => by
        rw [hXd, hRR]
        exact str_add' _ ⟨#[58]⟩ w (by rw [size_strOf, List.length_take]; show _ + 1 ≤ _; omega)
      have q1 : (1 : Int) ≤ (s.size : Int) := by omega
      have q2 : 1 ≤ s.size := by omega
      clear hd hR hX hXd hRR h2
      go_enter Try.func41, Try.ntmps41
      go_wp2_with fail
      refine (drive_any s _).mono ?_
      rintro e w2 ⟨rfl, rfl⟩
      rw [← HD.out]
      go_wp2
      go_ret
      exact ⟨rfl, Below.refl _ _⟩
    | false =>
      have HRR : Hid (R = EscE.enc 4 s.data.toList) := by show _ = _; rw [hR]; unfold wr; rw [← hd]; rfl
      have hcv := fun (w : World) s => run_bytes_of_string (P := Try.prog) w 9 32 5 s Try.underlying9 Try.underlying32 Try.underlying5
      clear hd hR
      go_enter Try.func41, Try.ntmps41
      go_wp2_with fail
      refine (drive_any s _).mono ?_
      rintro e w2 ⟨rfl, rfl⟩
      rw [← HD.out]
      go_wp2_with fail
      clear hcv
      refine (EscE.encode_any 4 _ _ _ s.data.toList _ (rds_made s _ w _) hs).mono ?_
      rintro e w3 ⟨rfl, hb3⟩
      rw [← HRR.out]
      go_wp2
      go_ret
      exact ⟨rfl, bel (((Below.refl w.heap.size w).alloc (Nat.le_refl _) _).drew) hb3⟩
  | false =>
    have HRR : Hid (R = EscE.enc 4 s.data.toList) := by show _ = _; rw [hR]; rfl
    have hcv := fun (w : World) s => run_bytes_of_string (P := Try.prog) w 9 32 5 s Try.underlying9 Try.underlying32 Try.underlying5
    clear hd hR
    go_enter Try.func41, Try.ntmps41
    go_wp2_with fail
    clear hcv
    refine (EscE.encode_any 4 _ _ _ s.data.toList _ (rds_made s _ w _) hs).mono ?_
    rintro e w3 ⟨rfl, hb3⟩
    rw [← HRR.out]
    go_wp2
    go_ret
    exact ⟨rfl, bel (((Below.refl w.heap.size w).alloc (Nat.le_refl _) _).drew) hb3⟩
end Go.Proofs.Ytpodicomfmkpcaa.PthF
