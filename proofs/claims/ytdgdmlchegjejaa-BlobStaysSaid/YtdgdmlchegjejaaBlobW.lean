/- The laws' 'awake' of layer 19 answers true. -/
import Derived.Test.YtdgdmlchegjejaaBlobD
import Derived.Lib.SlBytesConst
namespace Go.Proofs.Ytdgdmlchegjejaa.BlobW
open Go.RowKit Go.Proofs.Ytdgdmlchegjejaa.Base Go.Proofs.Ytdgdmlchegjejaa.Base2 Go.Proofs.Ytdgdmlchegjejaa.BlobA Go.Proofs.Ytdgdmlchegjejaa.BlobB Go.Proofs.Ytdgdmlchegjejaa.BlobC Go.Proofs.Ytdgdmlchegjejaa.BlobD

theorem awake_any (w : World) : Calls Try.prog 13 #[] w fun e w' => e = .returned (.bool true) ∧ Below w.heap.size w w' := by
  have kc := Lib.run_convert_bytes_const (P := Try.prog) (w.alloc (.cells #[.int .i64 (-2)] 2)) 22 5 #[.int .u8 97, .int .u8 98, .int .u8 99, .int .u8 100] 4 4 Try.underlying22 Try.underlying5
  have hsz : (w.alloc (.cells #[.int .i64 (-2)] 2)).heap.size = w.heap.size + 1 := by simp
  rw [hsz] at kc
  obtain ⟨w1, hw1⟩ : ∃ w1, w1 = (w.alloc (.cells #[.int .i64 (-2)] 2)).alloc (.cells #[.int .u8 97, .int .u8 98, .int .u8 99, .int .u8 100] 5 (4, 5)) := ⟨_, rfl⟩
  have hr1 : Rds w1 (some ⟨w.heap.size + 1, 0, none⟩) 4 (bcells [97, 98, 99, 100]) := by rw [hw1, ← hsz]; exact rds_const _ [97, 98, 99, 100] 5 (4, 5)
  have hs1 : w1.heap.size = w.heap.size + 2 := by rw [hw1]; simp
  have hp1 : Ptr w1 (.pointer (some ⟨w.heap.size, 0, none⟩)) (some (-2)) := by
    refine Or.inr ⟨w.heap.size, -2, rfl, by omega, ?_, by decide, by decide, rfl⟩
    have hb : Below (w.heap.size + 1) (w.alloc (.cells #[.int .i64 (-2)] 2)) w1 := by rw [hw1, ← hsz]; exact (Below.refl _ _).alloc (Nat.le_refl _) _
    rw [hb.cell (p := ⟨w.heap.size, 0, none⟩) (by show w.heap.size < _; omega), World.cell?_alloc_mark]
    rfl
  have hbw : Below w.heap.size w w1 := by rw [hw1]; exact ((Below.refl _ _).alloc (Nat.le_refl _) _).alloc (by simp) _
  have hkc : (convert 22 22 (.slice (some ⟨w.heap.size + 1, 0, none⟩) 4 4)).run Try.prog ((w.alloc (.cells #[.int .i64 (-2)] 2)).alloc (.cells #[.int .u8 97, .int .u8 98, .int .u8 99, .int .u8 100] 5)) = .ok (.slice (some ⟨w.heap.size + 1, 0, none⟩) 4 4) w1 := by rw [hw1]; exact kc
  have HR1 := hid hr1
  have HS1 := hid hs1
  have HP1 := hid hp1
  have HBW := hid hbw
  clear kc hsz hw1 hr1 hs1 hp1 hbw
  have hk : kd [84, 101, 120, 116, 47, 88] = [116, 101, 120, 116, 47, 120] := by decide
  have HK := hid hk
  clear hk
  have e1 : ((strOf [99, 100]).toList == [99, 100]) = true := by rw [strOf, ByteArray.toList_mk]; decide
  have e2 : ((strOf [116, 101, 120, 116, 47, 120]).toList == [116, 101, 120, 116, 47, 120]) = true := by rw [strOf, ByteArray.toList_mk]; decide
  go_enter Try.func13, Try.ntmps13
  go_wp2_with fail
  refine (new_any (some ⟨w.heap.size + 1, 0, none⟩) 4 4 [97, 98, 99, 100] (strOf [84, 101, 120, 116, 47, 88]) _ HR1.out (by decide) (by decide)).mono ?_
  rintro e w2 ⟨g, rfl, hg, hblob, hb2⟩
  have HB2 := hid hblob
  have HP2 := hid (HP1.out.below hb2)
  clear hblob
  go_wp2_with fail
  refine (slice_any g 4 _ _ _ _ _ _ (strOf []) _ HB2.out (by decide) HP2.out (Or.inl ⟨rfl, rfl⟩) (by decide)).mono ?_
  rintro e w3 ⟨g3, rfl, hg3, hblob, hb3⟩
  have hblob3 : BlobAt w3 g3 2 [99, 100] (kd []) := hblob
  have HB3 := hid hblob3
  clear hblob hblob3
  go_wp2_with fail
  refine (bytes_any g3 2 [99, 100] _ _ HB3.out (by decide)).mono ?_
  rintro e w4 ⟨v, rfl, hown, hb4⟩
  obtain ⟨A4, c4, rfl, _, _, hr4⟩ := owns_form hown
  have hs := run_string_of 22 9 5 Try.underlying22 Try.underlying5 Try.underlying9 _ c4 hr4
  clear hown hr4
  go_wp2_with fail
  refine (kind_any (strOf [84, 101, 120, 116, 47, 88]) _ (by decide)).mono ?_
  rintro e w5 ⟨rfl, hb5⟩
  rw [show (strOf [84, 101, 120, 116, 47, 88]).data.toList = [84, 101, 120, 116, 47, 88] from rfl, HK.out]
  go_wp2
  go_ret
  exact ⟨rfl, bel (bel (bel (bel HBW.out hb2) hb3) hb4) hb5⟩
end Go.Proofs.Ytdgdmlchegjejaa.BlobW
