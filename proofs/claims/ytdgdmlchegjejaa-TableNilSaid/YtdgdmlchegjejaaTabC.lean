/- Tables: a number is got out of a table of one; the laws' 'awake'; the law TableNil. -/
import Derived.Test.YtdgdmlchegjejaaTabB
namespace Go.Proofs.Ytdgdmlchegjejaa.TabC
open Go.RowKit Go.Proofs.Ytdgdmlchegjejaa.Base Go.Proofs.Ytdgdmlchegjejaa.Base2 Go.Proofs.Ytdgdmlchegjejaa.Base3 Go.Proofs.Ytdgdmlchegjejaa.TabA Go.Proofs.Ytdgdmlchegjejaa.TabB

theorem find1_one (hb : Nat) (w : World) (hc : w.cell? ⟨hb, 0, none⟩ = some (.int .i64 1)) : Calls Try.prog 54 #[.agg #[.int .i64 1, .int .i64 5], .pointer (some ⟨hb, 0, none⟩)] w fun e w' => e = .returned (.bool true) ∧ Below w.heap.size w w' := by
  have hlt := World.block_lt_of_cell? w _ hc
  go_enter Try.func54, Try.ntmps54
  go_wp2
  go_ret
  exact ⟨rfl, (Below.refl _ _).alloc (Nat.le_refl _) _⟩
theorem index_one (b cap hb : Nat) (w : World) (h0 : w.cell? ⟨b, 0, none⟩ = some (.int .i64 1)) (h1 : w.cell? ⟨b, 1, none⟩ = some (.int .i64 5)) (hc : w.cell? ⟨hb, 0, none⟩ = some (.int .i64 1)) :
    Calls Try.prog 53 #[.slice (some ⟨b, 0, none⟩) 1 cap, .func (.func 54) #[] #[.pointer (some ⟨hb, 0, none⟩)]] w fun e w' => e = .returned (.int .i64 0) ∧ Below w.heap.size w w' := by
  go_enter Try.func53, Try.ntmps53
  go_wp2
  go_loopw [5, 8] (fun _ vk wr => vk = .int .i64 0 ∧ wr = w) (fun _ _ _ => 0)
  case atStart => exact ⟨rfl, rfl⟩
  case round =>
    obtain ⟨rfl, rfl⟩ := hrel
    go_wp2_with fail
    refine (find1_one hb _ hc).mono ?_
    rintro e w1 ⟨rfl, hb1⟩
    go_wp2
    go_ret
    exact ⟨rfl, hb1⟩
theorem find_one (g b cap : Nat) (w : World) (h : T3 w g (.int .i64 2) (.int .i64 1) (.slice (some ⟨b, 0, none⟩) 1 cap)) (h0 : w.cell? ⟨b, 0, none⟩ = some (.int .i64 1)) (h1 : w.cell? ⟨b, 1, none⟩ = some (.int .i64 5)) :
    Calls Try.prog 52 #[.pointer (some ⟨g, 0, none⟩), .int .i64 1] w fun e w' => e = .returned (.tuple #[.int .i64 0, .bool true]) ∧ Below w.heap.size w w' := by
  obtain ⟨⟨c0, c1, c2⟩, f0, f1, f2⟩ := h.facts
  have hlt := h.lt
  have hbl := World.block_lt_of_cell? w _ h0
  go_enter Try.func52, Try.ntmps52
  go_wp2_with fail
  have hb1 : Below w.heap.size w (w.alloc (.cells #[.int .i64 1] 2)) := (Below.refl _ _).alloc (Nat.le_refl _) _
  refine (index_one b cap w.heap.size _ ((hb1.cell (p := ⟨b, 0, none⟩) hbl).trans h0) ((hb1.cell (p := ⟨b, 1, none⟩) hbl).trans h1) (by rw [World.cell?_alloc_mark]; rfl)).mono ?_
  rintro e w1 ⟨rfl, hb2⟩
  go_wp2
  go_ret2
  exact ⟨rfl, bel hb1 hb2⟩
theorem get_one (g b cap : Nat) (w : World) (h : T3 w g (.int .i64 2) (.int .i64 1) (.slice (some ⟨b, 0, none⟩) 1 cap)) (h0 : w.cell? ⟨b, 0, none⟩ = some (.int .i64 1)) (h1 : w.cell? ⟨b, 1, none⟩ = some (.int .i64 5)) :
    Calls Try.prog 47 #[.pointer (some ⟨g, 0, none⟩), .int .i64 1] w fun e w' => e = .returned (.tuple #[.int .i64 5, .bool true]) ∧ Below w.heap.size w w' := by
  have hbl := World.block_lt_of_cell? w _ h0
  go_enter Try.func47, Try.ntmps47
  go_wp2_with fail
  refine (find_one g b cap _ h h0 h1).mono ?_
  rintro e w1 ⟨rfl, hb1⟩
  obtain ⟨⟨c0, c1, c2⟩, f0, f1, f2⟩ := (h.below hb1).facts
  have k1 := (hb1.cell (p := ⟨b, 1, none⟩) hbl).trans h1
  go_wp2
  go_ret2
  exact ⟨rfl, hb1⟩
theorem awake_any (w : World) : Calls Try.prog 30 #[] w fun e w' => e = .returned (.bool true) ∧ Below w.heap.size w w' := by
  go_enter Try.func30, Try.ntmps30
  go_wp2_with fail
  refine (new_two _).mono ?_
  rintro e w1 ⟨g, rfl, hT, hg, hb1⟩
  go_wp2_with fail
  refine (put_one g _ hT).mono ?_
  rintro e w2 ⟨rfl, b, cap, hT2, h0, h1, hbl, hB⟩
  have hb2 : Below w.heap.size w w2 := hb1.trans (hB _ hg hb1.size)
  go_wp2_with fail
  refine (get_one g b cap _ hT2 h0 h1).mono ?_
  rintro e w3 ⟨rfl, hb3⟩
  go_wp2
  go_ret
  exact ⟨rfl, bel hb2 hb3⟩
end Go.Proofs.Ytdgdmlchegjejaa.TabC
namespace Go.Proofs.Ytdgdmlchegjejaa.Laws
open Go.RowKit Go.Proofs.Ytdgdmlchegjejaa.Base Go.Proofs.Ytdgdmlchegjejaa.Base2 Go.Proofs.Ytdgdmlchegjejaa.TabA Go.Proofs.Ytdgdmlchegjejaa.TabC
/-- The walk of the law TableNil: it returns true, whatever it is called with. -/
theorem TableNil_any (h : Int) (s : ByteArray) (w : World) (_hz : -9223372036854775808 ≤ h ∧ h ≤ 9223372036854775807) (_hs : s.size ≤ 140737488351232) :
    Calls Try.prog 11 #[.int .i64 h, .string s] w fun e w' => e = .returned (.bool true) ∧ Below w.heap.size w w' := by
  go_enter Try.func11, Try.ntmps11
  go_wp2_with fail
  refine (put_nil s _).mono ?_
  rintro e w1 ⟨rfl, hb1⟩
  go_wp2_with fail
  refine (get_nil h _).mono ?_
  rintro e w2 ⟨rfl, hb2⟩
  go_wp2_with fail
  refine (del_nil h _).mono ?_
  rintro e w3 ⟨rfl, hb3⟩
  go_wp2_with fail
  refine (awake_any _).mono ?_
  rintro e w4 ⟨rfl, hb4⟩
  go_wp2_with fail
  refine (len_nil _).mono ?_
  rintro e w5 ⟨rfl, hb5⟩
  go_wp2_with fail
  refine (handles_nil _).mono ?_
  rintro e w6 ⟨rfl, hb6⟩
  go_wp2
  go_ret
  exact ⟨rfl, bel (bel (bel (bel (bel hb1 hb2) hb3) hb4) hb5) hb6⟩
end Go.Proofs.Ytdgdmlchegjejaa.Laws
