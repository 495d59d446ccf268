/- Tables of whole numbers: Handles; what a nil one answers. -/
import Derived.Test.YtihlojkghemjeaaTbI
namespace Go.Proofs.Ytihlojkghemjeaa.TbH
open Go.RowKit Go.Proofs.Ytihlojkghemjeaa.Base Go.Proofs.Ytihlojkghemjeaa.Base2 Go.Proofs.Ytihlojkghemjeaa.Base3 Go.Proofs.Ytihlojkghemjeaa.Regs Go.Proofs.Ytihlojkghemjeaa.TbG Go.Proofs.Ytihlojkghemjeaa.TbI

theorem info_h : (Try.prog.info? 2).map (fun i => (i.zero, i.size, i.bytes)) = some (some (.int .i64 0), 1, 8) := by kernel_rfl
theorem info_i : (Try.prog.info? 3).map (fun i => (i.zero, i.size, i.bytes)) = some (some (.int .i64 0), 1, 8) := by kernel_rfl
/-- The handles. -/
def hs (l : List (Nat × Int)) : List Int := l.map fun p => (p.1 : Int)
theorem hs_length (l : List (Nat × Int)) : (hs l).length = l.length := by simp [hs]
theorem hs_take (l : List (Nat × Int)) (k : Nat) (h : k < l.length) : icells .i64 (hs (l.take (k + 1))) = icells .i64 (hs (l.take k)) ++ [.int .i64 (l[k].1 : Int)] := by
  rw [List.take_succ_eq_append_getElem h]
  unfold hs icells
  rw [List.map_append, List.map_append]
  rfl
set_option linter.unusedSimpArgs false in
set_option maxHeartbeats 1000000 in
set_option maxRecDepth 100000 in
theorem handles_any (B g room last : Nat) (l : List (Nat × Int)) (w : World) (hT : IsT 75 77 (Value.int .i64) B g room last l w) (hl : l.length ≤ 64) :
    Calls Try.prog 13 #[.pointer (some ⟨g, 0, none⟩)] w fun e w' => ∃ v, e = .returned v ∧ w'.ownsRow w.heap.size 2 1 v l.length (icells .i64 (hs l)) ∧ Below w.heap.size w w' := by
  have hlt := hT.lt
  obtain ⟨i0, hi, hz0, hz1, hz2⟩ := info_parts info_h
  obtain ⟨v, hv, hown, hBg⟩ := hT
  obtain ⟨A, c, rfl, hnc, hcm, hcell⟩ := own_cells hown
  obtain ⟨c0, c1, c2⟩ := cells3 hv
  have HC := hid hcell
  have hlli : (l.length : Int) ≤ 64 := by omega
  clear hcell hv hown
  go_enter Try.func13, Try.ntmps13
  go_wp2
  go_loopw [3, 13] (fun vr vk wr => ∃ k : Nat, k ≤ l.length ∧ vk = .int .i64 (k : Int) ∧ Hid (wr.ownsRow w.heap.size 2 1 vr k (icells .i64 (hs (l.take k)))) ∧ Below w.heap.size w wr) (fun _ vk _ => l.length - (intOf vk).toNat)
  case atStart => exact ⟨0, by omega, rfl, World.ownsRow_nil _ _ _ _, Below.refl _ _⟩
  case round =>
    obtain ⟨k, hk, rfl, HO, hbel⟩ := hrel
    by_cases hlk : k < l.length
    · obtain ⟨b, rfl, hbl, h0, h1⟩ := HC.out k hlk
      obtain ⟨⟨hd, x⟩, hp⟩ : ∃ p, p = l[k] := ⟨_, rfl⟩
      rw [← hp] at h0 h1
      have k0 := (hbel.cell (p := ⟨b, k * 2, none⟩) hbl).trans h0
      have k1 := (hbel.cell (p := ⟨b, k * 2 + 1, none⟩) hbl).trans h1
      have HP := hid hp
      clear hp h0 h1
      have HO2 : Hid ((wr.alloc (.cells #[.int .i64 (hd : Int), .int .i64 x] 77)).ownsRow w.heap.size 2 1 _ k (icells .i64 (hs (l.take k)))) := hid (HO.out.alloc _)
      have hbel2 : Below w.heap.size w (wr.alloc (.cells #[.int .i64 (hd : Int), .int .i64 x] 77)) := hbel.alloc hbel.size _
      go_wp2_with (at_builtin; refine wpList_app rfl _ _ 32 rfl w.heap.size 2 i0 (.int .i64 0) 8 Try.underlying32 hi hz0 hz1 hz2 rfl _ k _ rfl HO2.out hbel2 hbel2.size [.int .i64 (hd : Int)] 1 rfl (by rw [World.size_alloc]; rfl) (by intro u hu; simp at hu; subst hu; rfl) (by unfold maxLen; omega) (by omega) ?_)
      intro v' w' hown' hbel'
      have HO3 : Hid (w'.ownsRow w.heap.size 2 1 v' (k + 1) (icells .i64 (hs (l.take (k + 1))))) := by
        show World.ownsRow _ _ _ _ _ _ _
        rw [hs_take l k hlk, ← HP.out]
        exact hown'
      clear hown' HO2 hbel2 HO hbel
      go_wp2
      go_roundw
      case rel => exact ⟨k + 1, by omega, by go_num, HO3.out, hbel'⟩
      case measure => simp [intOf]; omega
    · obtain rfl : k = l.length := by omega
      rw [List.take_length] at HO
      go_wp2
      go_ret
      exact ⟨_, rfl, HO.out, hbel⟩
theorem put_nil (x : Int) (w : World) : Calls Try.prog 11 #[.pointer none, .int .i64 x] w fun e w' => e = .returned (.tuple #[.int .i64 0, .int .i64 1]) ∧ Below w.heap.size w w' := by
  go_enter Try.func11, Try.ntmps11
  go_wp2
  go_ret2
  exact ⟨rfl, Below.refl _ _⟩
theorem len_nil (w : World) : Calls Try.prog 12 #[.pointer none] w fun e w' => e = .returned (.int .i64 0) ∧ Below w.heap.size w w' := by
  go_enter Try.func12, Try.ntmps12
  go_wp2
  go_ret
  exact ⟨rfl, Below.refl _ _⟩
theorem handles_nil (w : World) : Calls Try.prog 13 #[.pointer none] w fun e w' => e = .returned (.slice none 0 0) ∧ Below w.heap.size w w' := by
  go_enter Try.func13, Try.ntmps13
  go_wp2
  go_ret
  exact ⟨rfl, Below.refl _ _⟩
theorem new_bad (room : Int) (h : room < 1 ∨ 64 < room) (w : World) : Calls Try.prog 10 #[.int .i64 room] w fun e w' => e = .returned (.tuple #[.pointer none, .int .i64 1]) ∧ Below w.heap.size w w' := by
  rcases (show room < 1 ∨ (¬ room < 1 ∧ 64 < room) by omega) with h4 | ⟨h4, h5⟩
  all_goals
    go_enter Try.func10, Try.ntmps10
    go_wp2
    go_ret2
    exact ⟨rfl, Below.refl _ _⟩
end Go.Proofs.Ytihlojkghemjeaa.TbH
