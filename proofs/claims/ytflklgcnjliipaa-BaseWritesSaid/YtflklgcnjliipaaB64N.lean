/- Letters of six bits: what number each is; blanks taken out; '=' taken off the end. -/
import Derived.Test.YtflklgcnjliipaaBase2
namespace Go.Proofs.Ytflklgcnjliipaa.B64N
open Go.RowKit Go.Proofs.Ytflklgcnjliipaa.Base Go.Proofs.Ytflklgcnjliipaa.Base2

/-- The six bits that a letter tells, -1 of another byte. -/
def num (c : UInt8) : Int :=
  if 65 ≤ c.toNat ∧ c.toNat ≤ 90 then (c.toNat : Int) - 65
  else if 97 ≤ c.toNat ∧ c.toNat ≤ 122 then (c.toNat : Int) - 97 + 26
  else if 48 ≤ c.toNat ∧ c.toNat ≤ 57 then (c.toNat : Int) - 48 + 52
  else if c.toNat = 43 then 62 else if c.toNat = 47 then 63 else -1
set_option maxRecDepth 100000 in
theorem number_any (c : UInt8) (w : World) : Calls Try.prog 15 #[.int .u8 (c.toNat : Int)] w fun e w' => e = .returned (.int .i64 (num c)) ∧ w = w' := by
  have hc0 : (c.toNat : Int) < 256 := by have := c.toNat_lt; omega
  by_cases e1 : (c.toNat : Int) = 43
  · go_enter Try.func15, Try.ntmps15
    go_wp2
    go_ret
    exact ⟨ret_int (by unfold num; (repeat' split) <;> omega), rfl⟩
  by_cases e2 : (c.toNat : Int) = 47
  · go_enter Try.func15, Try.ntmps15
    go_wp2
    go_ret
    exact ⟨ret_int (by unfold num; (repeat' split) <;> omega), rfl⟩
  go_enter Try.func15, Try.ntmps15
  go_wp2
  all_goals
    go_ret
    exact ⟨ret_int (by unfold num; (repeat' split) <;> omega), rfl⟩
theorem num_range (c : UInt8) : -1 ≤ num c ∧ num c < 64 := by
  unfold num
  (repeat' split) <;> omega
def blank (c : UInt8) : Bool := c.toNat == 9 || c.toNat == 10 || c.toNat == 12 || c.toNat == 13 || c.toNat == 32
def unb (L : List UInt8) : List UInt8 := L.filter fun c => !blank c
theorem unb_snoc (L : List UInt8) (c : UInt8) : unb (L ++ [c]) = if blank c then unb L else unb L ++ [c] := by
  unfold unb
  rw [List.filter_append]
  cases h : blank c <;> simp [h]
theorem unb_len (L : List UInt8) : (unb L).length ≤ L.length := List.length_filter_le _ _
set_option maxRecDepth 100000 in
theorem unblank_any (s : ByteArray) (w : World) (hm : s.size ≤ 1073741824) :
    Calls Try.prog 14 #[.string s] w fun e w' => ∃ v, e = .returned v ∧ w'.ownsRow w.heap.size 5 1 v (unb s.data.toList).length (bcells (unb s.data.toList)) ∧ Below w.heap.size w w' := by
  have hl : s.data.toList.length = s.size := Array.length_toList
  have HL := hid hl
  clear hl
  obtain ⟨i0, hi, hz0, hz1, hz2⟩ := info_parts info_u8
  go_enter Try.func14, Try.ntmps14
  go_wp2_with (at_make; refine wpList_make_own _ rfl _ _ 22 rfl w.heap.size 5 i0 (.int .u8 0) 1 Try.underlying22 hi hz0 hz1 .i64 .i64 _ s.size rfl rfl rfl (by rw [hz2]; omega) (by unfold maxLen; omega) (Nat.le_refl _) ?_)
  intro w1 hown1 hg1
  have hbel1 : Below w.heap.size w w1 := (Below.refl _ _).grown hg1 (Nat.le_refl _) (by intro k h; cases h)
  clear hg1
  go_wp2
  go_loopw [3, 4] (fun v vk wr => ∃ (j : Nat), j ≤ s.size ∧ vk = .int .i64 j ∧ wr.ownsRow w.heap.size 5 1 v (unb (s.data.toList.take j)).length (bcells (unb (s.data.toList.take j))) ∧ Below w.heap.size w wr) (fun _ vk _ => s.size - (intOf vk).toNat)
  case atStart => exact ⟨0, Nat.zero_le _, rfl, hown1, hbel1⟩
  case round =>
    clear hown1 hbel1
    obtain ⟨j, hj, rfl, hown, hbel⟩ := hrel
    by_cases hlt : j < s.size
    · obtain ⟨c, hc⟩ : ∃ c, s[j] = c := ⟨_, rfl⟩
      have HS : Hid (s.data.toList.take (j + 1) = s.data.toList.take j ++ [c]) := by
        rw [← hc, List.take_succ_eq_append_getElem (by rw [HL.out]; exact hlt)]
        rfl
      have hle := unb_len (s.data.toList.take j)
      have hle2 : (s.data.toList.take j).length ≤ j := List.length_take_le _ _
      obtain ⟨m, hmm⟩ : ∃ m, m = (unb (s.data.toList.take j)).length := ⟨_, rfl⟩
      rw [← hmm] at hle hown
      have HM := hid hmm
      clear hmm
      have hc0 : (c.toNat : Int) < 256 := by have := c.toNat_lt; omega
      by_cases hb : (c.toNat : Int) = 9 ∨ (c.toNat : Int) = 10 ∨ (c.toNat : Int) = 12 ∨ (c.toNat : Int) = 13 ∨ (c.toNat : Int) = 32
      · have HB : Hid (blank c = true) := by
          show blank c = true
          unfold blank
          rcases hb with h | h | h | h | h <;> (have h' : c.toNat = _ := Int.ofNat_inj.1 h) <;> simp [h']
        have HE : Hid (unb (s.data.toList.take (j + 1)) = unb (s.data.toList.take j)) := by rw [HS.out, unb_snoc, if_pos HB.out]; exact rfl
        clear HB
        rcases hb with h | h | h | h | h
        all_goals
          go_wp2
          go_roundw
          case rel => exact ⟨j + 1, by omega, by go_num, by rw [HE.out, ← HM.out]; exact hown, hbel⟩
          case measure => simp [intOf]; omega
      · have b1 : ¬ (c.toNat : Int) = 9 := fun h => hb (by omega)
        have b2 : ¬ (c.toNat : Int) = 10 := fun h => hb (by omega)
        have b3 : ¬ (c.toNat : Int) = 12 := fun h => hb (by omega)
        have b4 : ¬ (c.toNat : Int) = 13 := fun h => hb (by omega)
        have b5 : ¬ (c.toNat : Int) = 32 := fun h => hb (by omega)
        have HB : Hid (blank c = false) := by
          show blank c = false
          unfold blank
          simp
          omega
        have HE : Hid (unb (s.data.toList.take (j + 1)) = unb (s.data.toList.take j) ++ [c]) := by rw [HS.out, unb_snoc, if_neg (by rw [HB.out]; decide)]; exact rfl
        clear HB hb
        go_wp2_with (at_builtin; refine wpList_app rfl _ _ 22 rfl w.heap.size 5 i0 (.int .u8 0) 1 Try.underlying22 hi hz0 hz1 hz2 rfl _ m _ rfl hown hbel hbel.size [.int .u8 (c.toNat : Int)] 1 rfl rfl (by intro u hu; simp at hu; subst hu; rfl) (by unfold maxLen; omega) (by omega) ?_)
        intro v' w2 hown2 hbel2
        clear hown hbel
        go_wp2
        go_roundw
        case rel => exact ⟨j + 1, by omega, by go_num, by
            rw [HE.out, List.length_append, bcells_append, ← HM.out]
            exact hown2, hbel2⟩
        case measure => simp [intOf]; omega
    · obtain rfl : j = s.size := by omega
      have HE : Hid (s.data.toList.take s.size = s.data.toList) := by
        rw [← HL.out]; exact List.take_length
      rw [HE.out] at hown
      go_wp2
      go_ret
      exact ⟨_, rfl, hown, hbel⟩
/-- '=' taken off the end, once. -/
def strip (L : List UInt8) : List UInt8 := if L.getLast? = some 61 then L.dropLast else L
def unp (L : List UInt8) : List UInt8 := if L.length % 4 = 0 then strip (strip L) else L
theorem strip_take (L : List UInt8) : ∃ m, m ≤ L.length ∧ strip L = L.take m := by
  unfold strip
  split
  · exact ⟨L.length - 1, by omega, List.dropLast_eq_take⟩
  · exact ⟨L.length, Nat.le_refl _, List.take_length.symm⟩
end Go.Proofs.Ytflklgcnjliipaa.B64N
