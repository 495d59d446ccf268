/- Contract of utf.Lower and of the document's own Lower: a to z for A to Z, byte by byte, for every string; what was there stays. -/
import Derived.Test.YtnmkkejodkjjiaaDoorBase
namespace Go.Proofs.YtnmkkejodkjjiaaDoor.UtfL
open Go.RowKit Go.Proofs.YtnmkkejodkjjiaaDoor.Base

def low (c : UInt8) : UInt8 := if 65 ≤ c.toNat ∧ c.toNat ≤ 90 then c + 32 else c
def lower (l : List UInt8) : List UInt8 := l.map low
def lowTo (l : List UInt8) (k : Nat) : List UInt8 := (l.take k).map low ++ l.drop k
theorem length_lowTo (l : List UInt8) (k : Nat) : (lowTo l k).length = l.length := by simp [lowTo]; omega
theorem lowTo_get (l : List UInt8) (k : Nat) (h : k < l.length) : (lowTo l k)[k]'(by rw [length_lowTo]; exact h) = l[k] := by
  have : k ≤ l.length := by omega
  simp [lowTo, List.getElem_append, this, Nat.min_eq_left this]
theorem lowTo_succ (l : List UInt8) (k : Nat) (h : k < l.length) : lowTo l (k + 1) = (lowTo l k).set k (low l[k]) := by
  unfold lowTo
  apply List.ext_getElem
  · simp; omega
  · intro i h1 h2
    simp only [List.getElem_append, List.getElem_set, List.length_map, List.length_take, List.getElem_map, List.getElem_take, List.getElem_drop]
    by_cases a : i < k
    · rw [dif_pos (by omega), if_neg (by omega), dif_pos (by omega)]
    · by_cases b : i = k
      · subst b
        rw [dif_pos (by omega), if_pos rfl]
      · rw [dif_neg (by omega), if_neg (by omega), dif_neg (by omega)]
        congr 1
        omega
theorem lowTo_all (l : List UInt8) : lowTo l l.length = lower l := by simp [lowTo, lower]
theorem lowTo_zero (l : List UInt8) : lowTo l 0 = l := by simp [lowTo]
theorem low_yes (c : UInt8) (h1 : 65 ≤ (c.toNat : Int)) (h2 : (c.toNat : Int) ≤ 90) : ((low c).toNat : Int) = (c.toNat : Int) + 32 := by
  unfold low; rw [if_pos (by omega)]; simp [UInt8.toNat_add]; omega
theorem low_no (c : UInt8) (h : ¬ (65 ≤ (c.toNat : Int) ∧ (c.toNat : Int) ≤ 90)) : low c = c := by
  unfold low; rw [if_neg (by omega)]
theorem set_self {l : List UInt8} {k : Nat} (h : k < l.length) (c : UInt8) (e : l[k] = c) : l.set k c = l := by subst e; simp

theorem lower_any (s : ByteArray) (w : World) (hs : s.size ≤ maxLen) : Calls Tryd.prog 52 #[.string s] w fun e w' => e = .returned (.string (strOf (lower s.data.toList))) ∧ Below w.heap.size w w' := by
  unfold maxLen at hs
  have hcv := fun (w : World) s => run_bytes_of_string (P := Tryd.prog) w 9 40 5 s Tryd.underlying9 Tryd.underlying40 Tryd.underlying5
  have Hcap : Hid (s.size ≤ grownCap w s.size 0 5) := grownCap_ge w s.size 0 5
  go_enter Tryd.func52, Tryd.ntmps52
  go_wp2
  clear hcv
  go_loopw [4, 5, 10] (fun _ _ i wr => ∃ k : Nat, k ≤ s.size ∧ i = .int .i64 k ∧ ByteRow wr w.heap.size 5 (lowTo s.data.toList k) ∧ Below w.heap.size w wr) (fun _ _ i _ => s.size - (intOf i).toNat)
  case atStart => exact ⟨0, Nat.zero_le _, rfl, (by rw [lowTo_zero]; exact ByteRow.made w s 5 _ Hcap.out), ((Below.refl _ _).alloc (Nat.le_refl _) _).drew⟩
  case round =>
    obtain ⟨k, hk, rfl, hrow, hbel⟩ := hrel
    by_cases hlt : k < s.size
    · obtain ⟨c, hcs⟩ : ∃ c : UInt8, c = s.data.toList[k] := ⟨_, rfl⟩
      have hc : wr.cell? ⟨w.heap.size, k, none⟩ = some (.int .u8 (c.toNat : Int)) := by
        rw [hcs, hrow.cell k (by rw [length_lowTo]; exact hlt)]
        simp only [lowTo_get s.data.toList k hlt]
      have hf := hrow.frozen k (by rw [length_lowTo]; exact hlt)
      have HC := hid hcs
      clear hcs
      have HR := hid hrow
      clear hrow
      by_cases hA : 65 ≤ (c.toNat : Int) ∧ (c.toNat : Int) ≤ 90
      · obtain ⟨hA1, hA2⟩ := hA
        go_wp2
        go_roundw
        case rel => exact ⟨k + 1, by omega, by go_num, by
          have := HR.out.set k (low c)
          rw [low_yes c hA1 hA2] at this
          rw [lowTo_succ s.data.toList k hlt, ← HC.out]
          exact this, hbel.setCell (Nat.le_refl _) _⟩
        case measure => simp [intOf]; omega
      · have hlow := low_no c hA
        have HL := hid hlow
        clear hlow
        go_wp2
        all_goals
          go_roundw
          case rel => exact ⟨k + 1, by omega, by go_num, by
            rw [lowTo_succ s.data.toList k hlt, ← HC.out, HL.out, set_self (by rw [length_lowTo]; exact hlt) c (by rw [lowTo_get _ _ hlt, HC.out])]
            exact HR.out, hbel⟩
          case measure => simp [intOf]; omega
    · obtain rfl : k = s.size := by omega
      have hback := run_convert_bytes_back (P := Tryd.prog) wr 40 9 5 ⟨w.heap.size, 0, none⟩ (grownCap w s.size 0 5) (lowTo s.data.toList s.size) Tryd.underlying40 Tryd.underlying5 Tryd.underlying9 (fun j hj => by
        have := hrow.cell j hj
        rw [add_at]; exact this)
      rw [length_lowTo, show s.data.toList.length = s.size from Array.length_toList, show lowTo s.data.toList s.size = lower s.data.toList from lowTo_all _] at hback
      go_wp2
      go_ret
      exact ⟨rfl, hbel⟩
end Go.Proofs.YtnmkkejodkjjiaaDoor.UtfL
