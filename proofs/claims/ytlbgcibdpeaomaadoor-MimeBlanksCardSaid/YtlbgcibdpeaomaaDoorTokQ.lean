/- Contracts of token.Quoted, token.Quote and of the document's own: what TokP's plain functions say, for every string. -/
import Derived.Test.YtlbgcibdpeaomaaDoorTokP
import Derived.Test.YtlbgcibdpeaomaaDoorBase2
namespace Go.Proofs.YtlbgcibdpeaomaaDoor.TokQ
open Go.RowKit Go.Proofs.YtlbgcibdpeaomaaDoor.Base Go.Proofs.YtlbgcibdpeaomaaDoor.Base2 Go.Proofs.YtlbgcibdpeaomaaDoor.TokP

theorem drop_at (s : ByteArray) (k : Nat) (h : k < s.size) : s.data.toList.drop k = s[k] :: s.data.toList.drop (k + 1) := by
  have h' : k < s.data.toList.length := by rw [Array.length_toList]; exact h
  rw [List.drop_eq_getElem_cons h']
  rfl
theorem empty_of (s : ByteArray) (h : s.size = 0) : s = strOf [] := by
  have : s.data.toList = [] := List.eq_nil_of_length_eq_zero (by rw [Array.length_toList]; exact h)
  rw [← strOf_toList s, this]
theorem toList_eq (s : ByteArray) (h : s.size = 0) : s.toList = [] := by
  rw [empty_of s h, strOf, ByteArray.toList_mk]
theorem toList_ne (s : ByteArray) (h : 0 < s.size) : s.toList.isEmpty = false := by
  rw [Lib.toList_data]
  cases e : s.data.toList with
  | nil => have : s.data.toList.length = s.size := Array.length_toList; rw [e] at this; simp at this; omega
  | cons _ _ => rfl
theorem toList_ne' (s : ByteArray) (h : 0 < s.size) : (s.toList == []) = false := by
  have := toList_ne s h
  cases e : s.toList with
  | nil => rw [e] at this; cases this
  | cons _ _ => rfl
theorem ne34 (c : UInt8) (h : ¬ (c.toNat : Int) = 34) : c ≠ 34 := fun e => h (by rw [e]; rfl)
theorem ne92 (c : UInt8) (h : ¬ (c.toNat : Int) = 92) : c ≠ 92 := fun e => h (by rw [e]; rfl)
theorem eq_u8 (c d : UInt8) (h : (c.toNat : Int) = (d.toNat : Int)) : c = d := UInt8.toNat_inj.1 (by omega)

set_option maxRecDepth 100000 in
set_option maxHeartbeats 1000000 in
theorem quoted_any (s : ByteArray) (w : World) (hs : s.size ≤ 1073741824) :
    Calls Tryd.prog 82 #[.string s] w fun e w' => e = .returned (.tuple #[.string (strOf (qval s.data.toList).1), .int .i64 (((qval s.data.toList).2 : Nat) : Int)]) ∧ Below w.heap.size w w' := by
  have hl : s.data.toList.length = s.size := Array.length_toList
  have HL := hid hl
  clear hl
  obtain ⟨i0, hi, hz0, hz1, hz2⟩ := info_parts info_u8
  rcases Nat.eq_zero_or_pos s.size with h0 | h0
  · have HE : Hid (qval s.data.toList = ([], 0)) := by rw [empty_of s h0]; exact rfl
    have e0 := toList_eq s h0
    clear HL h0 hs
    go_enter Tryd.func82, Tryd.ntmps82
    go_wp2
    go_ret2
    rw [HE.out]
    exact ⟨rfl, Below.refl _ _⟩
  · have e0 := toList_ne s h0
    have e0' := toList_ne' s h0
    obtain ⟨c, hc⟩ : ∃ c, s[0] = c := ⟨_, rfl⟩
    have HD0 : Hid (s.data.toList = c :: s.data.toList.drop 1) := by
      have := drop_at s 0 h0
      rw [hc] at this
      exact this
    by_cases h34 : (c.toNat : Int) = 34
    · have e1 : ((c.toNat : Int) != 34) = false := by simp [h34]
      have HQ : Hid (qval s.data.toList = ((qd (s.data.toList.drop 1)).1, (qd (s.data.toList.drop 1)).2 + 1)) := by
        show _ = _
        rw [HD0.out, qval, if_pos (eq_u8 c 34 h34)]
        rfl
      clear HD0 h34
      go_enter Tryd.func82, Tryd.ntmps82
      go_wp2
      go_loopw [4, 5] (fun v vk wr => ∃ (j : Nat) (X : List UInt8), 1 ≤ j ∧ j ≤ s.size ∧ X.length ≤ j ∧ vk = .int .i64 j ∧ wr.ownsRow w.heap.size 5 1 v X.length (bcells X) ∧ Hid (qd (s.data.toList.drop 1) = (X ++ (qd (s.data.toList.drop j)).1, j - 1 + (qd (s.data.toList.drop j)).2)) ∧ Below w.heap.size w wr) (fun _ vk _ => s.size - (intOf vk).toNat)
      case atStart => exact ⟨1, [], Nat.le_refl _, h0, Nat.zero_le _, rfl, World.ownsRow_nil _ _ _ _, by show _ = _; simp, Below.refl _ _⟩
      case round =>
        clear e1 hc e0 e0'
        obtain ⟨j, X, hj1, hj, hX, rfl, hown, HQQ, hbel⟩ := hrel
        by_cases hlt : j < s.size
        · obtain ⟨c, hc⟩ : ∃ c, s[j] = c := ⟨_, rfl⟩
          have HC : Hid (s.data.toList.drop j = c :: s.data.toList.drop (j + 1)) := by
            have := drop_at s j hlt
            rw [hc] at this
            exact this
          by_cases h34 : (c.toNat : Int) = 34
          · have e1 : ((c.toNat : Int) == 34) = true := by simp [h34]
            have HV : Hid (qval s.data.toList = (X, j + 1)) := by
              show _ = _
              rw [HQ.out, HQQ.out, HC.out, eq_u8 c 34 h34, qd_end]
              refine Prod.ext (by simp) ?_
              show j - 1 + 1 + 1 = j + 1
              omega
            clear h34
            obtain ⟨A, cp, rfl, _, _, hrd⟩ := owns_form hown
            have hst := run_string_of 38 9 5 Tryd.underlying38 Tryd.underlying5 Tryd.underlying9 _ cp hrd
            go_wp2
            go_ret2
            rw [HV.out]
            exact ⟨rfl, hbel⟩
          · have e1 : ((c.toNat : Int) == 34) = false := by simp [h34]
            by_cases h92 : (c.toNat : Int) = 92 ∧ j + 1 < s.size
            · obtain ⟨h92, hlt2⟩ := h92
              have e2 : ((c.toNat : Int) == 92) = true := by simp [h92]
              have hlt2' : (j : Int) + 1 < (s.size : Int) := by omega
              obtain ⟨d, hd⟩ : ∃ d, s[j + 1] = d := ⟨_, rfl⟩
              have HC2 : Hid (s.data.toList.drop (j + 1) = d :: s.data.toList.drop (j + 2)) := by
                have := drop_at s (j + 1) hlt2
                rw [hd] at this
                exact this
              have HV : Hid (qd (s.data.toList.drop 1) = ((X ++ [d]) ++ (qd (s.data.toList.drop (j + 2))).1, j + 2 - 1 + (qd (s.data.toList.drop (j + 2))).2)) := by
                show _ = _
                rw [HQQ.out, HC.out, HC2.out, eq_u8 c 92 h92, qd_esc]
                refine Prod.ext (by simp) ?_
                simp only
                omega
              clear h34 h92
              have ht : ((j : Int) + 1).toNat = j + 1 := by omega
              go_wp2_with (at_builtin; refine wpList_app rfl _ _ 38 rfl w.heap.size 5 i0 (.int .u8 0) 1 Tryd.underlying38 hi hz0 hz1 hz2 rfl _ X.length _ rfl hown hbel hbel.size [.int .u8 (d.toNat : Int)] 1 rfl rfl (by intro u hu; simp at hu; subst hu; rfl) (by unfold maxLen; omega) (by omega) ?_)
              intro v' w3 hown3 hbel3
              clear hown hbel
              go_wp2
              go_roundw
              case rel => exact ⟨j + 2, X ++ [d], by omega, by omega, by simp; omega, by rw [show ((j + 2 : Nat) : Int) = (j : Int) + 1 + 1 by omega], by rw [bcells_append, List.length_append]; exact hown3, HV, hbel3⟩
              case measure => simp [intOf]; omega
            · have HV : Hid (qd (s.data.toList.drop 1) = ((X ++ [c]) ++ (qd (s.data.toList.drop (j + 1))).1, j + 1 - 1 + (qd (s.data.toList.drop (j + 1))).2)) := by
                show _ = _
                by_cases hq : (c.toNat : Int) = 92
                · have hn : j + 1 = s.size := by omega
                  have e : s.data.toList.drop (j + 1) = [] := by rw [hn, ← HL.out, List.drop_length]
                  rw [HQQ.out, HC.out, e, eq_u8 c 92 hq, qd_last]
                  refine Prod.ext (by simp [qd]) ?_
                  simp [qd]
                  omega
                · rw [HQQ.out, HC.out, qd_plain c _ (ne34 c h34) (ne92 c hq)]
                  refine Prod.ext (by simp) ?_
                  simp only
                  omega
              have hcase : ((c.toNat : Int) == 92) = false ∨ (((c.toNat : Int) == 92) = true ∧ ¬ ((j : Int) + 1 < (s.size : Int))) := by
                by_cases hq : (c.toNat : Int) = 92
                · exact .inr ⟨by simp [hq], by omega⟩
                · exact .inl (by simp [hq])
              clear h34 h92
              rcases hcase with e2 | ⟨e2, e3⟩
              all_goals
                go_wp2_with (at_builtin; refine wpList_app rfl _ _ 38 rfl w.heap.size 5 i0 (.int .u8 0) 1 Tryd.underlying38 hi hz0 hz1 hz2 rfl _ X.length _ rfl hown hbel hbel.size [.int .u8 (c.toNat : Int)] 1 rfl rfl (by intro u hu; simp at hu; subst hu; rfl) (by unfold maxLen; omega) (by omega) ?_)
                intro v' w3 hown3 hbel3
                clear hown hbel
                go_wp2
                go_roundw
                case rel => exact ⟨j + 1, X ++ [c], by omega, by omega, by simp; omega, by go_num, by rw [bcells_append, List.length_append]; exact hown3, HV, hbel3⟩
                case measure => simp [intOf]; omega
        · obtain rfl : j = s.size := by omega
          have HV : Hid (qval s.data.toList = (X, s.size)) := by
            show _ = _
            rw [HQ.out, HQQ.out, show s.data.toList.drop s.size = [] by rw [← HL.out, List.drop_length]]
            refine Prod.ext (by simp [qd]) ?_
            simp [qd]
            omega
          obtain ⟨A, cp, rfl, _, _, hrd⟩ := owns_form hown
          have hst := run_string_of 38 9 5 Tryd.underlying38 Tryd.underlying5 Tryd.underlying9 _ cp hrd
          go_wp2
          go_ret2
          rw [HV.out]
          exact ⟨rfl, hbel⟩
    · have e1 : ((c.toNat : Int) != 34) = true := by simp [h34]
      have HQ : Hid (qval s.data.toList = ([], 0)) := by
        show _ = _
        rw [HD0.out, qval, if_neg (ne34 c h34)]
      clear HD0 h34
      go_enter Tryd.func82, Tryd.ntmps82
      go_wp2
      go_ret2
      rw [HQ.out]
      exact ⟨rfl, Below.refl _ _⟩
end Go.Proofs.YtlbgcibdpeaomaaDoor.TokQ
