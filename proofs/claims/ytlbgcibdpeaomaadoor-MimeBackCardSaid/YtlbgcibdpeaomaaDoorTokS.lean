/- Contracts of token.Quote and of the document's own. -/
import Derived.Test.YtlbgcibdpeaomaaDoorTokQ
namespace Go.Proofs.YtlbgcibdpeaomaaDoor.TokS
open Go.RowKit Go.Proofs.YtlbgcibdpeaomaaDoor.Base Go.Proofs.YtlbgcibdpeaomaaDoor.Base2 Go.Proofs.YtlbgcibdpeaomaaDoor.TokP Go.Proofs.YtlbgcibdpeaomaaDoor.TokQ

theorem bc (l : List UInt8) (k : Nat) (h : k < l.length) : l.take (k + 1) = l.take k ++ [l[k]] := List.take_succ_eq_append_getElem h
set_option maxRecDepth 100000 in
set_option maxHeartbeats 1000000 in
theorem quote_any (s : ByteArray) (w : World) (hs : s.size ≤ 1073741824) :
    Calls Tryd.prog 40 #[.string s] w fun e w' => e = .returned (.string (strOf (qq s.data.toList))) ∧ Below w.heap.size w w' := by
  have hl : s.data.toList.length = s.size := Array.length_toList
  have HL := hid hl
  clear hl
  obtain ⟨i0, hi, hz0, hz1, hz2⟩ := info_parts info_u8
  go_enter Tryd.func40, Tryd.ntmps40
  go_wp2
  have hown0 : (w.alloc (.cells #[.int .u8 34] 5)).ownsRow w.heap.size 5 1 (.slice (some ⟨w.heap.size, 0, none⟩) 1 1) 1 (bcells [34]) :=
    ⟨rfl, .inr ⟨w.heap.size, 1, #[.int .u8 34], rfl, Nat.le_refl _, heap_alloc_new w _, Nat.le_refl _, by decide, rfl, rfl⟩⟩
  go_loopw [3, 4] (fun v vk wr => ∃ (j m : Nat), j ≤ s.size ∧ m ≤ 2 * j + 1 ∧ vk = .int .i64 j ∧ Hid ((34 :: qt (s.data.toList.take j)).length = m) ∧ wr.ownsRow w.heap.size 5 1 v m (bcells (34 :: qt (s.data.toList.take j))) ∧ Below w.heap.size w wr) (fun _ vk _ => s.size - (intOf vk).toNat)
  case atStart => exact ⟨0, 1, Nat.zero_le _, by omega, rfl, rfl, hown0, (Below.refl _ _).alloc (Nat.le_refl _) _⟩
  case round =>
    clear hown0
    obtain ⟨j, m, hj, hm, rfl, HM, hown, hbel⟩ := hrel
    by_cases hlt : j < s.size
    · obtain ⟨c, hc⟩ : ∃ c, s[j] = c := ⟨_, rfl⟩
      have HS : Hid (s.data.toList.take (j + 1) = s.data.toList.take j ++ [c]) := by
        rw [← hc, List.take_succ_eq_append_getElem (by rw [HL.out]; exact hlt)]
        rfl
      by_cases hq : (c.toNat : Int) = 34 ∨ (c.toNat : Int) = 92
      · have HE : Hid (34 :: qt (s.data.toList.take (j + 1)) = (34 :: qt (s.data.toList.take j)) ++ [92] ++ [c]) := by
          show _ = _
          rw [HS.out, qt_snoc, qe, if_pos (by rcases hq with h | h; exact .inl (eq_u8 c 34 h); exact .inr (eq_u8 c 92 h))]
          simp
        have hcase : ((c.toNat : Int) == 34) = true ∨ (((c.toNat : Int) == 34) = false ∧ ((c.toNat : Int) == 92) = true) := by
          by_cases h : (c.toNat : Int) = 34
          · exact .inl (by simp [h])
          · exact .inr ⟨by simp [h], by simp; omega⟩
        clear hq
        rcases hcase with e1 | ⟨e1, e2⟩
        all_goals
          go_wp2_with (at_builtin; refine wpList_app rfl _ _ 38 rfl w.heap.size 5 i0 (.int .u8 0) 1 Tryd.underlying38 hi hz0 hz1 hz2 rfl _ m _ rfl hown hbel hbel.size [.int .u8 92] 1 rfl rfl (by intro u hu; simp at hu; subst hu; rfl) (by unfold maxLen; omega) (by omega) ?_)
          intro v' w3 hown3 hbel3
          clear hown hbel
          go_wp2_with (at_builtin; refine wpList_app rfl _ _ 38 rfl w.heap.size 5 i0 (.int .u8 0) 1 Tryd.underlying38 hi hz0 hz1 hz2 rfl _ (m + 1) _ rfl hown3 hbel3 hbel3.size [.int .u8 (c.toNat : Int)] 1 rfl rfl (by intro u hu; simp at hu; subst hu; rfl) (by unfold maxLen; omega) (by omega) ?_)
          intro v4 w4 hown4 hbel4
          clear hown3 hbel3
          go_wp2
          go_roundw
          case rel => exact ⟨j + 1, m + 1 + 1, by omega, by omega, by go_num, by rw [HE.out, List.length_append, List.length_append, HM.out]; exact rfl, by rw [HE.out, bcells_append, bcells_append, show bcells [92] = [.int .u8 92] from rfl, List.append_assoc]; exact hown4, hbel4⟩
          case measure => simp [intOf]; omega
      · have HE : Hid (34 :: qt (s.data.toList.take (j + 1)) = (34 :: qt (s.data.toList.take j)) ++ [c]) := by
          show _ = _
          rw [HS.out, qt_snoc, qe, if_neg (by rintro (h | h); exact hq (.inl (by rw [h]; rfl)); exact hq (.inr (by rw [h]; rfl)))]
          all_goals simp
        have e1 : ((c.toNat : Int) == 34) = false := by simp; omega
        have e2 : ((c.toNat : Int) == 92) = false := by simp; omega
        clear hq
        go_wp2_with (at_builtin; refine wpList_app rfl _ _ 38 rfl w.heap.size 5 i0 (.int .u8 0) 1 Tryd.underlying38 hi hz0 hz1 hz2 rfl _ m _ rfl hown hbel hbel.size [.int .u8 (c.toNat : Int)] 1 rfl rfl (by intro u hu; simp at hu; subst hu; rfl) (by unfold maxLen; omega) (by omega) ?_)
        intro v' w3 hown3 hbel3
        clear hown hbel
        go_wp2
        go_roundw
        case rel => exact ⟨j + 1, m + 1, by omega, by omega, by go_num, by rw [HE.out, List.length_append, HM.out]; exact rfl, by rw [HE.out, bcells_append]; exact hown3, hbel3⟩
        case measure => simp [intOf]; omega
    · obtain rfl : j = s.size := by omega
      have HE : Hid (34 :: qt (s.data.toList.take s.size) = 34 :: qt s.data.toList) := by
        show _ = _
        rw [← HL.out, List.take_length]
      rw [HE.out] at hown
      clear HM
      go_wp2_with (at_builtin; refine wpList_app rfl _ _ 38 rfl w.heap.size 5 i0 (.int .u8 0) 1 Tryd.underlying38 hi hz0 hz1 hz2 rfl _ m _ rfl hown hbel hbel.size [.int .u8 34] 1 rfl rfl (by intro u hu; simp at hu; subst hu; rfl) (by unfold maxLen; omega) (by omega) ?_)
      intro v' w3 hown3 hbel3
      clear hown hbel
      have hown4 : w3.ownsRow w.heap.size 5 1 v' (m + 1) (bcells (qq s.data.toList)) := by
        have e : bcells (34 :: qt s.data.toList) ++ [.int .u8 34] = bcells (qq s.data.toList) := by simp [qq, bcells]
        rw [← e]
        exact hown3
      clear hown3
      obtain ⟨A, cp, rfl, _, _, hrd⟩ := owns_form hown4
      have hst := run_string_of 38 9 5 Tryd.underlying38 Tryd.underlying5 Tryd.underlying9 _ cp hrd
      go_wp2
      go_ret
      exact ⟨rfl, hbel3⟩
set_option maxRecDepth 100000 in
set_option maxHeartbeats 1000000 in
theorem ref_quote (s : ByteArray) (w : World) (hs : s.size ≤ 1073741824) :
    Calls Tryd.prog 42 #[.string s] w fun e w' => e = .returned (.string (strOf (qq s.data.toList))) ∧ Below w.heap.size w w' := by
  have hl : s.data.toList.length = s.size := Array.length_toList
  have HL := hid hl
  clear hl
  obtain ⟨i0, hi, hz0, hz1, hz2⟩ := info_parts info_u8
  go_enter Tryd.func42, Tryd.ntmps42
  go_wp2
  go_loopw [3, 7] (fun v vk wr => ∃ (j m : Nat), j ≤ s.size ∧ m ≤ 2 * j ∧ vk = .int .i64 j ∧ Hid ((qt (s.data.toList.take j)).length = m) ∧ wr.ownsRow w.heap.size 5 1 v m (bcells (qt (s.data.toList.take j))) ∧ Below w.heap.size w wr) (fun _ vk _ => s.size - (intOf vk).toNat)
  case atStart => exact ⟨0, 0, Nat.zero_le _, by omega, rfl, rfl, World.ownsRow_nil _ _ _ _, Below.refl _ _⟩
  case round =>
    obtain ⟨j, m, hj, hm, rfl, HM, hown, hbel⟩ := hrel
    by_cases hlt : j < s.size
    · obtain ⟨c, hc⟩ : ∃ c, s[j] = c := ⟨_, rfl⟩
      have HS : Hid (s.data.toList.take (j + 1) = s.data.toList.take j ++ [c]) := by
        rw [← hc, List.take_succ_eq_append_getElem (by rw [HL.out]; exact hlt)]
        rfl
      by_cases hq : (c.toNat : Int) = 34 ∨ (c.toNat : Int) = 92
      · have HE : Hid (qt (s.data.toList.take (j + 1)) = (qt (s.data.toList.take j)) ++ [92] ++ [c]) := by
          show _ = _
          rw [HS.out, qt_snoc, qe, if_pos (by rcases hq with h | h; exact .inl (eq_u8 c 34 h); exact .inr (eq_u8 c 92 h))]
          simp
        have hcase : ((c.toNat : Int) == 34) = true ∨ (((c.toNat : Int) == 34) = false ∧ ((c.toNat : Int) == 92) = true) := by
          by_cases h : (c.toNat : Int) = 34
          · exact .inl (by simp [h])
          · exact .inr ⟨by simp [h], by simp; omega⟩
        clear hq
        rcases hcase with e1 | ⟨e1, e2⟩
        all_goals
          go_wp2_with (at_builtin; refine wpList_app rfl _ _ 38 rfl w.heap.size 5 i0 (.int .u8 0) 1 Tryd.underlying38 hi hz0 hz1 hz2 rfl _ m _ rfl hown hbel hbel.size [.int .u8 92] 1 rfl rfl (by intro u hu; simp at hu; subst hu; rfl) (by unfold maxLen; omega) (by omega) ?_)
          intro v' w3 hown3 hbel3
          clear hown hbel
          go_wp2_with (at_builtin; refine wpList_app rfl _ _ 38 rfl w.heap.size 5 i0 (.int .u8 0) 1 Tryd.underlying38 hi hz0 hz1 hz2 rfl _ (m + 1) _ rfl hown3 hbel3 hbel3.size [.int .u8 (c.toNat : Int)] 1 rfl rfl (by intro u hu; simp at hu; subst hu; rfl) (by unfold maxLen; omega) (by omega) ?_)
          intro v4 w4 hown4 hbel4
          clear hown3 hbel3
          go_wp2
          go_roundw
          case rel => exact ⟨j + 1, m + 1 + 1, by omega, by omega, by go_num, by rw [HE.out, List.length_append, List.length_append, HM.out]; exact rfl, by rw [HE.out, bcells_append, bcells_append, show bcells [92] = [.int .u8 92] from rfl, List.append_assoc]; exact hown4, hbel4⟩
          case measure => simp [intOf]; omega
      · have HE : Hid (qt (s.data.toList.take (j + 1)) = (qt (s.data.toList.take j)) ++ [c]) := by
          show _ = _
          rw [HS.out, qt_snoc, qe, if_neg (by rintro (h | h); exact hq (.inl (by rw [h]; rfl)); exact hq (.inr (by rw [h]; rfl)))]
          all_goals simp
        have e1 : ((c.toNat : Int) == 34) = false := by simp; omega
        have e2 : ((c.toNat : Int) == 92) = false := by simp; omega
        clear hq
        go_wp2_with (at_builtin; refine wpList_app rfl _ _ 38 rfl w.heap.size 5 i0 (.int .u8 0) 1 Tryd.underlying38 hi hz0 hz1 hz2 rfl _ m _ rfl hown hbel hbel.size [.int .u8 (c.toNat : Int)] 1 rfl rfl (by intro u hu; simp at hu; subst hu; rfl) (by unfold maxLen; omega) (by omega) ?_)
        intro v' w3 hown3 hbel3
        clear hown hbel
        go_wp2
        go_roundw
        case rel => exact ⟨j + 1, m + 1, by omega, by omega, by go_num, by rw [HE.out, List.length_append, HM.out]; exact rfl, by rw [HE.out, bcells_append]; exact hown3, hbel3⟩
        case measure => simp [intOf]; omega
    · obtain rfl : j = s.size := by omega
      have HE : Hid (qt (s.data.toList.take s.size) = qt s.data.toList) := by
        show _ = _
        rw [← HL.out, List.take_length]
      rw [HE.out] at hown
      have HM2 : Hid ((qt s.data.toList).length = m) := by rw [← HE.out]; exact HM.out
      clear HM
      obtain ⟨A, cp, rfl, _, _, hrd⟩ := owns_form hown
      have hst := run_string_of 38 9 5 Tryd.underlying38 Tryd.underlying5 Tryd.underlying9 _ cp hrd
      have ha1 := str_add (P := Tryd.prog) [34] (qt s.data.toList) wr (by have := HM2.out; simp; omega)
      have ha2 := str_add (P := Tryd.prog) ([34] ++ qt s.data.toList) [34] wr (by have := HM2.out; simp; omega)
      rw [show ([34] ++ qt s.data.toList) ++ [34] = qq s.data.toList by simp [qq]] at ha2
      obtain ⟨Y, hY⟩ : ∃ Y, Y = [34] ++ qt s.data.toList := ⟨_, rfl⟩
      rw [← hY] at ha1 ha2
      clear hY
      have e34 : strOf [34] = ⟨#[34]⟩ := rfl
      rw [e34] at ha1 ha2
      go_wp2
      go_ret
      exact ⟨rfl, hbel⟩
end Go.Proofs.YtlbgcibdpeaomaaDoor.TokS
