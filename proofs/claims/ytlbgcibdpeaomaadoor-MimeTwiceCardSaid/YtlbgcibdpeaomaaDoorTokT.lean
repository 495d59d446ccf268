/- Contracts of token.Trim, token.Right and of the document's own Trim and Right: blanks taken off the ends, for every string. -/
import Derived.Test.YtlbgcibdpeaomaaDoorTokA
namespace Go.Proofs.YtlbgcibdpeaomaaDoor.TokT
open Go.RowKit Go.Proofs.YtlbgcibdpeaomaaDoor.Base Go.Proofs.YtlbgcibdpeaomaaDoor.Base2 Go.Proofs.YtlbgcibdpeaomaaDoor.TokP Go.Proofs.YtlbgcibdpeaomaaDoor.TokQ Go.Proofs.YtlbgcibdpeaomaaDoor.TokA

theorem trim_any (s : ByteArray) (w : World) (hs : s.size ≤ 1073741824) :
    Calls Tryd.prog 23 #[.string s] w fun e w' => e = .returned (.string (strOf (trm s.data.toList))) ∧ Below w.heap.size w w' := by
  have hcon : Calls Tryd.prog 45 #[.string s, .string (strOf blanks)] w fun e w' => e = .returned (.string (strOf (trm s.data.toList))) ∧ Below w.heap.size w w' :=
    Tryd.strings_Trim_set s (strOf blanks) w (by omega) (by decide) (ascii_of_all (by decide))
  obtain ⟨r, hr⟩ : ∃ r, r = strOf (trm s.data.toList) := ⟨_, rfl⟩
  rw [← hr] at hcon ⊢
  clear hr
  go_enter Tryd.func23, Tryd.ntmps23
  go_wp2_with fail
  refine hcon.mono ?_
  rintro e w1 ⟨rfl, hb⟩
  go_wp2_with fail
  go_ret
  exact ⟨rfl, hb⟩
theorem right_any (s : ByteArray) (w : World) (hs : s.size ≤ 1073741824) :
    Calls Tryd.prog 24 #[.string s] w fun e w' => e = .returned (.string (strOf (tr s.data.toList))) ∧ Below w.heap.size w w' := by
  have hcon : Calls Tryd.prog 46 #[.string s, .string (strOf blanks)] w fun e w' => e = .returned (.string (strOf (tr s.data.toList))) ∧ Below w.heap.size w w' :=
    Tryd.strings_TrimRight_set s (strOf blanks) w (by omega) (by decide) (ascii_of_all (by decide))
  obtain ⟨r, hr⟩ : ∃ r, r = strOf (tr s.data.toList) := ⟨_, rfl⟩
  rw [← hr] at hcon ⊢
  clear hr
  go_enter Tryd.func24, Tryd.ntmps24
  go_wp2_with fail
  refine hcon.mono ?_
  rintro e w1 ⟨rfl, hb⟩
  go_wp2_with fail
  go_ret
  exact ⟨rfl, hb⟩
theorem has_blanks (c : UInt8) : has (strOf blanks).data.toList c = blanks.contains c := rfl
theorem tr_snoc (L : List UInt8) (c : UInt8) : tr (L ++ [c]) = if blanks.contains c then tr L else L ++ [c] := by
  unfold tr Lib.trimRightS
  rw [List.reverse_append, List.reverse_singleton, List.singleton_append, List.dropWhile_cons]
  split
  · rfl
  · simp
theorem take_last (s : ByteArray) (n : Nat) (h : s.size = n + 1) : ∃ c, (∀ h', s[n]'h' = c) ∧ s.data.toList = s.data.toList.take n ++ [c] := by
  have hl : s.data.toList.length = s.size := Array.length_toList
  refine ⟨s[n], fun _ => rfl, ?_⟩
  have := List.take_succ_eq_append_getElem (l := s.data.toList) (i := n) (by omega)
  rw [List.take_of_length_le (by omega)] at this
  exact this
theorem ext_to (s : ByteArray) (k : Nat) : s.extract 0 k = strOf (s.data.toList.take k) := by
  apply ByteArray.ext
  apply Array.ext'
  rw [ByteArray.data_extract]
  simp [strOf, Array.toList_extract, List.extract_eq_take_drop]
theorem ext_from (s : ByteArray) (k n : Nat) (h : n = s.size) : s.extract k n = strOf (s.data.toList.drop k) := by
  subst h
  apply ByteArray.ext
  apply Array.ext'
  rw [ByteArray.data_extract]
  simp only [strOf, Array.toList_extract, List.extract_eq_take_drop]
  rw [List.take_of_length_le]
  rw [List.length_drop, Array.length_toList]
  exact Nat.le_refl _
set_option maxRecDepth 100000 in
theorem ref_right (s : ByteArray) (w : World) (hs : s.size ≤ 1073741824) :
    Calls Tryd.prog 32 #[.string s, .string (strOf blanks)] w fun e w' => e = .returned (.string (strOf (tr s.data.toList))) ∧ w = w' := by
  obtain ⟨T, hT⟩ : ∃ T, T = tr s.data.toList := ⟨_, rfl⟩
  have HT0 := hid hT
  rw [← hT]
  clear hT
  obtain ⟨B, hB⟩ : ∃ B, B = strOf blanks := ⟨_, rfl⟩
  have HB := hid hB
  rw [← hB]
  clear hB
  go_enter Tryd.func32, Tryd.ntmps32
  go_wp2
  go_loop [0] (fun v => ∃ u : ByteArray, v = .string u ∧ u.size ≤ s.size ∧ Hid (tr u.data.toList = T)) (fun v => match v with | .string u => u.size | _ => 0)
  case atStart => exact ⟨s, rfl, Nat.le_refl _, HT0.out.symm⟩
  case round =>
    obtain ⟨u, rfl, hu, HT⟩ := hrel
    rcases Nat.eq_zero_or_pos u.size with h0 | h0
    · have e0 := toList_eq u h0
      have HV : Hid (u = strOf T) := by
        show _ = _
        rw [← HT.out, empty_of u h0]
        rfl
      clear h0
      go_wp2
      go_ret
      rw [HV.out]
      exact ⟨rfl, rfl⟩
    · have e0 := toList_ne u h0
      have e0' := toList_ne' u h0
      obtain ⟨n, hn⟩ : ∃ n, u.size = n + 1 := ⟨u.size - 1, by omega⟩
      obtain ⟨c, hc, hs2⟩ := take_last u n hn
      have HS := hid hs2
      have HN := hid hn
      have hsz : ((u.size : Int) - 1) = (n : Int) := by omega
      have hlt : n < u.size := by omega
      have hx := ext_to u n
      clear hs2
      cases hb : has blanks c
      · have HV : Hid (u = strOf T) := by
          show _ = _
          rw [← HT.out, HS.out, tr_snoc, if_neg (by unfold has at hb; rw [hb]; decide), ← HS.out, strOf_toList]
        have HBB := hid hb
        clear hb
        go_wp2_with fail
        rw [HB.out]
        refine (has_any (strOf blanks) c _ (by decide)).mono ?_
        rintro e w2 ⟨rfl, rfl⟩
        rw [show has (strOf blanks).data.toList c = false from HBB.out]
        go_wp2_with fail
        go_ret
        rw [HV.out]
        exact ⟨rfl, rfl⟩
      · have HV : Hid (tr (strOf (u.data.toList.take n)).data.toList = T) := by
          show _ = _
          rw [← HT.out]
          conv => rhs; rw [HS.out, tr_snoc, if_pos (by unfold has at hb; rw [hb])]
          rfl
        have HBB := hid hb
        clear hb
        go_wp2_with fail
        rw [HB.out]
        refine (has_any (strOf blanks) c _ (by decide)).mono ?_
        rintro e w2 ⟨rfl, rfl⟩
        rw [show has (strOf blanks).data.toList c = true from HBB.out]
        rw [← HB.out]
        go_wp2_with fail
        go_round
        case rel => exact ⟨_, rfl, by rw [size_strOf, List.length_take]; omega, HV⟩
        case measure => simp [size_strOf]; omega
theorem tl_cons (L : List UInt8) (c : UInt8) : tl (c :: L) = if blanks.contains c then tl L else c :: L := by
  unfold tl Lib.trimLeftS
  rw [List.dropWhile_cons]
theorem first (s : ByteArray) (h : 0 < s.size) : ∃ c M, (∀ h', s[0]'h' = c) ∧ s.data.toList = c :: M ∧ s.extract 1 s.size = strOf M ∧ M.length + 1 = s.size :=
  ⟨s[0], s.data.toList.drop 1, fun _ => rfl, drop_at s 0 h, ext_from s 1 s.size rfl, by rw [List.length_drop, Array.length_toList]; show s.size - 1 + 1 = _; omega⟩
set_option maxRecDepth 100000 in
theorem ref_trim (s : ByteArray) (w : World) (hs : s.size ≤ 1073741824) :
    Calls Tryd.prog 28 #[.string s, .string (strOf blanks)] w fun e w' => e = .returned (.string (strOf (trm s.data.toList))) ∧ w = w' := by
  obtain ⟨T, hT⟩ : ∃ T, T = trm s.data.toList := ⟨_, rfl⟩
  have HT0 : Hid (T = tr (tl s.data.toList)) := by rw [hT, trm_def, ← tr_tl]; exact rfl
  rw [← hT]
  clear hT
  obtain ⟨B, hB⟩ : ∃ B, B = strOf blanks := ⟨_, rfl⟩
  have HB := hid hB
  rw [← hB]
  clear hB
  go_enter Tryd.func28, Tryd.ntmps28
  go_wp2
  go_loop [0] (fun v => ∃ u : ByteArray, v = .string u ∧ u.size ≤ s.size ∧ Hid (tr (tl u.data.toList) = T)) (fun v => match v with | .string u => u.size | _ => 0)
  case atStart => exact ⟨s, rfl, Nat.le_refl _, HT0.out.symm⟩
  case round =>
    obtain ⟨u, rfl, hu, HT⟩ := hrel
    rcases Nat.eq_zero_or_pos u.size with h0 | h0
    · have e0 := toList_eq u h0
      have HV : Hid (tr u.data.toList = T) := by
        show _ = _
        rw [← HT.out, empty_of u h0]
        rfl
      clear h0
      go_wp2_with fail
      rw [HB.out]
      refine (ref_right u _ (by omega)).mono ?_
      rintro e w2 ⟨rfl, rfl⟩
      rw [HV.out]
      go_wp2_with fail
      go_ret
      exact ⟨rfl, rfl⟩
    · have e0 := toList_ne u h0
      have e0' := toList_ne' u h0
      obtain ⟨c, M, hc, hs2, hx, hM⟩ := first u h0
      have HS := hid hs2
      have HM := hid hM
      clear hM
      clear hs2
      cases hb : has blanks c
      · have HV : Hid (tr u.data.toList = T) := by
          show _ = _
          rw [← HT.out]
          conv => rhs; rw [HS.out, tl_cons, if_neg (by unfold has at hb; rw [hb]; decide), ← HS.out]
        have HBB := hid hb
        clear hb
        go_wp2_with fail
        rw [HB.out]
        refine (has_any (strOf blanks) c _ (by decide)).mono ?_
        rintro e w2 ⟨rfl, rfl⟩
        rw [show has (strOf blanks).data.toList c = false from HBB.out]
        go_wp2_with fail
        refine (ref_right u _ (by omega)).mono ?_
        rintro e w2 ⟨rfl, rfl⟩
        rw [HV.out]
        go_wp2_with fail
        go_ret
        exact ⟨rfl, rfl⟩
      · have HV : Hid (tr (tl (strOf M).data.toList) = T) := by
          show _ = _
          rw [← HT.out]
          conv => rhs; rw [HS.out, tl_cons, if_pos (by unfold has at hb; rw [hb])]
          rfl
        have HBB := hid hb
        clear hb
        have h1 : (1 : Int) ≤ (u.size : Int) := by omega
        go_wp2_with fail
        rw [HB.out]
        refine (has_any (strOf blanks) c _ (by decide)).mono ?_
        rintro e w2 ⟨rfl, rfl⟩
        rw [show has (strOf blanks).data.toList c = true from HBB.out]
        rw [← HB.out]
        go_wp2_with fail
        go_round
        case rel => exact ⟨_, rfl, by have := HM.out; rw [size_strOf]; omega, HV⟩
        case measure => have := HM.out; simp [size_strOf]; omega
end Go.Proofs.YtlbgcibdpeaomaaDoor.TokT
