/- IPv4 addresses: the parts of a text, as the code has them, and as the document has them. -/
import Derived.Test.YtnmkkejodkjjiaaDoorQudB
import Derived.Test.YtnmkkejodkjjiaaDoorBase3
namespace Go.Proofs.YtnmkkejodkjjiaaDoor.QudC
open Go.RowKit Go.Proofs.YtnmkkejodkjjiaaDoor.Base Go.Proofs.YtnmkkejodkjjiaaDoor.Base2 Go.Proofs.YtnmkkejodkjjiaaDoor.Base3 Go.Proofs.YtnmkkejodkjjiaaDoor.UtfA Go.Proofs.YtnmkkejodkjjiaaDoor.QudP Go.Proofs.YtnmkkejodkjjiaaDoor.QudA

/-- The library's own variable holds some number. -/
def Max (w : World) : Prop := ∃ m, w.cell? ⟨0, 0, none⟩ = some (.int .i64 m)
theorem Max.below {w w' : World} (h : Max w) (hb : Below w.heap.size w w') : Max w' := by
  obtain ⟨m, hm⟩ := h
  exact ⟨m, (hb.cell (World.block_lt_of_cell? _ _ hm)).trans hm⟩
theorem unpoint_any (s : ByteArray) (w : World) (hs : s.size ≤ 1073741824) : Calls Tryd.prog 71 #[.string s] w fun e w' => e = .returned (.string (strOf (unp s.data.toList))) ∧ w = w' := by
  go_enter Tryd.func71, Tryd.ntmps71
  go_wp2_with fail
  refine (Tryd.strings_TrimSuffix s ⟨#[46]⟩ _ (by omega)).mono ?_
  rintro e w2 ⟨rfl, hw2⟩
  subst hw2
  go_wp2
  go_ret
  exact ⟨rfl, rfl⟩
theorem splitK_splt : ∀ (L : List UInt8) (k : Nat), L.count 46 ≤ k → Lib.splitK [46] 0 k L = splt L
  | [], 0, _ => rfl
  | [], k + 1, _ => rfl
  | b :: l, 0, h => by
    have hb : b ≠ 46 := by rintro rfl; simp at h
    have ih := splitK_splt l 0 (by rw [List.count_cons_of_ne (by simpa using hb)] at h; exact h)
    show [b :: l] = _
    rw [splt, if_neg hb, ← ih]
    rfl
  | b :: l, k + 1, h => by
    by_cases hb : b = 46
    · subst hb
      have ih := splitK_splt l k (by simp at h; omega)
      have e : Lib.index (46 :: l) [46] = 0 := by rw [Lib.index, if_pos (by simp [List.isPrefixOf])]
      rw [splt, if_pos rfl, Lib.splitK, e, if_neg (by decide)]
      show [] :: _ = _
      rw [← ih]
      rfl
    · have hc : l.count 46 ≤ k + 1 := by rw [List.count_cons_of_ne (by simpa using hb)] at h; exact h
      have ih := splitK_splt l (k + 1) hc
      have e : Lib.index (b :: l) [46] = if Lib.index l [46] == -1 then -1 else Lib.index l [46] + 1 := by rw [Lib.index, if_neg (by simp [List.isPrefixOf, Ne.symm hb])]
      rw [Lib.splitK] at ih ⊢
      rw [splt, if_neg hb, ← ih, e]
      by_cases hm : Lib.index l [46] = -1
      · rw [hm]
        rfl
      · have hge := Lib.index_ge l [46]
        obtain ⟨j, hj⟩ : ∃ j : Nat, Lib.index l [46] = j := ⟨(Lib.index l [46]).toNat, by omega⟩
        have h1 : ((j : Int) == -1) = false := beq_eq_false_iff_ne.2 (by omega)
        have h2 : ((j : Int) + 1 == -1) = false := beq_eq_false_iff_ne.2 (by omega)
        have h3 : ((j : Int) + 1).toNat = j + 1 := by omega
        simp only [hj, h1, Bool.false_eq_true, if_false, h2, h3]
        simp
/-- A slice that reads as these texts. -/
def Read (w : World) (l : List (List UInt8)) (e : Ending) (w' : World) : Prop := ∃ A n c, e = .returned (.slice A n c) ∧ n = l.length ∧ n ≤ c ∧ c ≤ maxLen ∧ Rds w' A n ((l.map strOf).map Value.string) ∧ Below w.heap.size w w'
theorem split_any (s : ByteArray) (w : World) (hs : s.size ≤ 1073741824) (hM : Max w) : Calls Tryd.prog 43 #[.string s, .string ⟨#[46]⟩] w (Read w (splt s.data.toList)) := by
  obtain ⟨m, hm⟩ := hM
  refine (Tryd.strings_Split s ⟨#[46]⟩ m w (by omega) hm (Nat.le_refl _)).mono ?_
  rintro e w' ⟨rfl, rfl⟩
  have hd := Lib.splitB_data ⟨#[46]⟩ 0 (Lib.countB s ⟨#[46]⟩) s
  rw [show (⟨#[46]⟩ : ByteArray).data.toList = [46] from rfl, splitK_splt _ _ (by rw [← Lib.count_one]; exact Nat.le_refl _)] at hd
  have hl := Lib.splitB_all ⟨#[46]⟩ (Nat.le_refl _) 0 _ s rfl
  have hc := Lib.countB_le ⟨#[46]⟩ (Nat.le_refl _) s.size s (Nat.le_refl _)
  generalize Lib.splitB ⟨#[46]⟩ 0 (Lib.countB s ⟨#[46]⟩) s = B at hd hl ⊢
  have hB : B = (splt s.data.toList).map strOf := by
    rw [← hd, List.map_map]
    conv => lhs; rw [← List.map_id B]
    exact List.map_congr_left fun x _ => (strOf_toList x).symm
  unfold Read
  rw [← hB]
  refine ⟨_, _, _, rfl, by rw [← hl, hB, List.length_map], Nat.le_refl _, by unfold maxLen; omega, ?_, (Below.refl _ _).alloc (Nat.le_refl _) _⟩
  exact Rds.of_spot (by rw [List.length_map, hl]) (by simp) (fun j hj => by
    rw [Nat.zero_add, World.cell?_alloc_mark]
    simp)
theorem info_str : (Tryd.prog.info? 9).map (fun i => (i.zero, i.size, i.bytes)) = some (some (.string ByteArray.empty), 1, 16) := by kernel_rfl
theorem ext_mid (s : ByteArray) (a b : Nat) : s.extract a b = strOf ((s.data.toList.take b).drop a) := by
  apply ByteArray.ext
  apply Array.ext'
  rw [ByteArray.data_extract]
  simp only [strOf, Array.toList_extract, List.extract_eq_take_drop]
  rw [List.drop_take]
/-- The call's own slice of these texts. -/
def OwnedL (w : World) (l : List (List UInt8)) (e : Ending) (w' : World) : Prop := ∃ v, e = .returned v ∧ w'.ownsRow w.heap.size 9 1 v l.length ((l.map strOf).map Value.string) ∧ Below w.heap.size w w'
set_option maxRecDepth 100000 in
set_option maxHeartbeats 4000000 in
theorem refParts_any (s : ByteArray) (w : World) (hs : s.size ≤ 900000) :
    Calls Tryd.prog 77 #[.string s, .int .u8 46] w (OwnedL w (splt s.data.toList)) := by
  have hsl : s.data.toList.length = s.size := Array.length_toList
  obtain ⟨i0, hi, hz0, hz1, hz2⟩ := info_parts info_str
  have HSL := hid hsl
  clear hsl
  obtain ⟨R, hR⟩ : ∃ R, R = splt s.data.toList := ⟨_, rfl⟩
  have hrl : R.length ≤ s.size + 1 := by have := length_splt s.data.toList; rw [← hR, HSL.out] at this; exact this
  rw [← hR]
  have HR := hid hR
  clear hR
  go_enter Tryd.func77, Tryd.ntmps77
  go_wp2
  go_loopw [5, 6, 7, 11] (fun vo vf _ vk wr => ∃ (k f : Nat) (xs : List (List UInt8)), k ≤ s.size + 1 ∧ f ≤ k ∧ xs.length ≤ k ∧ vk = .int .i64 (k : Int) ∧ vf = .int .i64 (f : Int) ∧ Hid (wr.ownsRow w.heap.size 9 1 vo xs.length ((xs.map strOf).map Value.string)) ∧ Hid (Below w.heap.size w wr) ∧ Hid (k ≤ s.size → splt (s.data.toList.take k) = xs ++ [(s.data.toList.take k).drop f]) ∧ Hid (k = s.size + 1 → R = xs)) (fun _ _ _ vk _ => s.size + 1 - (intOf vk).toNat)
  case atStart => exact ⟨0, 0, [], Nat.zero_le _, Nat.le_refl _, Nat.le_refl _, rfl, rfl, World.ownsRow_nil _ _ _ _, Below.refl _ _, fun _ => rfl, fun h => absurd h (by omega)⟩
  case round =>
    obtain ⟨k, f, xs, hk1, hfk, hxk, rfl, rfl, HO, HB, HW, HE⟩ := hrel
    obtain ⟨m, hm⟩ : ∃ m, m = xs.length := ⟨_, rfl⟩
    rw [← hm] at hxk
    have HM := hid hm
    clear hm
    by_cases hlt : k < s.size + 1
    · have HW2 : Hid (splt (s.data.toList.take k) = xs ++ [(s.data.toList.take k).drop f]) := HW.out (by omega)
      clear HW HE
      obtain ⟨X, hX⟩ : ∃ X, X = s.extract f k := ⟨_, rfl⟩
      have hxe : s.extract f k = X := hX.symm
      have HX : Hid (X = strOf ((s.data.toList.take k).drop f)) := by show _ = _; rw [hX, ext_mid]
      have hfi : (f : Int) ≤ (k : Int) := by omega
      clear hX
      by_cases hks : k < s.size
      · obtain ⟨c, hc⟩ : ∃ c, s[k] = c := ⟨_, rfl⟩
        have hkl : k < s.data.toList.length := by rw [HSL.out]; exact hks
        have hcl : s.data.toList[k] = c := hc
        have HS : Hid (s.data.toList.take (k + 1) = s.data.toList.take k ++ [c]) := by rw [← hcl]; exact take_snoc _ k hkl
        have HTL : Hid ((s.data.toList.take k).length = k) := by show _ = _; rw [List.length_take, HSL.out]; omega
        have q1 : ((k : Int) == (s.size : Int)) = false := by simp; omega
        have hki : (k : Int) ≤ (s.size : Int) := by omega
        clear hkl hcl
        by_cases h46 : c = 46
        · have q2 : ((c.toNat : Int) == 46) = true := by rw [h46]; rfl
          have HN : Hid (splt (s.data.toList.take (k + 1)) = (xs ++ [(s.data.toList.take k).drop f]) ++ [(s.data.toList.take (k + 1)).drop (k + 1)]) := by
            show _ = _
            rw [HS.out, h46, splt_snoc_dot, HW2.out]
            congr 2
            rw [List.drop_eq_nil_of_le]
            rw [List.length_append, HTL.out]
            exact Nat.le_refl _
          have HFE : Hid (k + 1 = s.size + 1 → R = xs ++ [(s.data.toList.take k).drop f]) := fun h => absurd h (by omega)
          have hown := HO.out
          have hbel := HB.out
          rw [← HM.out] at hown
          clear h46
          go_wp2_with (at_builtin; refine wpList_app rfl _ _ 66 rfl w.heap.size 9 i0 (.string ByteArray.empty) 16 Tryd.underlying66 hi hz0 hz1 hz2 rfl _ m _ rfl hown hbel hbel.size [.string X] 1 rfl rfl (by intro u hu; simp at hu; subst hu; rfl) (by unfold maxLen; omega) (by omega) ?_)
          intro v7 w7 hown7 hbel7
          have HX7 : Hid (w7.ownsRow w.heap.size 9 1 v7 (xs ++ [(s.data.toList.take k).drop f]).length (((xs ++ [(s.data.toList.take k).drop f]).map strOf).map Value.string)) := by
            show World.ownsRow _ _ _ _ _ _ _
            rw [List.length_append, List.map_append, List.map_append, ← HM.out]
            show World.ownsRow _ _ _ _ _ (m + 1) (_ ++ [Value.string (strOf ((s.data.toList.take k).drop f))])
            rw [← HX.out]
            simpa using hown7
          have HY := hid hbel7
          clear hown hbel hown7 hbel7
          go_wp2
          go_roundw
          case rel => exact ⟨k + 1, k + 1, xs ++ [(s.data.toList.take k).drop f], by omega, Nat.le_refl _, by rw [List.length_append, ← HM.out]; show m + 1 ≤ _; omega, by go_num, by go_num, HX7, HY, fun _ => HN.out, HFE⟩
          case measure => simp [intOf]; omega
        · have q2 : ((c.toNat : Int) == 46) = false := ne_u8 (d := 46) h46
          have HN : Hid (splt (s.data.toList.take (k + 1)) = xs ++ [(s.data.toList.take (k + 1)).drop f]) := by
            show _ = _
            obtain ⟨xs', x', e1, e2⟩ := splt_snoc_other c h46 (s.data.toList.take k)
            have h3 := HW2.out.symm.trans e1
            obtain ⟨h4, h5⟩ := List.append_inj' h3 rfl
            have h5 : (s.data.toList.take k).drop f = x' := by simpa using h5
            rw [HS.out, e2, ← h4, ← h5, List.drop_append_of_le_length (by rw [HTL.out]; exact hfk)]
          have HFE : Hid (k + 1 = s.size + 1 → R = xs) := fun h => absurd h (by omega)
          clear h46
          go_wp2
          go_roundw
          case rel => exact ⟨k + 1, f, xs, by omega, by omega, by rw [← HM.out]; omega, by go_num, rfl, HO, HB, fun _ => HN.out, HFE⟩
          case measure => simp [intOf]; omega
      · have hke : k = s.size := by omega
        have q1 : ((k : Int) == (s.size : Int)) = true := by simp; omega
        have hki : (k : Int) ≤ (s.size : Int) := by omega
        have HFE : Hid (k + 1 = s.size + 1 → R = xs ++ [(s.data.toList.take k).drop f]) := by
          intro _
          rw [← HW2.out, HR.out, List.take_of_length_le (by rw [HSL.out, hke]; exact Nat.le_refl _)]
        have HFW : Hid (k + 1 ≤ s.size → splt (s.data.toList.take (k + 1)) = (xs ++ [(s.data.toList.take k).drop f]) ++ [(s.data.toList.take (k + 1)).drop (k + 1)]) := fun h => absurd h (by omega)
        have hown := HO.out
        have hbel := HB.out
        rw [← HM.out] at hown
        clear hke
        go_wp2_with (at_builtin; refine wpList_app rfl _ _ 66 rfl w.heap.size 9 i0 (.string ByteArray.empty) 16 Tryd.underlying66 hi hz0 hz1 hz2 rfl _ m _ rfl hown hbel hbel.size [.string X] 1 rfl rfl (by intro u hu; simp at hu; subst hu; rfl) (by unfold maxLen; omega) (by omega) ?_)
        intro v7 w7 hown7 hbel7
        have HX7 : Hid (w7.ownsRow w.heap.size 9 1 v7 (xs ++ [(s.data.toList.take k).drop f]).length (((xs ++ [(s.data.toList.take k).drop f]).map strOf).map Value.string)) := by
          show World.ownsRow _ _ _ _ _ _ _
          rw [List.length_append, List.map_append, List.map_append, ← HM.out]
          show World.ownsRow _ _ _ _ _ (m + 1) (_ ++ [Value.string (strOf ((s.data.toList.take k).drop f))])
          rw [← HX.out]
          simpa using hown7
        have HY := hid hbel7
        clear hown hbel hown7 hbel7
        go_wp2
        go_roundw
        case rel => exact ⟨k + 1, k + 1, xs ++ [(s.data.toList.take k).drop f], by omega, Nat.le_refl _, by rw [List.length_append, ← HM.out]; show m + 1 ≤ _; omega, by go_num, by go_num, HX7, HY, HFW, HFE⟩
        case measure => simp [intOf]; omega
    · obtain rfl : k = s.size + 1 := by omega
      obtain ⟨vA, vc, rfl, _, _, _⟩ := owns_form HO.out
      have HXX : Hid (OwnedL w R (.returned (.slice vA xs.length vc)) wr) := by
        rw [HE.out rfl]
        exact ⟨_, rfl, HO.out, HB.out⟩
      go_wp2
      go_ret
      exact HXX.out
set_option maxRecDepth 100000 in
set_option maxHeartbeats 4000000 in
theorem refparts_any (s : ByteArray) (w : World) (hs : s.size ≤ 900000) : Calls Tryd.prog 60 #[.string s] w (Read w (prt (splt s.data.toList))) := by
  have hsl : s.data.toList.length = s.size := Array.length_toList
  obtain ⟨R, hR⟩ : ∃ R, R = splt s.data.toList := ⟨_, rfl⟩
  have hrl : R.length ≤ s.size + 1 := by have := length_splt s.data.toList; rw [← hR, hsl] at this; exact this
  have hrp : 0 < R.length := by rw [hR]; exact List.length_pos_iff.2 (splt_ne _)
  obtain ⟨n, hn⟩ : ∃ n, n = R.length := ⟨_, rfl⟩
  rw [← hR]
  have HR := hid hR
  rw [← hn] at hrl hrp
  have HN := hid hn
  clear hR hsl hn
  go_enter Tryd.func60, Tryd.ntmps60
  go_wp2_with fail
  refine (refParts_any s _ hs).mono ?_
  rw [← HR.out]
  rintro e w2 ⟨v2, rfl, hown2, hb2⟩
  rw [← HN.out] at hown2
  obtain ⟨A, c, rfl, hnc, hcm, hrd⟩ := owns_form hown2
  have HRD := hid hrd
  have HB := hid hb2
  have HCM := hid hcm
  clear hown2 hrd hb2
  unfold maxLen at hcm
  obtain ⟨g, off, rfl, hg, hcell⟩ := HRD.out.spot hrp
  by_cases h1 : 1 < n
  · have hcl := hcell (n - 1) (by rw [List.length_map, List.length_map, ← HN.out]; omega)
    rw [List.getElem_map, List.getElem_map] at hcl
    obtain ⟨x, hx⟩ : ∃ x, x = R[n - 1]'(by rw [← HN.out]; omega) := ⟨_, rfl⟩
    rw [← hx] at hcl
    have HLAST : Hid (R.getLast? = some x) := by
      show _ = _
      rw [List.getLast?_eq_getElem?, ← HN.out, hx, List.getElem?_eq_getElem]
    have hni : ((n : Int) - 1).toNat = n - 1 := by omega
    have hi1 : (1 : Int) < (n : Int) := by omega
    have hnm : off + ((n : Int) - 1).toNat = off + (n - 1) := by omega
    obtain ⟨X, hX⟩ : ∃ X, X = strOf x := ⟨_, rfl⟩
    rw [← hX] at hcl
    clear hcell hx
    by_cases hxe : x = []
    · have hem : (X.toList == []) = true := by rw [hX, hxe]; unfold strOf; rw [ByteArray.toList_mk]; rfl
      have hem2 : X.toList = [] := by rw [hX, hxe]; unfold strOf; rw [ByteArray.toList_mk]
      have HP : Hid (prt R = R.take (n - 1)) := by show _ = _; unfold prt; rw [if_pos ⟨by rw [← HN.out]; exact h1, by rw [HLAST.out, hxe]⟩, ← HN.out]
      have HX : Hid (Read w (prt R) (.returned (.slice (some ⟨g, off, none⟩) (n - 1) c)) w2) := by
        rw [HP.out]
        refine ⟨_, _, _, rfl, by rw [List.length_take, ← HN.out]; omega, by omega, HCM.out, ?_, HB.out⟩
        have := HRD.out.upto (n - 1) (by omega)
        rw [List.map_take, List.map_take]
        exact this
      clear hxe hX
      go_wp2
      go_ret
      first | exact HX.out | (have := HX.out; simpa [hni] using this)
    · have hem : (X.toList == []) = false := by rw [hX]; unfold strOf; rw [ByteArray.toList_mk]; simpa using hxe
      have hem2 : X.toList.isEmpty = false := by rw [hX]; unfold strOf; rw [ByteArray.toList_mk]; simpa using hxe
      have HP : Hid (prt R = R) := by show _ = _; unfold prt; rw [if_neg (fun h => hxe (by have := h.2; rw [HLAST.out] at this; simpa using this))]
      have HX : Hid (Read w (prt R) (.returned (.slice (some ⟨g, off, none⟩) n c)) w2) := by
        rw [HP.out]
        exact ⟨_, _, _, rfl, HN.out, hnc, HCM.out, HRD.out, HB.out⟩
      clear hxe hX
      go_wp2
      go_ret
      exact HX.out
  · have HP : Hid (prt R = R) := by show _ = _; unfold prt; rw [if_neg (fun h => h1 (by rw [HN.out]; exact h.1))]
    have hi1 : ¬ (1 : Int) < (n : Int) := by omega
    have HX : Hid (Read w (prt R) (.returned (.slice (some ⟨g, off, none⟩) n c)) w2) := by
      rw [HP.out]
      exact ⟨_, _, _, rfl, HN.out, hnc, HCM.out, HRD.out, HB.out⟩
    clear hcell
    go_wp2
    go_ret
    exact HX.out
end Go.Proofs.YtnmkkejodkjjiaaDoor.QudC
