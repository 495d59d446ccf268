/- strings.Split at a slash, at a backslash; the document's parts at a slash; strings.Contains at one byte. -/
import Derived.Test.YtleecmapaihhmaaDoorSlsP
import Derived.Test.YtleecmapaihhmaaDoorShelf
import Derived.Test.YtleecmapaihhmaaDoorSplG
set_option linter.unusedSimpArgs false
set_option linter.unusedVariables false
namespace Go.Proofs.YtleecmapaihhmaaDoor.Sls
open Go.RowKit Go.Proofs.YtleecmapaihhmaaDoor.Base Go.Proofs.YtleecmapaihhmaaDoor.Base2 Go.Proofs.YtleecmapaihhmaaDoor.Base3 Go.Proofs.YtleecmapaihhmaaDoor.SlsP
open Go.Proofs.YtleecmapaihhmaaDoor.Spl (Max split_gen)
theorem take_snoc {α : Type} (l : List α) (k : Nat) (h : k < l.length) : l.take (k + 1) = l.take k ++ [l[k]] := List.take_succ_eq_append_getElem h
theorem ne_u8 {c d : UInt8} (h : c ≠ d) : ((c.toNat : Int) == (d.toNat : Int)) = false := by
  have : c.toNat ≠ d.toNat := fun e => h (UInt8.toNat_inj.1 e)
  simp; omega
theorem info_str : (Tryd.prog.info? 9).map (fun i => (i.zero, i.size, i.bytes)) = some (some (.string ByteArray.empty), 1, 16) := by kernel_rfl
theorem ext_mid (s : ByteArray) (a b : Nat) : s.extract a b = strOf ((s.data.toList.take b).drop a) := by
  apply ByteArray.ext
  apply Array.ext'
  rw [ByteArray.data_extract]
  simp only [strOf, Array.toList_extract, List.extract_eq_take_drop]
  rw [List.drop_take]
/-- The call's own slice of these texts. -/
def OwnedL (w : World) (l : List (List UInt8)) (e : Ending) (w' : World) : Prop := ∃ v, e = .returned v ∧ w'.ownsRow w.heap.size 9 1 v l.length ((l.map strOf).map Value.string) ∧ Below w.heap.size w w'
theorem split47_any (s : ByteArray) (w : World) (hs : s.size ≤ 1073741824) (hM : Max w) : Calls Tryd.prog 18 #[.string s, .string ⟨#[47]⟩] w (Spl.Read w (spl 47 s.data.toList)) :=
  split_gen 47 (spl 47) rfl (spl_at 47) (spl_not 47) s w hs hM
theorem split92_any (s : ByteArray) (w : World) (hs : s.size ≤ 1073741824) (hM : Max w) : Calls Tryd.prog 18 #[.string s, .string ⟨#[92]⟩] w (Spl.Read w (spl 92 s.data.toList)) :=
  split_gen 92 (spl 92) rfl (spl_at 92) (spl_not 92) s w hs hM
theorem has1 (b : UInt8) (L : List UInt8) : decide (0 ≤ Lib.indexByte L b) = L.contains b := by
  have hge := Lib.indexByte_ge L b
  by_cases h : Lib.indexByte L b = -1
  · have hn := Lib.indexByte_none h
    rw [decide_eq_false (by omega)]
    cases e : L.contains b with
    | false => rfl
    | true =>
      have hm : b ∈ L := by simpa using e
      obtain ⟨j, hj, he⟩ := List.getElem_of_mem hm
      exact absurd (List.getElem?_eq_some_iff.2 ⟨hj, he⟩) (hn j)
  · obtain ⟨o, ho⟩ : ∃ o : Nat, Lib.indexByte L b = o := ⟨(Lib.indexByte L b).toNat, by omega⟩
    have hs := (Lib.indexByte_some ho).1
    rw [decide_eq_true (by omega)]
    obtain ⟨hj, he⟩ := List.getElem?_eq_some_iff.1 hs
    symm
    simpa using (show b ∈ L by rw [← he]; exact List.getElem_mem _)
theorem contains1_any (b : UInt8) (s : ByteArray) (w : World) : Calls Tryd.prog 23 #[.string s, .string ⟨#[b]⟩] w fun e w' => e = .returned (.bool (s.data.toList.contains b)) ∧ w = w' := by
  refine (Tryd.strings_Contains_one s b w).mono ?_
  rintro e w' ⟨rfl, rfl⟩
  exact ⟨ret_bool (has1 b _), rfl⟩
set_option maxRecDepth 100000 in
set_option maxHeartbeats 4000000 in
theorem refParts47_any (s : ByteArray) (w : World) (hs : s.size ≤ 900000) :
    Calls Tryd.prog 20 #[.string s, .int .u8 47] w (OwnedL w (spl 47 s.data.toList)) := by
  have hsl : s.data.toList.length = s.size := Array.length_toList
  obtain ⟨i0, hi, hz0, hz1, hz2⟩ := info_parts info_str
  have HSL := hid hsl
  clear hsl
  obtain ⟨R, hR⟩ : ∃ R, R = spl 47 s.data.toList := ⟨_, rfl⟩
  have hrl : R.length ≤ s.size + 1 := by have := length_spl 47 s.data.toList; rw [← hR, HSL.out] at this; exact this
  rw [← hR]
  have HR := hid hR
  clear hR
  go_enter Tryd.func20, Tryd.ntmps20
  go_wp2
  go_loopw [5, 6, 7, 11] (fun vo vf _ vk wr => ∃ (k f : Nat) (xs : List (List UInt8)), k ≤ s.size + 1 ∧ f ≤ k ∧ xs.length ≤ k ∧ vk = .int .i64 (k : Int) ∧ vf = .int .i64 (f : Int) ∧ Hid (wr.ownsRow w.heap.size 9 1 vo xs.length ((xs.map strOf).map Value.string)) ∧ Hid (Below w.heap.size w wr) ∧ Hid (k ≤ s.size → spl 47 (s.data.toList.take k) = xs ++ [(s.data.toList.take k).drop f]) ∧ Hid (k = s.size + 1 → R = xs)) (fun _ _ _ vk _ => s.size + 1 - (intOf vk).toNat)
  case atStart => exact ⟨0, 0, [], Nat.zero_le _, Nat.le_refl _, Nat.le_refl _, rfl, rfl, World.ownsRow_nil _ _ _ _, Below.refl _ _, fun _ => rfl, fun h => absurd h (by omega)⟩
  case round =>
    obtain ⟨k, f, xs, hk1, hfk, hxk, rfl, rfl, HO, HB, HW, HE⟩ := hrel
    obtain ⟨m, hm⟩ : ∃ m, m = xs.length := ⟨_, rfl⟩
    rw [← hm] at hxk
    have HM := hid hm
    clear hm
    by_cases hlt : k < s.size + 1
    · have HW2 : Hid (spl 47 (s.data.toList.take k) = xs ++ [(s.data.toList.take k).drop f]) := HW.out (by omega)
      clear HW HE
      obtain ⟨X, hX⟩ : ∃ X, X = s.extract f k := ⟨_, rfl⟩
      have hxe : s.extract f k = X := hX.symm
      have HX : Hid (X = strOf ((s.data.toList.take k).drop f)) := by show _ = _; rw [hX, ext_mid]
      have hfi : (f : Int) ≤ (k : Int) := by omega
      clear hX
      by_cases hks : k < s.size
      · obtain ⟨c, hc⟩ : ∃ c, s[k] = c := ⟨_, rfl⟩
        have hkl : k < s.data.toList.length := by rw [HSL.out]; exact hks
        have hcl : s.data.toList[k] = c := hc
        have HS : Hid (s.data.toList.take (k + 1) = s.data.toList.take k ++ [c]) := by rw [← hcl]; exact take_snoc _ k hkl
        have HTL : Hid ((s.data.toList.take k).length = k) := by show _ = _; rw [List.length_take, HSL.out]; omega
        have q1 : ((k : Int) == (s.size : Int)) = false := by simp; omega
        have hki : (k : Int) ≤ (s.size : Int) := by omega
        clear hkl hcl
        by_cases h47 : c = 47
        · have q2 : ((c.toNat : Int) == 47) = true := by rw [h47]; rfl
          have HN : Hid (spl 47 (s.data.toList.take (k + 1)) = (xs ++ [(s.data.toList.take k).drop f]) ++ [(s.data.toList.take (k + 1)).drop (k + 1)]) := by
            show _ = _
            rw [HS.out, h47, spl_snoc_at 47, HW2.out]
            congr 2
            rw [List.drop_eq_nil_of_le]
            rw [List.length_append, HTL.out]
            exact Nat.le_refl _
          have HFE : Hid (k + 1 = s.size + 1 → R = xs ++ [(s.data.toList.take k).drop f]) := fun h => absurd h (by omega)
          have hown := HO.out
          have hbel := HB.out
          rw [← HM.out] at hown
          clear h47
          go_wp2_with (at_builtin; refine wpList_app rfl _ _ 23 rfl w.heap.size 9 i0 (.string ByteArray.empty) 16 Tryd.underlying23 hi hz0 hz1 hz2 rfl _ m _ rfl hown hbel hbel.size [.string X] 1 rfl rfl (by intro u hu; simp at hu; subst hu; rfl) (by unfold maxLen; omega) (by omega) ?_)
          intro v7 w7 hown7 hbel7
          have HX7 : Hid (w7.ownsRow w.heap.size 9 1 v7 (xs ++ [(s.data.toList.take k).drop f]).length (((xs ++ [(s.data.toList.take k).drop f]).map strOf).map Value.string)) := by
            show World.ownsRow _ _ _ _ _ _ _
            rw [List.length_append, List.map_append, List.map_append, ← HM.out]
            show World.ownsRow _ _ _ _ _ (m + 1) (_ ++ [Value.string (strOf ((s.data.toList.take k).drop f))])
            rw [← HX.out]
            simpa using hown7
          have HY := hid hbel7
          clear hown hbel hown7 hbel7
          go_wp2
          go_roundw
          case rel => exact ⟨k + 1, k + 1, xs ++ [(s.data.toList.take k).drop f], by omega, Nat.le_refl _, by rw [List.length_append, ← HM.out]; show m + 1 ≤ _; omega, by go_num, by go_num, HX7, HY, fun _ => HN.out, HFE⟩
          case measure => simp [intOf]; omega
        · have q2 : ((c.toNat : Int) == 47) = false := ne_u8 (d := 47) h47
          have HN : Hid (spl 47 (s.data.toList.take (k + 1)) = xs ++ [(s.data.toList.take (k + 1)).drop f]) := by
            show _ = _
            obtain ⟨xs', x', e1, e2⟩ := spl_snoc_other 47 c h47 (s.data.toList.take k)
            have h3 := HW2.out.symm.trans e1
            obtain ⟨h4, h5⟩ := List.append_inj' h3 rfl
            have h5 : (s.data.toList.take k).drop f = x' := by simpa using h5
            rw [HS.out, e2, ← h4, ← h5, List.drop_append_of_le_length (by rw [HTL.out]; exact hfk)]
          have HFE : Hid (k + 1 = s.size + 1 → R = xs) := fun h => absurd h (by omega)
          clear h47
          go_wp2
          go_roundw
          case rel => exact ⟨k + 1, f, xs, by omega, by omega, by rw [← HM.out]; omega, by go_num, rfl, HO, HB, fun _ => HN.out, HFE⟩
          case measure => simp [intOf]; omega
      · have hke : k = s.size := by omega
        have q1 : ((k : Int) == (s.size : Int)) = true := by simp; omega
        have hki : (k : Int) ≤ (s.size : Int) := by omega
        have HFE : Hid (k + 1 = s.size + 1 → R = xs ++ [(s.data.toList.take k).drop f]) := by
          intro _
          rw [← HW2.out, HR.out, List.take_of_length_le (by rw [HSL.out, hke]; exact Nat.le_refl _)]
        have HFW : Hid (k + 1 ≤ s.size → spl 47 (s.data.toList.take (k + 1)) = (xs ++ [(s.data.toList.take k).drop f]) ++ [(s.data.toList.take (k + 1)).drop (k + 1)]) := fun h => absurd h (by omega)
        have hown := HO.out
        have hbel := HB.out
        rw [← HM.out] at hown
        clear hke
        go_wp2_with (at_builtin; refine wpList_app rfl _ _ 23 rfl w.heap.size 9 i0 (.string ByteArray.empty) 16 Tryd.underlying23 hi hz0 hz1 hz2 rfl _ m _ rfl hown hbel hbel.size [.string X] 1 rfl rfl (by intro u hu; simp at hu; subst hu; rfl) (by unfold maxLen; omega) (by omega) ?_)
        intro v7 w7 hown7 hbel7
        have HX7 : Hid (w7.ownsRow w.heap.size 9 1 v7 (xs ++ [(s.data.toList.take k).drop f]).length (((xs ++ [(s.data.toList.take k).drop f]).map strOf).map Value.string)) := by
          show World.ownsRow _ _ _ _ _ _ _
          rw [List.length_append, List.map_append, List.map_append, ← HM.out]
          show World.ownsRow _ _ _ _ _ (m + 1) (_ ++ [Value.string (strOf ((s.data.toList.take k).drop f))])
          rw [← HX.out]
          simpa using hown7
        have HY := hid hbel7
        clear hown hbel hown7 hbel7
        go_wp2
        go_roundw
        case rel => exact ⟨k + 1, k + 1, xs ++ [(s.data.toList.take k).drop f], by omega, Nat.le_refl _, by rw [List.length_append, ← HM.out]; show m + 1 ≤ _; omega, by go_num, by go_num, HX7, HY, HFW, HFE⟩
        case measure => simp [intOf]; omega
    · obtain rfl : k = s.size + 1 := by omega
      obtain ⟨vA, vc, rfl, _, _, _⟩ := owns_form HO.out
      have HXX : Hid (OwnedL w R (.returned (.slice vA xs.length vc)) wr) := by
        rw [HE.out rfl]
        exact ⟨_, rfl, HO.out, HB.out⟩
      go_wp2
      go_ret
      exact HXX.out
end Go.Proofs.YtleecmapaihhmaaDoor.Sls
