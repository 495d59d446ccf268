/- Types: a text that is split. -/
import Derived.Test.YtlbgcibdpeaomaaDoorMimP
import Derived.Test.YtlbgcibdpeaomaaDoorIdxM
import Derived.BigQuiet
import Derived.Deep.QuietTactic
namespace Go.Proofs.YtlbgcibdpeaomaaDoor.MimA
open Go.RowKit Go.Proofs.YtlbgcibdpeaomaaDoor.Base Go.Proofs.YtlbgcibdpeaomaaDoor.Base2 Go.Proofs.YtlbgcibdpeaomaaDoor.MimP

theorem ext_take (s : ByteArray) (k : Nat) : (s.extract 0 k).data.toList = s.data.toList.take k := by
  rw [ByteArray.data_extract]
  simp [Array.toList_extract, List.extract_eq_take_drop]
theorem ext_drop (s : ByteArray) (k : Nat) : (s.extract k s.size).data.toList = s.data.toList.drop k := by
  have hl : s.data.toList.length = s.size := Array.length_toList
  rw [ByteArray.data_extract]
  simp only [Array.toList_extract, List.extract_eq_take_drop]
  rw [List.take_of_length_le (by rw [List.length_drop]; omega)]
set_option linter.unusedSimpArgs false in
set_option maxHeartbeats 1000000 in
theorem split_gen (s stops : ByteArray) (st : List UInt8) (w : World) (hs : s.size ≤ 1073741824) (hI : Calls Tryd.prog 44 #[.string s, .string stops] w fun e w' => e = .returned (.int .i64 (Lib.indexAny s.data.toList st)) ∧ Below w.heap.size w w') :
    Calls Tryd.prog 22 #[.string s, .string stops] w fun e w' => e = .returned (.tuple #[.string (strOf (tw st s.data.toList)), .string (strOf (dw st s.data.toList))]) ∧ Below w.heap.size w w' := by
  have hl : s.data.toList.length = s.size := Array.length_toList
  have hlen := tw_len st s.data.toList
  obtain ⟨n, hn⟩ : ∃ n, n = (tw st s.data.toList).length := ⟨_, rfl⟩
  rw [index_spl, ← hn] at hI
  by_cases hd : dw st s.data.toList = []
  · rw [if_pos hd] at hI
    have ht : tw st s.data.toList = s.data.toList := by
      have := tw_dw st s.data.toList
      rwa [hd, List.append_nil] at this
    have HI := hid hI
    have HE : Hid (strOf (tw st s.data.toList) = s ∧ strOf (dw st s.data.toList) = ⟨#[]⟩) := by
      refine ⟨?_, ?_⟩
      · rw [ht, strOf_toList]
      · rw [hd]; rfl
    clear hI ht hd hn hl hlen
    go_enter Tryd.func22, Tryd.ntmps22
    go_wp2_with fail
    refine (HI.out).mono ?_
    rintro e w2 ⟨rfl, hb2⟩
    have HB2 := hid hb2
    clear hb2
    go_wp2
    go_ret2
    exact ⟨by rw [HE.out.1, HE.out.2]; rfl, HB2.out⟩
  · rw [if_neg hd] at hI
    have HI := hid hI
    have hns : n ≤ s.size := by omega
    have HE : Hid (strOf (tw st s.data.toList) = s.extract 0 n ∧ strOf (dw st s.data.toList) = s.extract n s.size) := by
      refine ⟨?_, ?_⟩
      · rw [tw_take, ← hn, ← ext_take, strOf_toList]
      · rw [dw_drop, ← hn, ← ext_drop, strOf_toList]
    have h0 : ¬ (n : Int) < 0 := by omega
    have h1 : (n : Int) ≤ (s.size : Int) := by omega
    clear hI hd hn hl hlen
    go_enter Tryd.func22, Tryd.ntmps22
    go_wp2_with fail
    refine (HI.out).mono ?_
    rintro e w2 ⟨rfl, hb2⟩
    have HB2 := hid hb2
    clear hb2
    go_wp2_with fail
    go_quiet (fail)
    go_wp2
    go_ret2
    exact ⟨by rw [HE.out.1, HE.out.2]; rfl, below_drewN HB2.out _⟩
theorem split47 (s : ByteArray) (w : World) (hs : s.size ≤ 1073741824) : Calls Tryd.prog 22 #[.string s, .string ⟨#[47]⟩] w fun e w' => e = .returned (.tuple #[.string (strOf (tw [47] s.data.toList)), .string (strOf (dw [47] s.data.toList))]) ∧ Below w.heap.size w w' :=
  split_gen s ⟨#[47]⟩ [47] w hs ((Tryd.strings_IndexAny_one s ⟨#[47]⟩ w rfl (by intro j b h; match j, h with | 0, h => (simp at h; subst h; decide))).mono fun e w' ⟨h1, h2⟩ => ⟨h1, h2 ▸ Below.refl _ _⟩)
theorem split59 (s : ByteArray) (w : World) (hs : s.size ≤ 1073741824) : Calls Tryd.prog 22 #[.string s, .string ⟨#[59]⟩] w fun e w' => e = .returned (.tuple #[.string (strOf (tw [59] s.data.toList)), .string (strOf (dw [59] s.data.toList))]) ∧ Below w.heap.size w w' :=
  split_gen s ⟨#[59]⟩ [59] w hs ((Tryd.strings_IndexAny_one s ⟨#[59]⟩ w rfl (by intro j b h; match j, h with | 0, h => (simp at h; subst h; decide))).mono fun e w' ⟨h1, h2⟩ => ⟨h1, h2 ▸ Below.refl _ _⟩)
theorem split2 (s : ByteArray) (w : World) (hs : s.size ≤ 1073741824) : Calls Tryd.prog 22 #[.string s, .string ⟨#[59, 61]⟩] w fun e w' => e = .returned (.tuple #[.string (strOf (tw [59, 61] s.data.toList)), .string (strOf (dw [59, 61] s.data.toList))]) ∧ Below w.heap.size w w' := by
  refine split_gen s ⟨#[59, 61]⟩ [59, 61] w hs ?_
  by_cases h8 : 8 < s.size
  · exact Tryd.strings_IndexAny_long s ⟨#[59, 61]⟩ w (Nat.le_refl _) h8 (by omega) (by decide) (by intro j b h; match j, h with | 0, h => (simp at h; subst h; decide) | 1, h => (simp at h; subst h; decide))
  · exact IdxM.short_any s w (by omega)
end Go.Proofs.YtlbgcibdpeaomaaDoor.MimA
