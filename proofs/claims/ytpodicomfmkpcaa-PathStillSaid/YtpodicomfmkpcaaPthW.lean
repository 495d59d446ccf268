/- Paths: the laws' 'few', and 'awake', which answers true. -/
import Derived.Test.YtpodicomfmkpcaaPthM
namespace Go.Proofs.Ytpodicomfmkpcaa.PthW
open Go.RowKit Go.Proofs.Ytpodicomfmkpcaa.Base Go.Proofs.Ytpodicomfmkpcaa.Base2 Go.Proofs.Ytpodicomfmkpcaa.PthP Go.Proofs.Ytpodicomfmkpcaa.PthA Go.Proofs.Ytpodicomfmkpcaa.PthB Go.Proofs.Ytpodicomfmkpcaa.PthG Go.Proofs.Ytpodicomfmkpcaa.PthJ Go.Proofs.Ytpodicomfmkpcaa.PthL Go.Proofs.Ytpodicomfmkpcaa.PthM

def fewB (l : List ByteArray) : Bool := l.all (fun s => decide (s.size ≤ 100)) && decide (l.length ≤ 20)
theorem few_any (A : Option Addr) (n cap : Nat) (l : List ByteArray) (w : World) (hR : Rds w A n (l.map Value.string)) (hc : n ≤ cap) (hm : cap ≤ maxLen) :
    Calls Try.prog 18 #[.slice A n cap] w fun e w' => e = .returned (.bool (fewB l)) ∧ w = w' := by
  unfold maxLen at hm
  have hn : l.length = n := by rw [← hR.1, List.length_map]
  have HN := hid hn
  have HR := hid hR
  clear hR hn
  go_enter Try.func18, Try.ntmps18
  go_wp2
  go_loopw [3, 6] (fun _ vk wr => ∃ k : Nat, k ≤ n ∧ vk = .int .i64 (k : Int) ∧ wr = w ∧ Hid ((l.take k).all (fun s => decide (s.size ≤ 100)) = true)) (fun _ vk _ => n - (intOf vk).toNat)
  case atStart => exact ⟨0, Nat.zero_le _, rfl, rfl, rfl⟩
  case round =>
    obtain ⟨k, hk, rfl, rfl, HT⟩ := hrel
    by_cases hlt : k < n
    · have hkl : k < l.length := by rw [HN.out]; exact hlt
      obtain ⟨g, off, rfl, hg, hcell⟩ := HR.out.spot (by omega)
      have hc1 := hcell k (by rw [List.length_map]; exact hkl)
      rw [List.getElem_map] at hc1
      obtain ⟨s, hs⟩ : ∃ s, s = l[k] := ⟨_, rfl⟩
      have HS : Hid (l.take (k + 1) = l.take k ++ [s]) := by rw [hs]; exact take_snoc l k hkl
      have HM : Hid (s ∈ l) := by show _ ∈ _; rw [hs]; exact List.getElem_mem _
      rw [← hs] at hc1
      clear hs hcell hkl
      by_cases h100 : s.size ≤ 100
      · go_wp2
        go_roundw
        case rel => exact ⟨k + 1, by omega, by go_num, by first | rfl | trivial, by show _ = _; rw [HS.out, List.all_append, HT.out, List.all_cons, decide_eq_true h100]; rfl⟩
        case measure => simp [intOf]; omega
      · have HE : Hid (fewB l = false) := by
          show _ = _
          unfold fewB
          have : l.all (fun s => decide (s.size ≤ 100)) = false := by
            rw [List.all_eq_false]
            exact ⟨s, HM.out, by simpa using h100⟩
          rw [this]; rfl
        go_wp2
        go_ret
        exact ⟨ret_bool HE.out.symm, rfl⟩
    · obtain rfl : k = n := by omega
      have HE : Hid (fewB l = decide ((k : Int) ≤ 20)) := by
        show _ = _
        have h := HT.out
        rw [List.take_of_length_le (by rw [HN.out]; exact Nat.le_refl _)] at h
        unfold fewB
        rw [h, HN.out, Bool.true_and]
        refine decide_eq_decide.2 ?_
        omega
      go_wp2
      go_ret
      exact ⟨ret_bool HE.out.symm, rfl⟩
theorem demo : wb false true [⟨#[97]⟩, ⟨#[98]⟩] [] (⟨#[46, 46, 47, 99, 47, 46]⟩ : ByteArray).data.toList = [⟨#[97]⟩, ⟨#[99]⟩, ⟨#[]⟩] := by decide +kernel
theorem demo_walk (g : Nat) (w : World) (hR : Rds w (some ⟨g, 0, none⟩) 2 ([⟨#[97]⟩, ⟨#[98]⟩].map Value.string)) :
    Calls Try.prog 19 #[.bool false, .bool true, .slice (some ⟨g, 0, none⟩) 2 2, .string ⟨#[46, 46, 47, 99, 47, 46]⟩] w (Owned w.heap.size w [⟨#[97]⟩, ⟨#[99]⟩, ⟨#[]⟩]) := by
  have h := walk_any false true (some ⟨g, 0, none⟩) 2 2 [⟨#[97]⟩, ⟨#[98]⟩] ⟨#[46, 46, 47, 99, 47, 46]⟩ w hR (by omega) (by decide) (by decide)
  rw [demo] at h
  exact h
theorem demo_dot (w : World) : Calls Try.prog 8 #[.string ⟨#[46]⟩] w fun e w' => e = .returned (.bool true) ∧ Below w.heap.size w w' := single_any ⟨#[46]⟩ w (by decide)
theorem demo_drive (w : World) : Calls Try.prog 12 #[.string ⟨#[99, 124]⟩] w fun e w' => e = .returned (.bool true) ∧ w = w' := drive_any ⟨#[99, 124]⟩ w
set_option maxHeartbeats 4000000 in
theorem awake_any (w : World) : Calls Try.prog 7 #[] w fun e w' => e = .returned (.bool true) ∧ Below w.heap.size w w' := by
  have HR0 := hid (rds_strs w [⟨#[97]⟩, ⟨#[98]⟩] 9 (0, 0))
  have hb0 : Below w.heap.size w (w.alloc (.cells #[.string ⟨#[97]⟩, .string ⟨#[98]⟩] 9)) := (Below.refl _ _).alloc (Nat.le_refl _) _
  go_enter Try.func7, Try.ntmps7
  go_wp2_with fail
  refine (demo_walk _ _ HR0.out).mono ?_
  rintro e w2 ⟨v, rfl, hown2, hb2⟩
  obtain ⟨A, c, rfl, hnc, hcm, hR⟩ := owns_form hown2
  have HR := hid hR
  have HB := hid (bel hb0 hb2)
  clear hR hown2 hb2
  go_wp2_with fail
  refine (ref10_any _ _ _ _ _ _ [⟨#[97]⟩, ⟨#[99]⟩, ⟨#[]⟩] [⟨#[97]⟩, ⟨#[99]⟩, ⟨#[]⟩] _ (HR.out.below ((Below.refl _ _).alloc (Nat.le_refl _) _)) (rds_strs w2 [⟨#[97]⟩, ⟨#[99]⟩, ⟨#[]⟩] 9 (0, 0)) hnc hcm (Nat.le_refl _) (by decide)).mono ?_
  rintro e w3 ⟨rfl, hb3⟩
  have hb3' : Below w.heap.size w w3 := bel (HB.out.alloc HB.out.size _) hb3
  rw [decide_eq_true rfl]
  go_wp2_with fail
  refine (demo_dot _).mono ?_
  rintro e w4 ⟨rfl, hb4⟩
  go_wp2_with fail
  refine (demo_drive _).mono ?_
  rintro e w5 ⟨rfl, rfl⟩
  go_wp2
  go_ret
  exact ⟨rfl, bel hb3' hb4⟩
end Go.Proofs.Ytpodicomfmkpcaa.PthW
