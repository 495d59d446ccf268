/- Paths: the document's Shorten. -/
import Derived.Test.YtpodicomfmkpcaaPthH
namespace Go.Proofs.Ytpodicomfmkpcaa.PthI
open Go.RowKit Go.Proofs.Ytpodicomfmkpcaa.Base Go.Proofs.Ytpodicomfmkpcaa.Base2 Go.Proofs.Ytpodicomfmkpcaa.Base3 Go.Proofs.Ytpodicomfmkpcaa.PthP Go.Proofs.Ytpodicomfmkpcaa.PthB Go.Proofs.Ytpodicomfmkpcaa.PthE Go.Proofs.Ytpodicomfmkpcaa.PthG Go.Proofs.Ytpodicomfmkpcaa.PthH

/-- A slice that reads as these strings. -/
def Read (w : World) (l : List ByteArray) (e : Ending) (w' : World) : Prop := ∃ A n c, e = .returned (.slice A n c) ∧ n = l.length ∧ n ≤ c ∧ c ≤ maxLen ∧ Rds w' A n (l.map Value.string) ∧ Below w.heap.size w w'
theorem read_of {w w' : World} {l : List ByteArray} {v : Value} {n : Nat} (h : w'.ownsRow w.heap.size 9 1 v n (l.map Value.string)) (hb : Below w.heap.size w w') : Read w l (.returned v) w' := by
  obtain ⟨A, c, rfl, h1, h2, h3⟩ := owns_form h
  exact ⟨A, n, c, rfl, by rw [← h3.1, List.length_map], h1, h2, h3, hb⟩
set_option maxHeartbeats 4000000 in
theorem refShorten_any (file : Bool) (A : Option Addr) (n cap : Nat) (l : List ByteArray) (w : World) (hR : Rds w A n (l.map Value.string)) (hnc : n ≤ cap) (hcm : cap ≤ maxLen) (hn6 : n ≤ 1000000) :
    Calls Try.prog 23 #[.bool file, .slice A n cap] w (Read w (sho file l)) := by
  obtain ⟨i0, hi, hz0, hz1, hz2⟩ := info_parts info_str
  have hcm' := hcm
  unfold maxLen at hcm
  have hn : l.length = n := by rw [← hR.1, List.length_map]
  have HRS0 := rds_sho file hR
  obtain ⟨m, hm⟩ : ∃ m, m = if keep file l then n else n - 1 := ⟨_, rfl⟩
  rw [← hm] at HRS0
  have HRS := hid HRS0
  have hml : m = (sho file l).length := by rw [← HRS0.1, List.length_map]
  have hmc : m ≤ cap := by rw [hm]; split <;> omega
  have HX0 : Hid (keep file l = true → Read w (sho file l) (.returned (.slice A n cap)) w) := by
    intro h
    have e : m = n := by rw [hm, if_pos h]
    rw [e] at HRS0 hml
    exact ⟨A, n, cap, rfl, hml, hnc, hcm', HRS0, Below.refl _ _⟩
  have hm6 : m ≤ 1000000 := by rw [hm]; split <;> omega
  generalize hS : sho file l = S at HRS HX0 ⊢
  clear HRS0 hml hS
  match l, hn with
  | [], hn =>
    obtain rfl : n = 0 := by simpa using hn.symm
    have HX := hid (HX0.out rfl)
    clear hm hn hR HX0
    go_enter Try.func23, Try.ntmps23
    go_wp2
    go_ret
    exact HX.out
  | [x], hn =>
    obtain rfl : n = 1 := by simpa using hn.symm
    obtain ⟨g, off, rfl, hg, hcell⟩ := hR.spot (by omega)
    have hc := hcell 0 (by simp)
    rw [Nat.add_zero] at hc
    replace hc : w.cell? ⟨g, off, none⟩ = some (.string x) := hc
    cases file with
    | false =>
      obtain rfl : m = 0 := by rw [hm]; rfl
      clear hm hn hR hcell HX0
      have hownA : (w.alloc (.cells #[] 9)).ownsRow w.heap.size 9 1 (.slice (some ⟨w.heap.size, 0, none⟩) 0 0) 0 [] := World.ownsRow_made w #[] 0 (Nat.le_refl _) (by decide) rfl
      have hbelA : Below w.heap.size w (w.alloc (.cells #[] 9)) := (Below.refl _ _).alloc (Nat.le_refl _) _
      have HRA : Hid (Rds (w.alloc (.cells #[] 9)) (some ⟨g, off, none⟩) 0 (S.map Value.string)) := HRS.out.below hbelA
      go_enter Try.func23, Try.ntmps23
      go_wp2_with (at_builtin; refine wpList_app_any rfl _ _ 24 rfl w.heap.size 9 i0 (.string ByteArray.empty) 16 Try.underlying24 hi hz0 hz1 hz2 rfl _ 0 [] rfl hownA hbelA hbelA.size (some ⟨g, off, none⟩) 0 cap (S.map Value.string) rfl HRA.out (strs_one _) (by unfold maxLen; omega) (by omega) ?_)
      intro v3 w3 hown3 hbel3
      have HX : Hid (Read w S (.returned v3) w3) := read_of (by simpa using hown3) hbel3
      clear hownA hbelA HRA hown3
      go_wp2
      go_ret
      exact HX
    | true =>
      obtain ⟨b, hb⟩ : ∃ b, b = nrm x.data.toList := ⟨_, rfl⟩
      have HB := hid hb
      cases b with
      | true =>
        have HX := hid (HX0.out (by show (true && nrm x.data.toList) = true; rw [← hb]; rfl))
        clear hm hn hR hcell hb HX0
        go_enter Try.func23, Try.ntmps23
        go_wp2_with fail
        refine (refNormal_any x _).mono ?_
        rintro e w2 ⟨rfl, rfl⟩
        rw [← HB.out]
        go_wp2
        go_ret
        exact HX.out
      | false =>
        obtain rfl : m = 0 := by rw [hm]; show (if (true && nrm x.data.toList) = true then 1 else 1 - 1) = 0; rw [← hb]; rfl
        clear hm hn hR hcell hb HX0
        have hownA : (w.alloc (.cells #[] 9)).ownsRow w.heap.size 9 1 (.slice (some ⟨w.heap.size, 0, none⟩) 0 0) 0 [] := World.ownsRow_made w #[] 0 (Nat.le_refl _) (by decide) rfl
        have hbelA : Below w.heap.size w (w.alloc (.cells #[] 9)) := (Below.refl _ _).alloc (Nat.le_refl _) _
        have HRA : Hid (Rds (w.alloc (.cells #[] 9)) (some ⟨g, off, none⟩) 0 (S.map Value.string)) := HRS.out.below hbelA
        go_enter Try.func23, Try.ntmps23
        go_wp2_with fail
        refine (refNormal_any x _).mono ?_
        rintro e w2 ⟨rfl, rfl⟩
        rw [← HB.out]
        go_wp2_with (at_builtin; refine wpList_app_any rfl _ _ 24 rfl w.heap.size 9 i0 (.string ByteArray.empty) 16 Try.underlying24 hi hz0 hz1 hz2 rfl _ 0 [] rfl hownA hbelA hbelA.size (some ⟨g, off, none⟩) 0 cap (S.map Value.string) rfl HRA.out (strs_one _) (by unfold maxLen; omega) (by omega) ?_)
        intro v3 w3 hown3 hbel3
        have HX : Hid (Read w S (.returned v3) w3) := read_of (by simpa using hown3) hbel3
        clear hownA hbelA HRA hown3
        go_wp2
        go_ret
        exact HX
  | x :: y :: r, hn =>
    have h2 : 2 ≤ n := by rw [← hn]; simp
    have HM : Hid (m = n - 1) := by show _ = _; rw [hm]; rfl
    have q1 : ((n : Int) == 0) = false := by simp; omega
    have q2 : ((n : Int) == 1) = false := by simp; omega
    obtain ⟨g, off, rfl, hg, hcell⟩ := hR.spot (by omega)
    have q3 : ((n : Int) - 1).toNat = m := by have := HM.out; omega
    clear hm hn hR hcell HX0
    have hownA : (w.alloc (.cells #[] 9)).ownsRow w.heap.size 9 1 (.slice (some ⟨w.heap.size, 0, none⟩) 0 0) 0 [] := World.ownsRow_made w #[] 0 (Nat.le_refl _) (by decide) rfl
    have hbelA : Below w.heap.size w (w.alloc (.cells #[] 9)) := (Below.refl _ _).alloc (Nat.le_refl _) _
    have HRA : Hid (Rds (w.alloc (.cells #[] 9)) (some ⟨g, off, none⟩) m (S.map Value.string)) := HRS.out.below hbelA
    cases file
    all_goals
      go_enter Try.func23, Try.ntmps23
      go_wp2_with (at_builtin; refine wpList_app_any rfl _ _ 24 rfl w.heap.size 9 i0 (.string ByteArray.empty) 16 Try.underlying24 hi hz0 hz1 hz2 rfl _ 0 [] rfl hownA hbelA hbelA.size (some ⟨g, off, none⟩) m cap (S.map Value.string) rfl HRA.out (strs_one _) (by unfold maxLen; omega) (by omega) ?_)
      intro v3 w3 hown3 hbel3
      have HX : Hid (Read w S (.returned v3) w3) := read_of (by simpa using hown3) hbel3
      clear hownA hbelA HRA hown3
      go_wp2
      go_ret
      exact HX
end Go.Proofs.Ytpodicomfmkpcaa.PthI
