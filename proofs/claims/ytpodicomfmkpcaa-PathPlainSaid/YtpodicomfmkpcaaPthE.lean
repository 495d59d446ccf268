/- Paths: the beginning of a path that is left when it is shortened. -/
import Derived.Test.YtpodicomfmkpcaaPthD
namespace Go.Proofs.Ytpodicomfmkpcaa.PthE
open Go.RowKit Go.Proofs.Ytpodicomfmkpcaa.Base Go.Proofs.Ytpodicomfmkpcaa.Base2 Go.Proofs.Ytpodicomfmkpcaa.PthP Go.Proofs.Ytpodicomfmkpcaa.PthA Go.Proofs.Ytpodicomfmkpcaa.PthB

/-- Does a path stay as it is? -/
def keep (file : Bool) : List ByteArray → Bool
  | [] => true
  | [x] => file && nrm x.data.toList
  | _ => false
def sho (file : Bool) (l : List ByteArray) : List ByteArray := if keep file l then l else l.take (l.length - 1)
theorem length_sho (file : Bool) (l : List ByteArray) : (sho file l).length = if keep file l then l.length else l.length - 1 := by
  unfold sho
  split
  · rfl
  · rw [List.length_take]; omega
set_option maxHeartbeats 2000000 in
theorem shortened_any (file : Bool) (A : Option Addr) (n cap : Nat) (l : List ByteArray) (w : World) (hR : Rds w A n (l.map Value.string)) (hnc : n ≤ cap) (hcm : cap ≤ maxLen) :
    Calls Try.prog 33 #[.bool file, .slice A n cap] w fun e w' => e = .returned (.slice A (if keep file l then n else n - 1) cap) ∧ w = w' := by
  unfold maxLen at hcm
  have hn : l.length = n := by rw [← hR.1, List.length_map]
  obtain ⟨m, hm⟩ : ∃ m, m = if keep file l then n else n - 1 := ⟨_, rfl⟩
  rw [← hm]
  match l, hn with
  | [], hn =>
    obtain rfl : n = 0 := by simpa using hn.symm
    obtain rfl : m = 0 := by rw [hm]; rfl
    clear hm hn hR
    go_enter Try.func33, Try.ntmps33
    go_wp2
    go_ret
    exact ⟨rfl, rfl⟩
  | [x], hn =>
    obtain rfl : n = 1 := by simpa using hn.symm
    obtain ⟨g, off, rfl, hg, hcell⟩ := hR.spot (by omega)
    have hc := hcell 0 (by simp)
    rw [Nat.add_zero] at hc
    replace hc : w.cell? ⟨g, off, none⟩ = some (.string x) := hc
    cases file with
    | false =>
      obtain rfl : m = 0 := by rw [hm]; rfl
      clear hm hn hR hcell
      go_enter Try.func33, Try.ntmps33
      go_wp2
      go_ret
      exact ⟨rfl, rfl⟩
    | true =>
      obtain ⟨b, hb⟩ : ∃ b, b = nrm x.data.toList := ⟨_, rfl⟩
      have HM : Hid (m = if b then 1 else 0) := by
        show _ = _
        rw [hm, hb]
        simp [keep]
      have HB := hid hb
      clear hm hn hR hcell hb
      cases b with
      | true =>
        obtain rfl : m = 1 := HM.out
        go_enter Try.func33, Try.ntmps33
        go_wp2_with fail
        refine (normal_any x _).mono ?_
        rintro e w2 ⟨rfl, rfl⟩
        rw [← HB.out]
        go_wp2
        go_ret
        exact ⟨rfl, rfl⟩
      | false =>
        obtain rfl : m = 0 := HM.out
        go_enter Try.func33, Try.ntmps33
        go_wp2_with fail
        refine (normal_any x _).mono ?_
        rintro e w2 ⟨rfl, rfl⟩
        rw [← HB.out]
        go_wp2
        go_ret
        exact ⟨rfl, rfl⟩
  | x :: y :: r, hn =>
    have h2 : 2 ≤ n := by rw [← hn]; simp
    have HM : Hid (m = n - 1) := by show _ = _; rw [hm]; rfl
    have q1 : ((n : Int) == 0) = false := by simp; omega
    have q2 : ((n : Int) == 1) = false := by simp; omega
    obtain ⟨g, off, rfl, hg, hcell⟩ := hR.spot (by omega)
    have q3 : ((n : Int) - 1).toNat = m := by have := HM.out; omega
    clear hm hn hR hcell
    cases file
    all_goals
      go_enter Try.func33, Try.ntmps33
      go_wp2
      go_ret
      exact ⟨by first | rfl | simp [q3], rfl⟩
end Go.Proofs.Ytpodicomfmkpcaa.PthE
