/- Paths: slices.Clone of strings; path.Shorten. -/
import Derived.Test.YtpodicomfmkpcaaPthG
import Derived.Test.YtpodicomfmkpcaaBase3
import Derived.Lib.SliceRun
namespace Go.Proofs.Ytpodicomfmkpcaa.PthH
open Go.RowKit Go.Proofs.Ytpodicomfmkpcaa.Base Go.Proofs.Ytpodicomfmkpcaa.Base2 Go.Proofs.Ytpodicomfmkpcaa.Base3 Go.Proofs.Ytpodicomfmkpcaa.PthE Go.Proofs.Ytpodicomfmkpcaa.PthG

theorem strs_one (l : List ByteArray) : ∀ u ∈ l.map Value.string, u.oneCell' = true := by
  intro u hu
  simp only [List.mem_map] at hu
  obtain ⟨s, _, rfl⟩ := hu
  rfl
theorem cloneS_any (A : Option Addr) (n cap : Nat) (l : List ByteArray) (w : World) (h : Rds w A n (l.map Value.string)) (hm : n ≤ 1000000) :
    Calls Try.prog 30 #[.slice A n cap] w (Owned w.heap.size w l) := by
  have hl : l.length = n := by rw [← h.1, List.length_map]
  have HH := hid h
  clear h
  obtain ⟨i0, hi, hz0, hz1, hz2⟩ := info_parts info_str
  have hnil := fun (W : World) => Lib.run_eql_slice_nil (P := Try.prog) W 24 9 A n cap 0 0 Try.underlying24
  cases A with
  | none =>
    have h0 : n = 0 := by
      rcases Nat.eq_zero_or_pos n with h0 | h0
      · exact h0
      · obtain ⟨_, _, e, _⟩ := HH.out.spot h0
        cases e
    subst h0
    obtain rfl : l = [] := List.eq_nil_of_length_eq_zero hl
    have HX : Hid (Owned w.heap.size w [] (.returned (.slice none 0 0)) w) := ⟨_, rfl, World.ownsRow_nil _ _ _ _, Below.refl _ _⟩
    clear hl
    go_enter Try.func30, Try.ntmps30
    go_wp2
    go_ret
    exact HX
  | some ad =>
    have hownA : (w.alloc (.cells #[] 9)).ownsRow w.heap.size 9 1 (.slice (some ⟨w.heap.size, 0, none⟩) 0 0) 0 [] := World.ownsRow_made w #[] 0 (Nat.le_refl _) (by decide) rfl
    have hbelA : Below w.heap.size w (w.alloc (.cells #[] 9)) := (Below.refl _ _).alloc (Nat.le_refl _) _
    have HRA : Hid (Rds (w.alloc (.cells #[] 9)) (some ad) n (l.map Value.string)) := HH.out.below hbelA
    have HL := hid hl
    clear hl
    go_enter Try.func30, Try.ntmps30
    go_wp2_with (at_builtin; refine wpList_app_any rfl _ _ 24 rfl w.heap.size 9 i0 (.string ByteArray.empty) 16 Try.underlying24 hi hz0 hz1 hz2 rfl _ 0 [] rfl hownA hbelA hbelA.size (some ad) n cap (l.map Value.string) rfl HRA.out (strs_one _) (by unfold maxLen; omega) (by omega) ?_)
    intro v3 w3 hown3 hbel3
    have HX : Hid (Owned w.heap.size w l (.returned v3) w3) := ⟨_, rfl, by rw [HL.out]; simpa using hown3, hbel3⟩
    clear hownA hbelA HRA hown3
    go_wp2
    go_ret
    exact HX
theorem rds_sho {w : World} {A : Option Addr} {n : Nat} {l : List ByteArray} (file : Bool) (hR : Rds w A n (l.map Value.string)) : Rds w A (if keep file l then n else n - 1) ((sho file l).map Value.string) := by
  have hl : l.length = n := by rw [← hR.1, List.length_map]
  unfold sho
  cases e : keep file l with
  | true => simpa using hR
  | false =>
    rcases Nat.eq_zero_or_pos n with h0 | h0
    · obtain rfl : l = [] := List.eq_nil_of_length_eq_zero (by omega)
      cases e
    · obtain ⟨g, off, rfl, _⟩ := hR.spot h0
      have := hR.upto (n - 1) (by omega)
      rw [if_neg (by decide), if_neg (by decide), List.map_take, hl]
      exact this
theorem shorten_any (file : Bool) (A : Option Addr) (n cap : Nat) (l : List ByteArray) (w : World) (hR : Rds w A n (l.map Value.string)) (hnc : n ≤ cap) (hcm : cap ≤ maxLen) (hm : n ≤ 1000000) :
    Calls Try.prog 20 #[.bool file, .slice A n cap] w (Owned w.heap.size w (sho file l)) := by
  have HS := hid (rds_sho file hR)
  have HR := hid hR
  obtain ⟨m, hmm⟩ : ∃ m, m = if keep file l then n else n - 1 := ⟨_, rfl⟩
  have hmn : m ≤ 1000000 := by rw [hmm]; split <;> omega
  have HM := hid hmm
  clear hR hmm
  go_enter Try.func20, Try.ntmps20
  go_wp2_with fail
  refine (shortened_any file A n cap l _ HR.out hnc hcm).mono ?_
  rintro e w2 ⟨rfl, rfl⟩
  rw [← HM.out]
  go_wp2_with fail
  refine (cloneS_any A m cap (sho file l) _ (by rw [HM.out]; exact HS.out) hmn).mono ?_
  rintro e w3 ⟨v, rfl, hown, hb3⟩
  have HX : Hid (Owned w.heap.size w (sho file l) (.returned v) w3) := ⟨v, rfl, hown, hb3⟩
  clear hown
  go_wp2
  go_ret
  exact HX
end Go.Proofs.Ytpodicomfmkpcaa.PthH
