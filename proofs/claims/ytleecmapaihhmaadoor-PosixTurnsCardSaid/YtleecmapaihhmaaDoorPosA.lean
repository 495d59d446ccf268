/- Paths with slashes: rows of components, by the document; which paths are fine, by the code and by the document. -/
import Derived.Test.YtleecmapaihhmaaDoorPosQ
import Derived.Test.YtleecmapaihhmaaDoorSls
import Derived.Test.YtleecmapaihhmaaDoorRefV
import Derived.Test.YtleecmapaihhmaaDoorMT
set_option linter.unusedSimpArgs false
set_option linter.unusedVariables false
namespace Go.Proofs.YtleecmapaihhmaaDoor.PosA
open Go.RowKit Go.Proofs.YtleecmapaihhmaaDoor.Base Go.Proofs.YtleecmapaihhmaaDoor.Base2 Go.Proofs.YtleecmapaihhmaaDoor.Base3 Go.Proofs.YtleecmapaihhmaaDoor.SlsP Go.Proofs.YtleecmapaihhmaaDoor.PosQ Go.Proofs.YtleecmapaihhmaaDoor.Sls
open Go.Proofs.YtleecmapaihhmaaDoor.Spl (Max)
open Go.Proofs.YtleecmapaihhmaaDoor.UtfR (val)

theorem tl (s : ByteArray) : s.toList = s.data.toList := Lib.toList_data s
theorem cell_at {w : World} {A : Option Addr} {n : Nat} {l : List (List UInt8)} (h : Rds w A n ((l.map strOf).map Value.string)) (k : Nat) (hk : k < n) (hl : l.length = n) : ∃ g off, A = some ⟨g, off, none⟩ ∧ g < w.heap.size ∧ w.cell? ⟨g, off + k, none⟩ = some (.string (strOf (l[k]'(by omega)))) := by
  obtain ⟨g, off, e, hg, hcell⟩ := h.spot (by omega)
  have hc := hcell k (by rw [List.length_map, List.length_map]; omega)
  simp only [List.getElem_map] at hc
  exact ⟨g, off, e, hg, hc⟩
theorem okRow_nil : okRow [] = true := rfl
set_option linter.unusedSimpArgs false in
set_option maxRecDepth 100000 in
set_option maxHeartbeats 8000000 in
theorem rows_any (A : Option Addr) (n cap : Nat) (l : List (List UInt8)) (w : World) (hR : Rds w A n ((l.map strOf).map Value.string)) (hm : n ≤ 1073741824) :
    Calls Tryd.prog 24 #[.slice A n cap] w fun e w' => e = .returned (.bool (okRow l && decide (0 < l.length))) ∧ w = w' := by
  have hl : l.length = n := by rw [← hR.1, List.length_map, List.length_map]
  obtain ⟨E, hE⟩ : ∃ E, E = okRow l := ⟨_, rfl⟩
  have HN := hid hl
  have HR := hid hR
  have HZ : Hid ((okRow l && decide (0 < l.length)) = (E && decide (0 < n))) := by show _ = _; rw [hE, hl]
  have HE0 : Hid (E = okRow (l.drop 0)) := hE
  clear hl hR hE
  go_enter Tryd.func24, Tryd.ntmps24
  go_wp2
  go_loopw [3, 6] (fun _ vk wr => ∃ k : Nat, k ≤ n ∧ vk = .int .i64 (k : Int) ∧ wr = w ∧ Hid (E = okRow (l.drop k))) (fun _ vk _ => n - (intOf vk).toNat)
  case atStart => exact ⟨0, Nat.zero_le _, rfl, rfl, HE0⟩
  case round =>
    clear HE0
    obtain ⟨k, hk, rfl, rfl, HE⟩ := hrel
    by_cases hlt : k < n
    · obtain ⟨g, off, rfl, hg, hc⟩ := cell_at HR.out k hlt HN.out
      obtain ⟨x, hx⟩ : ∃ x, x = l[k]'(by rw [HN.out]; exact hlt) := ⟨_, rfl⟩
      rw [← hx] at hc
      have hok := okRow_drop l k (by rw [HN.out]; exact hlt)
      rw [show l[k]'(by rw [HN.out]; exact hlt) = x from hx.symm, HN.out] at hok
      by_cases h1 : x = [46]
      · have f1 : ((strOf x).toList == [46]) = true := by rw [tl, h1]; rfl
        have HE2 : Hid (E = false) := by show _ = _; rw [HE.out, hok]; simp [okOne, h1]
        clear hok hx h1
        go_wp2
        go_ret
        exact ⟨by rw [HZ.out, HE2.out]; rfl, rfl⟩
      · have f1 : ((strOf x).toList == [46]) = false := by rw [tl, beq_eq_false_iff_ne]; exact h1
        by_cases h2 : x = [46, 46]
        · have f2 : ((strOf x).toList == [46, 46]) = true := by rw [tl, h2]; rfl
          have HE2 : Hid (E = false) := by show _ = _; rw [HE.out, hok]; simp [okOne, h2]
          clear hok hx h1 h2
          go_wp2
          go_ret
          exact ⟨by rw [HZ.out, HE2.out]; rfl, rfl⟩
        · have f2 : ((strOf x).toList == [46, 46]) = false := by rw [tl, beq_eq_false_iff_ne]; exact h2
          by_cases h3 : x = []
          · have f3 : (strOf x).toList = [] := by rw [tl]; exact h3
            by_cases hla : k + 1 = n
            · have hli : ¬ (k : Int) < (n : Int) - 1 := by omega
              have HE2 : Hid (E = okRow (l.drop (k + 1))) := by show _ = _; rw [HE.out, hok]; simp [okOne, h1, h2, h3, hla]
              clear hok hx h1 h2 h3 hla
              go_wp2
              go_roundw
              case rel => exact ⟨k + 1, by omega, by go_num, by first | rfl | trivial, HE2⟩
              case measure => simp [intOf]; omega
            · have hli : (k : Int) < (n : Int) - 1 := by omega
              have HE2 : Hid (E = false) := by show _ = _; rw [HE.out, hok]; simp [okOne, h1, h2, h3, hla]
              clear hok hx h1 h2 h3 hla
              go_wp2
              go_ret
              exact ⟨by rw [HZ.out, HE2.out]; rfl, rfl⟩
          · have f3 : ((strOf x).toList == []) = false := by rw [tl, beq_eq_false_iff_ne]; exact h3
            have f3' : (strOf x).toList.isEmpty = false := by rw [tl]; simpa [strOf] using h3
            have HE2 : Hid (E = okRow (l.drop (k + 1))) := by show _ = _; rw [HE.out, hok]; simp [okOne, h1, h2, h3]
            clear hok hx h1 h2 h3
            go_wp2
            go_roundw
            case rel => exact ⟨k + 1, by omega, by go_num, by first | rfl | trivial, HE2⟩
            case measure => simp [intOf]; omega
    · obtain rfl : k = n := by omega
      have HE2 : Hid (E = true) := by show _ = _; rw [HE.out, List.drop_eq_nil_of_le (by rw [HN.out]; exact Nat.le_refl _)]; rfl
      by_cases h0 : 0 < k
      · have h0i : (0 : Int) < (k : Int) := by omega
        go_wp2
        go_ret
        exact ⟨by rw [HZ.out, HE2.out]; simp [h0], rfl⟩
      · obtain rfl : k = 0 := by omega
        go_wp2
        go_ret
        exact ⟨by rw [HZ.out, HE2.out]; rfl, rfl⟩
end Go.Proofs.YtleecmapaihhmaaDoor.PosA
