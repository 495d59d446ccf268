/- URLs: are two alike? -/
import Derived.Test.YtleecmapaihhmaaDoorUrlA
import Derived.BigQuiet
set_option linter.unusedSimpArgs false
set_option linter.unusedVariables false
namespace Go.Proofs.YtleecmapaihhmaaDoor.UrlE
open Go.RowKit Go.Proofs.YtleecmapaihhmaaDoor.Base Go.Proofs.YtleecmapaihhmaaDoor.Base2 Go.Proofs.YtleecmapaihhmaaDoor.UrlP Go.Proofs.YtleecmapaihhmaaDoor.UrlA

theorem below_drewN' (w : World) (k : Nat) : Below w.heap.size w (w.drewN k) := Base.below_drewN (Below.refl _ _) k
theorem str_ext {s t : ByteArray} : s.data.toList = t.data.toList ↔ s = t := ⟨fun h => ext_str h, fun h => by rw [h]⟩
set_option maxHeartbeats 4000000 in
theorem ref10_any (A A2 : Option Addr) (n n2 cap cap2 : Nat) (l m : List ByteArray) (w : World) (hR : Rds w A n (l.map Value.string)) (hR2 : Rds w A2 n2 (m.map Value.string)) (hc : n ≤ cap) (hm : cap ≤ maxLen) (hc2 : n2 ≤ cap2) (hm2 : cap2 ≤ maxLen) :
    Calls Tryd.prog 25 #[.slice A n cap, .slice A2 n2 cap2] w fun e w' => e = .returned (.bool (decide (l = m))) ∧ Below w.heap.size w w' := by
  unfold maxLen at hm hm2
  have hn : l.length = n := by rw [← hR.1, List.length_map]
  have hn2 : m.length = n2 := by rw [← hR2.1, List.length_map]
  have HN := hid hn
  have HN2 := hid hn2
  have HR := hid hR
  have HR2 := hid hR2
  clear hR hR2 hn hn2
  by_cases he : n = n2
  · obtain rfl := he
    have q1 : ((n : Int) == (n : Int)) = true := by simp
    have q2 : ((n : Int) != (n : Int)) = false := by simp
    go_enter Tryd.func25, Tryd.ntmps25
    go_wp2
    go_loopw [5, 13] (fun _ vk wr => ∃ k : Nat, k ≤ n ∧ vk = .int .i64 (k : Int) ∧ Hid (l.take k = m.take k) ∧ Hid (Below w.heap.size w wr)) (fun _ vk _ => n - (intOf vk).toNat)
    case atStart => exact ⟨0, Nat.zero_le _, rfl, rfl, Below.refl _ _⟩
    case round =>
      obtain ⟨k, hk, rfl, HT, HBL⟩ := hrel
      by_cases hlt : k < n
      · have hkl : k < l.length := by rw [HN.out]; exact hlt
        have hkm : k < m.length := by rw [HN2.out]; exact hlt
        obtain ⟨g, off, rfl, hg, hcell⟩ := (HR.out.below HBL.out).spot (by omega)
        obtain ⟨g2, off2, rfl, hg2, hcell2⟩ := (HR2.out.below HBL.out).spot (by omega)
        have hc1 := hcell k (by rw [List.length_map]; exact hkl)
        have hc3 := hcell2 k (by rw [List.length_map]; exact hkm)
        rw [List.getElem_map] at hc1 hc3
        obtain ⟨s, hs⟩ : ∃ s, s = l[k] := ⟨_, rfl⟩
        obtain ⟨t, ht⟩ : ∃ t, t = m[k] := ⟨_, rfl⟩
        have HS : Hid (l.take (k + 1) = l.take k ++ [s]) := by rw [hs]; exact take_snoc l k hkl
        have HS2 : Hid (m.take (k + 1) = m.take k ++ [t]) := by rw [ht]; exact take_snoc m k hkm
        have HX : Hid (s ≠ t → l ≠ m) := by
          intro h1 h2
          subst h2
          exact h1 (hs.trans ht.symm)
        rw [← hs] at hc1
        rw [← ht] at hc3
        clear hs ht hcell hcell2 hkl hkm
        have hb := beq_str s t
        by_cases hst : s.data.toList = t.data.toList
        · rw [decide_eq_true hst] at hb
          have HST := hid (str_ext.1 hst)
          clear hst
          go_wp2_with fail
          go_quiet (fail)
          have hbq := HBL.out.trans ((below_drewN' wr nq).mono HBL.out.size)
          generalize wr.drewN nq = wq at hbq ⊢
          go_wp2
          go_roundw
          case rel => exact ⟨k + 1, by omega, by go_num, by show _ = _; rw [HS.out, HS2.out, HT.out, HST.out], hbq⟩
          case measure => simp [intOf]; omega
        · rw [decide_eq_false hst] at hb
          have HE : Hid (decide (l = m) = false) := decide_eq_false (HX.out (fun h => hst (by rw [h])))
          clear hst
          go_wp2_with fail
          go_quiet (fail)
          have hbq := HBL.out.trans ((below_drewN' wr nq).mono HBL.out.size)
          generalize wr.drewN nq = wq at hbq ⊢
          go_wp2
          go_ret
          exact ⟨ret_bool HE.out.symm, hbq⟩
      · obtain rfl : k = n := by omega
        have HE : Hid (decide (l = m) = true) := decide_eq_true (by
          have h := HT.out
          rw [List.take_of_length_le (by rw [HN.out]; exact Nat.le_refl _), List.take_of_length_le (by rw [HN2.out]; exact Nat.le_refl _)] at h
          exact h)
        go_wp2
        go_ret
        exact ⟨ret_bool HE.out.symm, HBL.out⟩
  · have q1 : ((n : Int) == (n2 : Int)) = false := by simp; omega
    have q2 : ((n : Int) != (n2 : Int)) = true := by simp; omega
    have HE : Hid (decide (l = m) = false) := decide_eq_false (fun h => he (by rw [← HN.out, ← HN2.out, h]))
    clear he
    go_enter Tryd.func25, Tryd.ntmps25
    go_wp2
    go_ret
    exact ⟨ret_bool HE.out.symm, Below.refl _ _⟩
def spB (b6 c6 : Bool) (s7 t7 : ByteArray) (l m : List ByteArray) : Bool := if b6 || c6 then (b6 == c6) && decide (s7.data.toList = t7.data.toList) else decide (l = m)
end Go.Proofs.YtleecmapaihhmaaDoor.UrlE
