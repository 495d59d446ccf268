/- The law TableNever. -/
import Derived.Test.YtihlojkghemjeaaTbW
import Derived.Test.YtihlojkghemjeaaTbS
namespace Go.Proofs.Ytihlojkghemjeaa.Laws
open Go.RowKit Go.Proofs.Ytihlojkghemjeaa.Base Go.Proofs.Ytihlojkghemjeaa.Base2 Go.Proofs.Ytihlojkghemjeaa.TbG Go.Proofs.Ytihlojkghemjeaa.TbW

set_option linter.unusedSimpArgs false in
set_option maxRecDepth 100000 in
set_option maxHeartbeats 8000000 in
/-- The walk of the law TableNever. -/
theorem TableNever_any (A : Option Addr) (n cap : Nat) (L : List ByteArray) (rm : Int) (w : World) (r : Rds w A n (L.map Value.string)) (hcap : n ≤ cap) (hm : cap ≤ maxLen) (_hs : ∀ s ∈ L, s.size ≤ maxLen) (hrm : 0 ≤ rm ∧ rm ≤ 255) :
    Calls Try.prog 4 #[.slice A n cap, .int .u8 rm] w fun e w' => e = .returned (.bool true) ∧ Below w.heap.size w w' := by
  have hln : L.length = n := by have := r.1; rwa [List.length_map] at this
  have HLN := hid hln
  have HR0 := hid r
  have hn63 : (n : Int) ≤ 9223372036854775807 := by unfold maxLen at hm; omega
  obtain ⟨rn, hrn⟩ : ∃ rn : Nat, rm = (rn : Int) := ⟨rm.toNat, by omega⟩
  subst hrn
  obtain ⟨q, hq⟩ : ∃ q, q = rn % 64 := ⟨_, rfl⟩
  have hqt : (rn : Int).tmod 64 = (q : Int) := by rw [Int.tmod_eq_emod_of_nonneg (by omega), hq]; simp
  have hq64 : q < 64 := by omega
  clear hln r hq _hs hm hcap
  by_cases h : n ≤ 60
  · have h60 : ¬ (60 : Int) < (n : Int) := by omega
    go_enter Try.func4, Try.ntmps4
    go_wp2_with fail
    refine (awake_any _).mono ?_
    rintro e w1 ⟨rfl, hb⟩
    have HB1 := hid hb
    have HW1 : Hid (w.heap.size ≤ w1.heap.size) := hb.size
    clear hb
    have hnew := TbS.new_any (1 + q) (by omega) (by omega) w1
    rw [show ((1 + q : Nat) : Int) = 1 + (q : Int) by omega] at hnew
    have HNEW := hid hnew
    clear hnew
    go_wp2_with fail
    refine HNEW.out.mono ?_
    rintro e w2 ⟨g, rfl, hT, hb⟩
    have HT2 := hid hT
    have HB2 := hid (bel HB1.out hb)
    clear hT hb
    generalize decide ((60 : Int) < (n : Int)) = dd1
    rcases Nat.eq_zero_or_pos n with hn0 | hn0
    · subst hn0
      go_wp2
      go_loopw [7, 8, 9, 10, 11, 12, 13, 14, 33] (fun _ _ _ _ _ _ _ _ vk wr => ∃ j : Nat, j ≤ 0 ∧ vk = .int .i64 (j : Int) ∧ Hid (IsT 81 83 Value.string w1.heap.size g (1 + q) j [] wr) ∧ Hid (Below w.heap.size w wr)) (fun _ _ _ _ _ _ _ _ vk _ => 0 - (intOf vk).toNat)
      case atStart => exact ⟨0, Nat.zero_le _, rfl, HT2.out, HB2.out⟩
      case round =>
        obtain ⟨j, hj, rfl, HT, HB⟩ := hrel
        obtain rfl : j = 0 := by omega
        go_wp2_with fail
        refine (TbS.len_any _ g _ _ [] _ HT.out (by decide)).mono ?_
        rintro e w9 ⟨rfl, hw9⟩
        subst hw9
        go_wp2
        go_ret
        exact ⟨rfl, HB.out⟩
    · obtain ⟨ba, oa, rfl, hba0, _⟩ := HR0.out.spot hn0
      go_wp2
      go_loopw [7, 8, 9, 10, 11, 12, 13, 14, 33] (fun _ _ _ _ _ _ _ _ vk wr => ∃ j : Nat, j ≤ n ∧ vk = .int .i64 (j : Int) ∧ Hid (IsT 81 83 Value.string w1.heap.size g (1 + q) j [] wr) ∧ Hid (Below w.heap.size w wr)) (fun _ _ _ _ _ _ _ _ vk _ => n - (intOf vk).toNat)
      case atStart => exact ⟨0, Nat.zero_le _, rfl, HT2.out, HB2.out⟩
      case round =>
        obtain ⟨j, hj, rfl, HT, HB⟩ := hrel
        by_cases hlt : j < n
        · have hjl : j < L.length := by rw [HLN.out]; exact hlt
          obtain ⟨x, hx⟩ : ∃ x, x = L[j] := ⟨_, rfl⟩
          have hcx : wr.cell? ⟨ba, oa + j, none⟩ = some (.string x) := by
            obtain ⟨b', o', e, _, hc⟩ := (HR0.out.below HB.out).2 j (by rw [List.length_map]; exact hjl)
            injection e with e
            injection e with e1 e2
            subst e1 e2
            rw [hc, List.getElem_map, ← hx]
          have HCX := hid hcx
          have hjn : (j : Int) ≤ 60 := by omega
          have hbne : (x.toList == x.toList) = true := by simp
          have hb0' := hba0
          clear hx hjl
          go_wp2_with fail
          refine (TbS.put_any _ g (1 + q) j [] x _ HT.out (by simp; omega) (by omega) (by omega)).mono ?_
          rintro e w3 ⟨rfl, hT, hb, _⟩
          have HT3 := hid hT
          have HB3 : Hid (Below w.heap.size w w3) := HB.out.trans (hb.mono HW1.out)
          have hcx3 := ((hb.mono HW1.out).cell (p := ⟨ba, oa + j, none⟩) hba0).trans HCX.out
          clear hT hb
          have HG : Hid (TbS.got ([] ++ [(j + 1, x)]) ((j : Int) + 1) = .tuple #[.string x, .bool true]) := by
            show _ = _
            unfold TbS.got
            rw [show idx ([] ++ [(j + 1, x)]) ((j : Int) + 1) = some 0 by simp [idx]]
            rfl
          have HGN : Hid (TbS.gone ([] ++ [(j + 1, x)]) ((j : Int) + 1) = []) := by
            show _ = _
            unfold TbS.gone
            rw [show idx ([] ++ [(j + 1, x)]) ((j : Int) + 1) = some 0 by simp [idx]]
            rfl
          go_wp2_with fail
          refine (TbS.del_any _ g (1 + q) (j + 1) _ ((j : Int) + 1) _ HT3.out (by simp)).mono ?_
          rw [HG.out, HGN.out]
          rintro e w4 ⟨rfl, hT, hb, _⟩
          have HT4 := hid hT
          have HB4 : Hid (Below w.heap.size w w4) := HB3.out.trans (hb.mono HW1.out)
          have hcx4 := ((hb.mono HW1.out).cell (p := ⟨ba, oa + j, none⟩) hba0).trans hcx3
          clear hT hb
          go_wp2
          go_loopw [12, 13, 14, 71] (fun _ _ _ vi ws => ∃ i : Nat, i ≤ j + 1 ∧ vi = .int .i64 (i : Int) ∧ Hid (IsT 81 83 Value.string w1.heap.size g (1 + q) (j + 1) [] ws) ∧ Hid (Below w.heap.size w ws)) (fun _ _ _ vi _ => j + 1 - (intOf vi).toNat)
          case atStart => exact ⟨0, Nat.zero_le _, rfl, HT4.out, HB4.out⟩
          case round =>
            clear HT4 HB4
            obtain ⟨i, hi, rfl, HT4, HB4⟩ := hrel
            have hi61 : (i : Int) ≤ 61 := by omega
            by_cases hil : i < j + 1
            · have hili : (i : Int) < (j : Int) + 1 := by omega
              have hz : (ByteArray.mk #[]).toList = [] := by rw [ByteArray.toList_mk]
              go_wp2_with fail
              refine (TbS.get_any _ g (1 + q) (j + 1) [] ((i : Int) + 1) _ HT4.out (by decide)).mono ?_
              rw [show TbS.got [] ((i : Int) + 1) = .tuple #[.string ⟨#[]⟩, .bool false] from rfl]
              rintro e w5 ⟨rfl, hb5⟩
              have HT5 := hid (HT4.out.below hb5)
              have HB5 := hid (bel HB4.out hb5)
              clear hb5
              go_wp2
              go_roundw
              case rel => exact ⟨i + 1, by omega, by go_num, HT5.out, HB5.out⟩
              case measure => simp [intOf]; omega
            · have hili : ¬ (i : Int) < (j : Int) + 1 := by omega
              go_wp2
              go_roundw
              case rel => exact ⟨j + 1, by omega, by go_num, HT4.out, HB4.out⟩
              case measure => simp [intOf]; omega
        · obtain rfl : j = n := by omega
          go_wp2_with fail
          refine (TbS.len_any _ g _ _ [] _ HT.out (by decide)).mono ?_
          rintro e w9 ⟨rfl, hw9⟩
          subst hw9
          go_wp2
          go_ret
          exact ⟨rfl, HB.out⟩
  · have h60 : (60 : Int) < (n : Int) := by omega
    go_enter Try.func4, Try.ntmps4
    go_wp2_with fail
    refine (awake_any _).mono ?_
    rintro e w1 ⟨rfl, hb⟩
    have HB1 := hid hb
    clear hb
    go_wp2_with fail
    refine (awake_any _).mono ?_
    rintro e w2 ⟨rfl, hb⟩
    have HB2 := hid (bel HB1.out hb)
    clear hb
    go_wp2
    go_ret
    exact ⟨rfl, HB2.out⟩
end Go.Proofs.Ytihlojkghemjeaa.Laws
