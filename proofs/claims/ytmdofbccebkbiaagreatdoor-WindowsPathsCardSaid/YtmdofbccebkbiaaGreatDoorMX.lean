/- Texts that belong together: UrlD. -/
import Derived.Test.YtmdofbccebkbiaaGreatDoorMP
set_option linter.unusedSimpArgs false
set_option linter.unusedVariables false
set_option maxRecDepth 100000
set_option maxHeartbeats 64000000
namespace Go.Proofs.YtmdofbccebkbiaaGreatDoor.UrlD
open Go.RowKit Base aT bQ VT eH
theorem few_any (s0 : ByteArray) (s1 : ByteArray) (s2 : ByteArray) (s3 : ByteArray) (b4 : Bool) (z5 : Int) (b6 : Bool) (s7 : ByteArray) (A : Option Addr) (n cap : Nat) (l : List ByteArray) (b9 : Bool) (b10 : Bool) (s11 : ByteArray) (s12 : ByteArray) (w : World) (hR : bK w A n (l.map Value.string)) (hnc : n ≤ cap) (hcm : cap ≤ maxLen) (hs0 : s0.size ≤ 140737488351232) (hs1 : s1.size ≤ 140737488351232) (hs2 : s2.size ≤ 140737488351232) (hs3 : s3.size ≤ 140737488351232) (hs7 : s7.size ≤ 140737488351232) (hs11 : s11.size ≤ 140737488351232) (Nc : s12.size ≤ 140737488351232) (hel : ∀ s ∈ l, s.size ≤ 140737488351232) :
  Calls Tryz.prog 25 #[.agg #[.string s0, .string s1, .string s2, .string s3, .bool b4, .int .i64 z5, .bool b6, .string s7, .slice A n cap, .bool b9, .bool b10, .string s11, .string s12]] w fun e w' => e = .returned (.bool (decide (OY s0 s1 s2 s3 s7 s11 s12 l ≤ 1000 ∧ n ≤ 50))) ∧ Below w.heap.size w w' := by
 have hn : l.length = n := by rw [← hR.1, List.length_map]
 unfold maxLen at hcm
 have HR := hid hR
 have HN := hid hn
 have HEL := hid hel
 obtain ⟨S, hS⟩ : ∃ S : Nat, S = s0.size + s1.size + s2.size + s3.size + s7.size + s11.size + s12.size := ⟨_, rfl⟩
 have hSb : S ≤ 985162418458624 := by omega
 have HF : Hid (OY s0 s1 s2 s3 s7 s11 s12 l = S + (l.map (·.size)).sum) := by show _ = _; unfold OY; rw [hS]
 have hSi : ((s0.size : Int) + (s1.size : Int) + (s2.size : Int) + (s3.size : Int) + (s7.size : Int) + (s11.size : Int) + (s12.size : Int)) = (S : Int) := by omega
 have HSI := hid hSi
 obtain ⟨FB, hFB⟩ : ∃ b, b = decide (OY s0 s1 s2 s3 s7 s11 s12 l ≤ 1000 ∧ n ≤ 50) := ⟨_, rfl⟩
 rw [← hFB]
 have HFB := hid hFB
 clear hR hn hel hS hSi hFB
 by_cases hn50 : n ≤ 50
 all_goals
  go_enter Tryz.func25, Tryz.ntmps25
  go_upto_region 1 with (fail)
  generalize hw1 : w.alloc _ = w1
  have hb1 : Below w.heap.size w w1 := by rw [← hw1]; exact (Below.refl _ _).alloc (Nat.le_refl _) _
  have xq : Hid (Box w1 w.heap.size #[.string s0, .string s1, .string s2, .string s3, .bool b4, .int .i64 z5, .bool b6, .string s7, .slice A n cap, .bool b9, .bool b10, .string s11, .string s12]) := by
   show _ = _
   rw [← hw1]
   exact heap_alloc_new w _
  have hlt1 : w.heap.size < w1.heap.size := by rw [← hw1]; simp
  clear hw1
  obtain ⟨c0, c1, c2, c3, c4, c5, c6, c7, c8, c9, c10, c11, c12⟩ := iE xq.out
  go_wp2
  rw [HSI.out]
 ·go_loopw [3, 4, 35] (fun vs _ vk wr => ∃ k : Nat, k ≤ n ∧ vk = .int .i64 (k : Int) ∧ vs = .int .i64 ((S + ((l.take k).map (·.size)).sum : Nat) : Int) ∧ ((l.take k).map (·.size)).sum ≤ k * 140737488351232 ∧ wr = w1) (fun _ _ vk _ => n - (intOf vk).toNat)
  case atStart => exact ⟨0, Nat.zero_le _, rfl, by simp, by simp, rfl⟩
  case round =>
   obtain ⟨k, hk, rfl, hvs, hks, hwr⟩ := hrel
   subst hwr
   obtain ⟨q, hq⟩ : ∃ q, q = ((l.take k).map (·.size)).sum := ⟨_, rfl⟩
   rw [← hq] at hvs hks
   subst hvs
   by_cases hlt : k < n
   ·have hkl : k < l.length := by rw [HN.out]; exact hlt
    obtain ⟨g, off, rfl, hg, hcell⟩ := (HR.out.below hb1).spot (by omega)
    have hc := hcell k (by rw [List.length_map]; exact hkl)
    rw [List.getElem_map] at hc
    obtain ⟨s, hs⟩ : ∃ s, s = l[k] := ⟨_, rfl⟩
    have hsb : s.size ≤ 140737488351232 := HEL.out s (by rw [hs]; exact List.getElem_mem _)
    have HQ : Hid (((l.take (k + 1)).map (·.size)).sum = q + s.size) := by show _ = _; rw [oC l k hkl, ← hq, hs]
    rw [← hs] at hc
    have hk50 : k ≤ 49 := by omega
    have hqb : q ≤ 6896136929210368 := by omega
    have HKS := hid hks
    clear hks
    clear hs hcell hkl hq
    go_wp2
    go_roundw
    case rel => exact ⟨k + 1, by omega, int_eq (by omega), by rw [HQ.out]; exact int_eq (by omega), by rw [HQ.out]; have := HKS.out; omega, by first | rfl | trivial⟩
    case measure => simp [intOf]; omega
   ·obtain rfl : k = n := by omega
    have HT : Hid (l.take k = l) := List.take_of_length_le (by rw [HN.out]; exact Nat.le_refl _)
    have HE : Hid (FB = decide (S + q ≤ 1000)) := by
     show _ = _
     rw [HFB.out]
     refine decide_eq_decide.2 ?_
     rw [HF.out, hq, HT.out]
     exact ⟨fun h => h.1, fun h => ⟨h, hn50⟩⟩
    have hk50 : (k : Int) ≤ 50 := by omega
    clear hq hn50
    by_cases hle : S + q ≤ 1000
    ·have HL : Hid (decide (S + q ≤ 1000) = true) := decide_eq_true hle
     go_wp2
     go_ret
     exact ⟨aj (by rw [HE.out, HL.out]), hb1⟩
    ·have HL : Hid (decide (S + q ≤ 1000) = false) := decide_eq_false hle
     have hle' : 1000 < (S : Int) + (q : Int) := by omega
     go_wp2
     go_ret
     exact ⟨aj (by rw [HE.out, HL.out]), hb1⟩
 ·have hn50' : (50 : Int) < (n : Int) := by omega
  have HE : Hid (FB = false) := by show _ = _; rw [HFB.out]; exact decide_eq_false (fun h => hn50 h.2)
  clear hn50
  go_loopw [3, 4, 35] (fun vs _ vk wr => ∃ (k : Nat) (z : Int), k ≤ n ∧ vk = .int .i64 (k : Int) ∧ vs = .int .i64 z ∧ wr = w1) (fun _ _ vk _ => n - (intOf vk).toNat)
  case atStart => exact ⟨0, _, Nat.zero_le _, rfl, rfl, rfl⟩
  case round =>
   obtain ⟨k, z, hk, rfl, rfl, hwr⟩ := hrel
   subst hwr
   by_cases hlt : k < n
   ·have hkl : k < l.length := by rw [HN.out]; exact hlt
    obtain ⟨g, off, rfl, hg, hcell⟩ := (HR.out.below hb1).spot (by omega)
    have hc := hcell k (by rw [List.length_map]; exact hkl)
    rw [List.getElem_map] at hc
    obtain ⟨s, hs⟩ : ∃ s, s = l[k] := ⟨_, rfl⟩
    rw [← hs] at hc
    clear hs hcell hkl
    go_wp2
    go_roundw
    case rel => exact ⟨k + 1, _, by omega, by go_num, rfl, by first | rfl | trivial⟩
    case measure => simp [intOf]; omega
   ·obtain rfl : k = n := by omega
    have hk51 : ¬ (k : Int) ≤ 50 := by omega
    by_cases hle : z ≤ 1000
    ·go_wp2
     go_ret
     exact ⟨aj HE.out.symm, hb1⟩
    ·go_wp2
     go_ret
     exact ⟨aj HE.out.symm, hb1⟩
end Go.Proofs.YtmdofbccebkbiaaGreatDoor.UrlD
