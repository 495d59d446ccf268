/- The document's own Few answers; group.All: the groups that a type is in, rising. -/
import Derived.Test.YtbkobobnbdblbaaGrpD
import Derived.Test.YtbkobobnbdblbaaMim0
import Derived.Deep.QuietTactic
import Derived.BigQuiet
namespace Go.Proofs.Ytbkobobnbdblbaa.GrpC
open Go.RowKit Go.Proofs.Ytbkobobnbdblbaa.Base Go.Proofs.Ytbkobobnbdblbaa.Base2 Go.Proofs.Ytbkobobnbdblbaa.GrpP Go.Proofs.Ytbkobobnbdblbaa.GrpA Go.Proofs.Ytbkobobnbdblbaa.GrpB Go.Proofs.Ytbkobobnbdblbaa.Mim0

def SomeBool (w : World) (e : Ending) (w' : World) : Prop := ∃ b : Bool, e = .returned (.bool b) ∧ Below w.heap.size w w'
set_option maxRecDepth 100000 in
set_option maxHeartbeats 2000000 in
theorem few_any (T S : ByteArray) (A : Option Addr) (n cap : Nat) (l : List (ByteArray × ByteArray)) (w : World) (hr : Prm w A n l) (hc : n ≤ cap) (hm : cap ≤ maxLen) (hT : T.size ≤ 140737488351232) (hS : S.size ≤ 140737488351232) :
    Calls Try.prog 7 #[.agg #[.string T, .string S, .slice A n cap]] w (SomeBool w) := by
  unfold maxLen at hm
  have hl := hr.1
  have HR := hid hr
  have HL := hid hl
  clear hr hl
  have fin : ∀ (b : Bool) (w' : World), Below w.heap.size w w' → SomeBool w (.returned (.bool b)) w' := fun b w' h => ⟨b, rfl, h⟩
  have FIN := hid fin
  clear fin
  go_enter Try.func7, Try.ntmps7
  go_wp2
  go_loopw [3, 7] (fun _ vk wr => ∃ k : Nat, k ≤ n ∧ vk = .int .i64 (k : Int) ∧ Hid (Mim wr w.heap.size T S (.slice A n cap)) ∧ Hid (Below w.heap.size w wr)) (fun _ vk _ => n - (intOf vk).toNat)
  case atStart => exact ⟨0, Nat.zero_le _, rfl, Mim.new _ _ _ _, flat _ _⟩
  case round =>
    obtain ⟨k, hk, rfl, HM, HB⟩ := hrel
    obtain ⟨c0, c1, c2⟩ := HM.out.facts
    by_cases hlt : k < n
    · obtain ⟨b, off, rfl, hb, h1, h2⟩ := (HR.out.under HB.out (Nat.le_refl _)).2 k (by rw [HL.out]; exact hlt)
      have hkl : k < l.length := by rw [HL.out]; exact hlt
      obtain ⟨s1, hs1⟩ : ∃ s, s = l[k].1 := ⟨_, rfl⟩
      obtain ⟨s2, hs2⟩ : ∃ s, s = l[k].2 := ⟨_, rfl⟩
      rw [← hs1] at h1
      rw [← hs2] at h2
      clear hs1 hs2 hb hkl
      have hkI : (k : Int) < (n : Int) := by omega
      go_wp2
      go_quiet (fail)
      go_wp2
      · go_ret
        exact FIN.out _ _ (below_drewN HB.out _)
      · go_roundw
        case rel => exact ⟨k + 1, by omega, by go_num, HM.out, below_drewN HB.out _⟩
        case measure => simp [intOf]; omega
    · obtain rfl : k = n := by omega
      go_wp2
      all_goals
        go_ret
        exact FIN.out _ _ HB.out
def inR (T S : List UInt8) (k : Nat) : List Int := ((List.range k).filter fun g : Nat => gB (g : Int) T S).map fun g : Nat => (g : Int)
theorem inR_succ (T S : List UInt8) (k : Nat) : inR T S (k + 1) = if gB (k : Int) T S = true then inR T S k ++ [(k : Int)] else inR T S k := by
  unfold inR
  rw [List.range_succ, List.filter_append]
  cases h : gB (k : Int) T S <;> simp [h]
theorem inR_len (T S : List UInt8) (k : Nat) : (inR T S k).length ≤ k := by
  unfold inR
  rw [List.length_map]
  have := List.length_filter_le (fun g => gB ((g : Nat) : Int) T S) (List.range k)
  rw [List.length_range] at this
  exact this
theorem info_int : (Try.prog.info? 3).map (fun i => (i.zero, i.size, i.bytes)) = some (some (.int .i64 0), 1, 8) := by kernel_rfl
set_option maxRecDepth 100000 in
set_option maxHeartbeats 1000000 in
theorem all_any (T S : ByteArray) (sa : Option Addr) (sn sc : Nat) (w : World) (hT : T.size ≤ 140737488351232) (hS : S.size ≤ 140737488351232) :
    Calls Try.prog 8 #[.agg #[.string T, .string S, .slice sa sn sc]] w fun e w' => ∃ v, e = .returned v ∧ w'.ownsRow w.heap.size 3 1 v (inR T.data.toList S.data.toList 10).length (icells .i64 (inR T.data.toList S.data.toList 10)) ∧ Below w.heap.size w w' := by
  obtain ⟨i0, hi, hz0, hz1, hz2⟩ := info_parts info_int
  go_enter Try.func8, Try.ntmps8
  go_wp2
  go_loopw [3, 4, 5] (fun v _ vk wr => ∃ k m : Nat, k ≤ 10 ∧ m ≤ k ∧ vk = .int .i64 (k : Int) ∧ Hid (m = (inR T.data.toList S.data.toList k).length) ∧ Hid (wr.ownsRow (w.alloc (.cells #[.string T, .string S, .slice sa sn sc] 24)).heap.size 3 1 v m (icells .i64 (inR T.data.toList S.data.toList k))) ∧ Hid (Below (w.alloc (.cells #[.string T, .string S, .slice sa sn sc] 24)).heap.size (w.alloc (.cells #[.string T, .string S, .slice sa sn sc] 24)) wr)) (fun _ _ vk _ => 10 - (intOf vk).toNat)
  case atStart => exact ⟨0, 0, by omega, by omega, rfl, rfl, World.ownsRow_nil _ _ _ _, Below.refl _ _⟩
  case round =>
    obtain ⟨k, m, hk, hmk, rfl, HM0, HO, HB⟩ := hrel
    obtain ⟨c0, c1, c2⟩ := ((Mim.new w T S (.slice sa sn sc)).below HB.out).facts
    by_cases hlt : k < 10
    · cases hg : gB (k : Int) T.data.toList S.data.toList
      · have HG := hid hg
        have HS : Hid (inR T.data.toList S.data.toList (k + 1) = inR T.data.toList S.data.toList k) := by rw [inR_succ, if_neg (by rw [hg]; decide)]; exact rfl
        clear hg
        go_wp2_with fail
        refine (in_any (k : Int) T S _ _ _ _ hT hS).mono ?_
        rintro e w2 ⟨rfl, hb2⟩
        rw [HG.out]
        have HO2 := hid (owns_below HO.out hb2)
        have HB2 := hid (bel HB.out hb2)
        clear hb2 c0 c1 c2
        go_wp2_with fail
        go_roundw
        case rel => exact ⟨k + 1, m, by omega, by omega, by go_num, by rw [HS.out]; exact HM0.out, by rw [HS.out]; exact HO2.out, HB2⟩
        case measure => simp [intOf]; omega
      · have HG := hid hg
        have HS : Hid (inR T.data.toList S.data.toList (k + 1) = inR T.data.toList S.data.toList k ++ [(k : Int)]) := by rw [inR_succ, if_pos hg]; exact rfl
        clear hg
        go_wp2_with fail
        refine (in_any (k : Int) T S _ _ _ _ hT hS).mono ?_
        rintro e w2 ⟨rfl, hb2⟩
        rw [HG.out]
        have HO2 := hid (owns_below HO.out hb2)
        have HB2 := hid (bel HB.out hb2)
        clear hb2 c0 c1 c2
        have hown := HO2.out
        have hbel := HB2.out
        have HBL := hid hbel.size
        go_wp2_with (at_builtin; refine wpList_app rfl _ _ 27 rfl (w.alloc (.cells #[.string T, .string S, .slice sa sn sc] 24)).heap.size 3 i0 (.int .i64 0) 8 Try.underlying27 hi hz0 hz1 hz2 rfl _ m _ rfl hown hbel HBL.out [.int .i64 (k : Int)] 1 rfl rfl (by intro u hu; simp at hu; subst hu; rfl) (by unfold maxLen; omega) (by omega) ?_)
        intro v' w3 hown3 hbel3
        have HZ : (w.alloc (.cells #[.string T, .string S, .slice sa sn sc] 24)).heap.size = w.heap.size + 1 := by simp
        clear hown hbel
        go_wp2
        go_roundw
        case rel => exact ⟨k + 1, m + 1, by omega, by omega, by go_num, by rw [HS.out, List.length_append, ← HM0.out]; exact rfl, by rw [HS.out, icells_append, HZ]; exact hown3, by rw [HZ]; exact hbel3⟩
        case measure => simp [intOf]; omega
    · obtain rfl : k = 10 := by omega
      go_wp2
      go_ret
      exact ⟨_, rfl, by rw [← HM0.out]; exact owns_base HO.out (by simp), (flat w _).trans (HB.out.mono (by simp))⟩
end Go.Proofs.Ytbkobobnbdblbaa.GrpC
