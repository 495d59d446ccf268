/- Types: small tokens; the essence; few parameters. -/
import Derived.Test.YtlbgcibdpeaomaaDoorMimE
import Derived.Test.YtlbgcibdpeaomaaDoorMimQ
import Derived.Test.YtlbgcibdpeaomaaDoorMim1
import Derived.Deep.QuietTactic
import Derived.BigQuiet
namespace Go.Proofs.YtlbgcibdpeaomaaDoor.MimF
open Go.RowKit Go.Proofs.YtlbgcibdpeaomaaDoor.Base Go.Proofs.YtlbgcibdpeaomaaDoor.Base2 Go.Proofs.YtlbgcibdpeaomaaDoor.UtfL Go.Proofs.YtlbgcibdpeaomaaDoor.TokP Go.Proofs.YtlbgcibdpeaomaaDoor.MimP Go.Proofs.YtlbgcibdpeaomaaDoor.MimA Go.Proofs.YtlbgcibdpeaomaaDoor.MimB Go.Proofs.YtlbgcibdpeaomaaDoor.MimC Go.Proofs.YtlbgcibdpeaomaaDoor.MimD Go.Proofs.YtlbgcibdpeaomaaDoor.MimE Go.Proofs.YtlbgcibdpeaomaaDoor.MimQ Go.Proofs.YtlbgcibdpeaomaaDoor.Mim0 Go.Proofs.YtlbgcibdpeaomaaDoor.Mim1

theorem eq_data (a b : ByteArray) : (a.toList == b.toList) = decide (a.data.toList = b.data.toList) := by
  rw [Lib.toList_data, Lib.toList_data, Bool.eq_iff_iff]
  simp
set_option linter.unusedSimpArgs false in
set_option maxHeartbeats 1000000 in
theorem small_any (s : ByteArray) (w : World) (hs : s.size ≤ 1073741824) : Calls Tryd.prog 36 #[.string s] w fun e w' => e = .returned (.bool (sml s.data.toList)) ∧ Below w.heap.size w w' := by
  have hi := fun w => TokA.is_any s w hs
  obtain ⟨M, hM⟩ : ∃ M : ByteArray, M = strOf (lower s.data.toList) := ⟨_, rfl⟩
  have hq := eq_data M s
  have hlw := fun w => UtfL.lower_any s w (by unfold maxLen; omega)
  rw [← hM] at hlw
  have HLW := hid hlw
  obtain ⟨b, hb⟩ : ∃ b, b = decide (M.data.toList = s.data.toList) := ⟨_, rfl⟩
  rw [← hb] at hq
  have hV : sml s.data.toList = (isTok s.data.toList && b) := by unfold sml; rw [hb, hM]; rfl
  obtain ⟨t, ht⟩ : ∃ t, t = isTok s.data.toList := ⟨_, rfl⟩
  rw [← ht] at hi hV
  have HV := hid hV
  have HI := hid hi
  clear hlw hM hb hV ht hi hs
  go_enter Tryd.func36, Tryd.ntmps36
  go_wp2_with fail
  refine (HI.out _).mono ?_
  rintro e w2 ⟨rfl, hw2⟩
  subst hw2
  cases t with
  | false =>
    go_wp2
    go_ret
    exact ⟨ret_bool (by rw [HV.out]; rfl), Below.refl _ _⟩
  | true =>
    go_wp2_with fail
    refine (HLW.out _).mono ?_
    rintro e w3 ⟨rfl, hb3⟩
    go_wp2
    go_ret
    exact ⟨ret_bool (by rw [HV.out]; simp [hq]), hb3⟩
set_option linter.unusedSimpArgs false in
set_option maxHeartbeats 1000000 in
theorem refSmall_any (s : ByteArray) (w : World) (hs : s.size ≤ 1073741824) : Calls Tryd.prog 38 #[.string s] w fun e w' => e = .returned (.bool (sml s.data.toList)) ∧ Below w.heap.size w w' := by
  have hi := fun w => TokA.ref_is s w hs
  obtain ⟨M, hM⟩ : ∃ M : ByteArray, M = strOf (lower s.data.toList) := ⟨_, rfl⟩
  have hq := eq_data M s
  have hlw := fun w => RefA.lower_any s w (by omega)
  rw [← hM] at hlw
  have HLW := hid hlw
  obtain ⟨b, hb⟩ : ∃ b, b = decide (M.data.toList = s.data.toList) := ⟨_, rfl⟩
  rw [← hb] at hq
  have hV : sml s.data.toList = (isTok s.data.toList && b) := by unfold sml; rw [hb, hM]; rfl
  obtain ⟨t, ht⟩ : ∃ t, t = isTok s.data.toList := ⟨_, rfl⟩
  rw [← ht] at hi hV
  have HV := hid hV
  have HI := hid hi
  clear hlw hM hb hV ht hi hs
  go_enter Tryd.func38, Tryd.ntmps38
  go_wp2_with fail
  refine (HI.out _).mono ?_
  rintro e w2 ⟨rfl, hw2⟩
  subst hw2
  cases t with
  | false =>
    go_wp2
    go_ret
    exact ⟨ret_bool (by rw [HV.out]; rfl), Below.refl _ _⟩
  | true =>
    go_wp2_with fail
    refine (HLW.out _).mono ?_
    rintro e w3 ⟨rfl, hb3⟩
    go_wp2
    go_ret
    exact ⟨ret_bool (by rw [HV.out]; simp [hq]), hb3⟩
set_option linter.unusedSimpArgs false in
set_option maxHeartbeats 1000000 in
theorem essence_any (T S : ByteArray) (v : Value) (w : World) (hT : T.size ≤ 140737488351232) (hS : S.size ≤ 140737488351232) :
    Calls Tryd.prog 20 #[.agg #[.string T, .string S, v]] w fun e w' => e = .returned (.string (strOf (ess T.data.toList S.data.toList))) ∧ Below w.heap.size w w' := by
  obtain ⟨Y, hY⟩ : ∃ Y, Y = T.data.toList ++ [47] := ⟨_, rfl⟩
  obtain ⟨Z, hZ⟩ : ∃ Z, Z = Y ++ S.data.toList := ⟨_, rfl⟩
  have hYl : Y.length = T.size + 1 := by rw [hY, List.length_append, show T.data.toList.length = T.size from Array.length_toList]; rfl
  have a1 : ∀ w : World, (Op.stringOp .add T ⟨#[47]⟩).run Tryd.prog w = .ok (.string (strOf Y)) w := fun w => by rw [hY]; exact str_add' _ ⟨#[47]⟩ w (by show _ + 1 ≤ _; omega)
  have a2 : ∀ w : World, (Op.stringOp .add (strOf Y) S).run Tryd.prog w = .ok (.string (strOf Z)) w := fun w => by rw [hZ]; exact str_add' _ S w (by rw [size_strOf]; omega)
  have HZ : Hid (ess T.data.toList S.data.toList = Z) := by show _ = _; rw [hZ, hY]; simp [ess]
  clear hY hZ hYl hT hS
  go_enter Tryd.func20, Tryd.ntmps20
  go_wp2
  go_ret
  exact ⟨by rw [HZ.out]; rfl, (Below.refl _ _).alloc (Nat.le_refl _) _⟩
/-- Few parameters, with short texts. -/
def FewB (T S : ByteArray) (l : List (ByteArray × ByteArray)) : Prop := l.length ≤ 20 ∧ T.size + S.size ≤ 200 ∧ ∀ p ∈ l, p.1.size + p.2.size ≤ 200
def SomeFew (w : World) (T S : ByteArray) (l : List (ByteArray × ByteArray)) (e : Ending) (w' : World) : Prop := ∃ b : Bool, e = .returned (.bool b) ∧ (b = true → FewB T S l) ∧ Below w.heap.size w w'
set_option linter.unusedSimpArgs false in
set_option maxRecDepth 100000 in
set_option maxHeartbeats 2000000 in
theorem few_any (T S : ByteArray) (A : Option Addr) (n cap : Nat) (l : List (ByteArray × ByteArray)) (w : World) (hr : Prm w A n l) (hc : n ≤ cap) (hm : cap ≤ maxLen) (hsh : Short l) (hT : T.size ≤ 140737488351232) (hS : S.size ≤ 140737488351232) :
    Calls Tryd.prog 14 #[.agg #[.string T, .string S, .slice A n cap]] w (SomeFew w T S l) := by
  unfold maxLen at hm
  have hl := hr.1
  have HR := hid hr
  have HL := hid hl
  have HSH := hid hsh
  clear hr hl hsh
  have fin : ∀ (b : Bool) (w' : World), Below w.heap.size w w' → (b = true → FewB T S l) → SomeFew w T S l (.returned (.bool b)) w' := fun b w' h hb => ⟨b, rfl, hb, h⟩
  have FIN := hid fin
  clear fin
  go_enter Tryd.func14, Tryd.ntmps14
  go_wp2
  go_loopw [3, 7] (fun _ vk wr => ∃ k : Nat, k ≤ n ∧ vk = .int .i64 (k : Int) ∧ Hid (B3 25 wr w.heap.size (.string T) (.string S) (.slice A n cap)) ∧ Hid (Below w.heap.size w wr) ∧ Hid (∀ j (h : j < l.length), j < k → l[j].1.size + l[j].2.size ≤ 200)) (fun _ vk _ => n - (intOf vk).toNat)
  case atStart => exact ⟨0, Nat.zero_le _, rfl, heap_alloc_new w _, (Below.refl _ _).alloc (Nat.le_refl _) _, fun j _ h => by omega⟩
  case round =>
    obtain ⟨k, hk, rfl, HM, HB, HF⟩ := hrel
    obtain ⟨c0, c1, c2⟩ := HM.out.facts
    by_cases hlt : k < n
    · obtain ⟨b, off, rfl, hb, h1, h2⟩ := (HR.out.under HB.out (Nat.le_refl _)).2 k (by rw [HL.out]; exact hlt)
      have hkl : k < l.length := by rw [HL.out]; exact hlt
      have hpz := HSH.out l[k] (List.getElem_mem hkl)
      obtain ⟨s1, hs1⟩ : ∃ s, s = l[k].1 := ⟨_, rfl⟩
      obtain ⟨s2, hs2⟩ : ∃ s, s = l[k].2 := ⟨_, rfl⟩
      rw [← hs1] at h1 hpz
      rw [← hs2] at h2 hpz
      obtain ⟨z1, z2⟩ := hpz
      have HS1 := hid hs1
      have HS2 := hid hs2
      clear hs1 hs2 hb
      have HKL2 := hid hkl
      have hkI : (k : Int) < (n : Int) := by omega
      obtain ⟨n1, hn1⟩ : ∃ z : Int, z = (s1.size : Int) := ⟨_, rfl⟩
      obtain ⟨n2, hn2⟩ : ∃ z : Int, z = (s2.size : Int) := ⟨_, rfl⟩
      by_cases h200 : s1.size + s2.size ≤ 200
      · have HF2 : Hid (∀ j (h : j < l.length), j < k + 1 → l[j].1.size + l[j].2.size ≤ 200) := by
          intro j h hj
          by_cases hjk : j < k
          · exact HF.out j h hjk
          · obtain rfl : j = k := by omega
            rw [← HS1.out, ← HS2.out]
            exact h200
        have hsum : ¬ ((200 : Int) < (s1.size : Int) + (s2.size : Int)) := by omega
        clear h200
        go_wp2
        go_quiet (fail)
        go_wp2
        go_roundw
        case rel => exact ⟨k + 1, by omega, by go_num, HM.out, below_drewN HB.out _, HF2.out⟩
        case measure => simp [intOf]; omega
      · have hsum : (200 : Int) < (s1.size : Int) + (s2.size : Int) := by omega
        clear h200
        go_wp2
        go_quiet (fail)
        go_wp2
        go_ret
        exact FIN.out _ _ (below_drewN HB.out _) (fun h => by cases h)
    · obtain rfl : k = n := by omega
      have HA : Hid (∀ p ∈ l, p.1.size + p.2.size ≤ 200) := by
        intro p hp
        obtain ⟨j, hj, rfl⟩ := List.getElem_of_mem hp
        exact HF.out j hj (by rw [← HL.out]; exact hj)
      by_cases h20 : k ≤ 20
      · have h20i : (k : Int) ≤ 20 := by omega
        by_cases h200 : T.size + S.size ≤ 200
        · have hsum : (T.size : Int) + (S.size : Int) ≤ 200 := by omega
          go_wp2
          go_ret
          exact FIN.out _ _ HB.out (fun _ => ⟨by rw [HL.out]; exact h20, h200, HA.out⟩)
        · have hsum : ¬ (T.size : Int) + (S.size : Int) ≤ 200 := by omega
          go_wp2
          go_ret
          exact FIN.out _ _ HB.out (fun h => by simp at h)
      · have h20i : ¬ (k : Int) ≤ 20 := by omega
        go_wp2
        go_ret
        exact FIN.out _ _ HB.out (fun h => by cases h)
end Go.Proofs.YtlbgcibdpeaomaaDoor.MimF
