/- Types: whether two are alike, by the code and by the document. -/
import Derived.Test.YtlbgcibdpeaomaaDoorMimI
import Derived.Laws.StructEq
import Derived.Deep.QuietTactic
import Derived.BigQuiet
namespace Go.Proofs.YtlbgcibdpeaomaaDoor.MimL
open Go.RowKit Go.Proofs.YtlbgcibdpeaomaaDoor.Base Go.Proofs.YtlbgcibdpeaomaaDoor.Base2 Go.Proofs.YtlbgcibdpeaomaaDoor.UtfL Go.Proofs.YtlbgcibdpeaomaaDoor.TokP Go.Proofs.YtlbgcibdpeaomaaDoor.MimP Go.Proofs.YtlbgcibdpeaomaaDoor.MimA Go.Proofs.YtlbgcibdpeaomaaDoor.MimB Go.Proofs.YtlbgcibdpeaomaaDoor.MimC Go.Proofs.YtlbgcibdpeaomaaDoor.MimD Go.Proofs.YtlbgcibdpeaomaaDoor.MimE Go.Proofs.YtlbgcibdpeaomaaDoor.MimQ Go.Proofs.YtlbgcibdpeaomaaDoor.MimF Go.Proofs.YtlbgcibdpeaomaaDoor.MimH Go.Proofs.YtlbgcibdpeaomaaDoor.MimI Go.Proofs.YtlbgcibdpeaomaaDoor.Mim0 Go.Proofs.YtlbgcibdpeaomaaDoor.Mim1

theorem ext_str {a b : ByteArray} (h : a.data.toList = b.data.toList) : a = b := by
  cases a; cases b; simp at h; subst h; rfl
theorem eq_str (a b : ByteArray) : (a.toList == b.toList) = decide (a = b) := by
  rw [eq_data, Bool.eq_iff_iff, decide_eq_true_iff, decide_eq_true_iff]
  exact ⟨ext_str, fun h => by rw [h]⟩
theorem tl_str (a b : ByteArray) : a.toList = b.toList ↔ a = b := by
  rw [Lib.toList_data, Lib.toList_data]
  exact ⟨ext_str, fun h => by rw [h]⟩
theorem take_two {l m : List (ByteArray × ByteArray)} {k : Nat} (h : k < l.length) (h2 : k < m.length) (ht : l.take k = m.take k) (e : l[k] = m[k]) : l.take (k + 1) = m.take (k + 1) := by
  rw [List.take_succ_eq_append_getElem h, List.take_succ_eq_append_getElem h2, ht, e]
theorem below_drewN' (w : World) (n : Nat) : Below w.heap.size w (w.drewN n) := below_drewN (Below.refl _ _) n
set_option linter.unusedSimpArgs false in
set_option maxRecDepth 100000 in
set_option maxHeartbeats 4000000 in
theorem equal_any (A A2 : Option Addr) (n n2 cap cap2 : Nat) (l m : List (ByteArray × ByteArray)) (w : World) (hR : Prm w A n l) (hR2 : Prm w A2 n2 m) (hc : n ≤ cap) (hm : cap ≤ maxLen) (hc2 : n2 ≤ cap2) (hm2 : cap2 ≤ maxLen) :
    Calls Tryd.prog 43 #[.slice A n cap, .slice A2 n2 cap2] w fun e w' => e = .returned (.bool (decide (l = m))) ∧ Below w.heap.size w w' := by
  unfold maxLen at hm hm2
  have hn : l.length = n := hR.1
  have hn2 : m.length = n2 := hR2.1
  have HN := hid hn
  have HN2 := hid hn2
  have HR := hid hR
  have HR2 := hid hR2
  clear hR hR2 hn hn2
  by_cases he : n = n2
  · obtain rfl := he
    have q1 : ((n : Int) == (n : Int)) = true := by simp
    have q2 : ((n : Int) != (n : Int)) = false := by simp
    go_enter Tryd.func43, Tryd.ntmps43
    go_wp2
    go_loopw [5, 13] (fun _ vk wr => ∃ k : Nat, k ≤ n ∧ vk = .int .i64 (k : Int) ∧ Hid (l.take k = m.take k) ∧ Hid (Below w.heap.size w wr)) (fun _ vk _ => n - (intOf vk).toNat)
    case atStart => exact ⟨0, Nat.zero_le _, rfl, rfl, Below.refl _ _⟩
    case round =>
      obtain ⟨k, hk, rfl, HT, HBL⟩ := hrel
      by_cases hlt : k < n
      · have hkl : k < l.length := by rw [HN.out]; exact hlt
        have hkm : k < m.length := by rw [HN2.out]; exact hlt
        obtain ⟨b, off, rfl, hb, h1, h2⟩ := (HR.out.under HBL.out (Nat.le_refl _)).2 k hkl
        obtain ⟨b2, off2, rfl, hb2, h3, h4⟩ := (HR2.out.under HBL.out (Nat.le_refl _)).2 k hkm
        have HTT := hid (take_two hkl hkm HT.out)
        have HX : Hid (l[k] ≠ m[k] → l ≠ m) := by
          intro e1 e2
          subst e2
          exact e1 rfl
        obtain ⟨⟨s1, s2⟩, hs⟩ : ∃ s, s = l[k] := ⟨_, rfl⟩
        obtain ⟨⟨t1, t2⟩, ht⟩ : ∃ s, s = m[k] := ⟨_, rfl⟩
        rw [← hs] at h1 h2 HX HTT
        rw [← ht] at h3 h4 HX HTT
        clear hs ht hkl hkm hb hb2
        have hki : (k : Int) < (n : Int) := by omega
        simp only [] at h1 h2 h3 h4
        by_cases e1 : s1 = t1
        · by_cases e2 : s2 = t2
          · have HY : Hid (l.take (k + 1) = m.take (k + 1)) := HTT.out (by rw [e1, e2])
            have p1 := (tl_str s1 t1).2 e1
            have p2 := (tl_str s2 t2).2 e2
            have HE1 := hid e1
            have HE2 := hid e2
            clear e1 e2
            go_wp2_with fail
            go_quiet (fail)
            have hbq := HBL.out.trans ((below_drewN' wr nq).mono HBL.out.size)
            generalize wr.drewN nq = wq at hbq ⊢
            go_wp2
            go_roundw
            case rel => exact ⟨k + 1, by omega, by go_num, HY.out, hbq⟩
            case measure => simp [intOf]; omega
          · have HE : Hid (decide (l = m) = false) := decide_eq_false (HX.out (fun h => e2 (by injection h)))
            have p1 := (tl_str s1 t1).2 e1
            have p2 : ¬ s2.toList = t2.toList := fun h => e2 ((tl_str s2 t2).1 h)
            have HE1 := hid e1
            have HE2 := hid e2
            clear e1 e2
            go_wp2_with fail
            go_quiet (fail)
            have hbq := HBL.out.trans ((below_drewN' wr nq).mono HBL.out.size)
            generalize wr.drewN nq = wq at hbq ⊢
            go_wp2
            go_ret
            exact ⟨ret_bool HE.out.symm, hbq⟩
        · have HE : Hid (decide (l = m) = false) := decide_eq_false (HX.out (fun h => e1 (by injection h)))
          have p1 : ¬ s1.toList = t1.toList := fun h => e1 ((tl_str s1 t1).1 h)
          have HE1 := hid e1
          clear e1
          go_wp2_with fail
          go_quiet (fail)
          have hbq := HBL.out.trans ((below_drewN' wr nq).mono HBL.out.size)
          generalize wr.drewN nq = wq at hbq ⊢
          go_wp2
          go_ret
          exact ⟨ret_bool HE.out.symm, hbq⟩
      · obtain rfl : k = n := by omega
        have HE : Hid (decide (l = m) = true) := decide_eq_true (by
          have h := HT.out
          rw [List.take_of_length_le (by rw [HN.out]; exact Nat.le_refl _), List.take_of_length_le (by rw [HN2.out]; exact Nat.le_refl _)] at h
          exact h)
        go_wp2
        go_ret
        exact ⟨ret_bool HE.out.symm, HBL.out⟩
  · have q1 : ((n : Int) == (n2 : Int)) = false := by simp; omega
    have q2 : ((n : Int) != (n2 : Int)) = true := by simp; omega
    have HE : Hid (decide (l = m) = false) := decide_eq_false (fun h => he (by rw [← HN.out, ← HN2.out, h]))
    clear he
    go_enter Tryd.func43, Tryd.ntmps43
    go_wp2
    go_ret
    exact ⟨ret_bool HE.out.symm, Below.refl _ _⟩
def sameM (T S : ByteArray) (l : List (ByteArray × ByteArray)) (T2 S2 : ByteArray) (m : List (ByteArray × ByteArray)) : Bool := decide (T = T2) && (decide (S = S2) && decide (l = m))
set_option linter.unusedSimpArgs false in
set_option maxRecDepth 100000 in
set_option maxHeartbeats 4000000 in
theorem same_any (T S : ByteArray) (A : Option Addr) (n cap : Nat) (l : List (ByteArray × ByteArray)) (T2 S2 : ByteArray) (A2 : Option Addr) (n2 cap2 : Nat) (m : List (ByteArray × ByteArray)) (w : World) (hR : Prm w A n l) (hR2 : Prm w A2 n2 m) (hc : n ≤ cap) (hm : cap ≤ maxLen) (hc2 : n2 ≤ cap2) (hm2 : cap2 ≤ maxLen) :
    Calls Tryd.prog 21 #[.agg #[.string T, .string S, .slice A n cap], .agg #[.string T2, .string S2, .slice A2 n2 cap2]] w fun e w' => e = .returned (.bool (sameM T S l T2 S2 m)) ∧ Below w.heap.size w w' := by
  have q1 := eq_str T T2
  have q2 := eq_str S S2
  obtain ⟨b1, hb1⟩ : ∃ b, b = decide (T = T2) := ⟨_, rfl⟩
  obtain ⟨b2, hb2⟩ : ∃ b, b = decide (S = S2) := ⟨_, rfl⟩
  obtain ⟨b3, hb3⟩ : ∃ b, b = decide (l = m) := ⟨_, rfl⟩
  have HV : Hid (sameM T S l T2 S2 m = (b1 && (b2 && b3))) := by show _ = _; rw [hb1, hb2, hb3]; rfl
  rw [← hb1] at q1
  rw [← hb2] at q2
  have HEQ := hid (fun (w' : World) (h : Below w.heap.size w w') => equal_any A A2 n n2 cap cap2 l m w' (hR.under h (Nat.le_refl _)) (hR2.under h (Nat.le_refl _)) hc hm hc2 hm2)
  rw [← hb3] at HEQ
  clear hb1 hb2 hb3 hR hR2
  cases b1 with
  | false =>
    go_enter Tryd.func21, Tryd.ntmps21
    go_wp2
    go_ret
    exact ⟨ret_bool (by rw [HV.out]; rfl), ((Below.refl _ _).alloc (Nat.le_refl _) _).alloc (by simp) _⟩
  | true =>
    cases b2 with
    | false =>
      go_enter Tryd.func21, Tryd.ntmps21
      go_wp2
      go_ret
      exact ⟨ret_bool (by rw [HV.out]; rfl), ((Below.refl _ _).alloc (Nat.le_refl _) _).alloc (by simp) _⟩
    | true =>
      go_enter Tryd.func21, Tryd.ntmps21
      go_wp2_with fail
      refine (HEQ.out _ (((Below.refl _ _).alloc (Nat.le_refl _) _).alloc (by simp) _)).mono ?_
      rintro e w2 ⟨rfl, hb2⟩
      go_wp2
      go_ret
      exact ⟨ret_bool (by rw [HV.out]; first | rfl | simp), (((Below.refl _ _).alloc (Nat.le_refl _) _).alloc (by simp) _).trans (hb2.mono (by simp; omega))⟩
set_option linter.unusedSimpArgs false in
set_option maxRecDepth 100000 in
set_option maxHeartbeats 4000000 in
theorem refSame_any (T S : ByteArray) (A : Option Addr) (n cap : Nat) (l : List (ByteArray × ByteArray)) (T2 S2 : ByteArray) (A2 : Option Addr) (n2 cap2 : Nat) (m : List (ByteArray × ByteArray)) (w : World) (hR : Prm w A n l) (hR2 : Prm w A2 n2 m) (hc : n ≤ cap) (hm : cap ≤ maxLen) (hc2 : n2 ≤ cap2) (hm2 : cap2 ≤ maxLen) :
    Calls Tryd.prog 12 #[.agg #[.string T, .string S, .slice A n cap], .agg #[.string T2, .string S2, .slice A2 n2 cap2]] w fun e w' => e = .returned (.bool (sameM T S l T2 S2 m)) ∧ Below w.heap.size w w' := by
  unfold maxLen at hm hm2
  have hn : l.length = n := hR.1
  have hn2 : m.length = n2 := hR2.1
  have HN := hid hn
  have HN2 := hid hn2
  have HR := hid hR
  have HR2 := hid hR2
  have q1 := eq_str T T2
  have q2 := eq_str S S2
  obtain ⟨b1, hb1⟩ : ∃ b, b = decide (T = T2) := ⟨_, rfl⟩
  obtain ⟨b2, hb2⟩ : ∃ b, b = decide (S = S2) := ⟨_, rfl⟩
  have HV0 : Hid (sameM T S l T2 S2 m = (b1 && (b2 && decide (l = m)))) := by show _ = _; rw [hb1, hb2]; rfl
  rw [← hb1] at q1
  rw [← hb2] at q2
  clear hb1 hb2 hR hR2 hn hn2
  have start : Below w.heap.size w ((w.alloc (.cells #[.string T, .string S, .slice A n cap] 25)).alloc (.cells #[.string T2, .string S2, .slice A2 n2 cap2] 25)) := ((Below.refl _ _).alloc (Nat.le_refl _) _).alloc (by simp) _
  cases b1 with
  | false =>
    go_enter Tryd.func12, Tryd.ntmps12
    go_wp2
    go_ret
    exact ⟨ret_bool (by rw [HV0.out]; rfl), start⟩
  | true =>
    cases b2 with
    | false =>
      go_enter Tryd.func12, Tryd.ntmps12
      go_wp2
      go_ret
      exact ⟨ret_bool (by rw [HV0.out]; rfl), start⟩
    | true =>
      have HV : Hid (sameM T S l T2 S2 m = decide (l = m)) := by show _ = _; rw [HV0.out]; simp
      by_cases he : n = n2
      · obtain rfl := he
        have q3 : ((n : Int) == (n : Int)) = true := by simp
        have q4 : ((n : Int) != (n : Int)) = false := by simp
        go_enter Tryd.func12, Tryd.ntmps12
        go_upto_region 1 with (fail)
        have HX2 : Hid (B3 25 ((w.alloc (.cells #[.string T, .string S, .slice A n cap] 25)).alloc (.cells #[.string T2, .string S2, .slice A2 n cap2] 25)) (w.heap.size + 1) (.string T2) (.string S2) (.slice A2 n cap2)) := by
          have h := heap_alloc_new (w.alloc (.cells #[.string T, .string S, .slice A n cap] 25)) (.cells #[.string T2, .string S2, .slice A2 n cap2] 25)
          simp only [World.size_alloc] at h
          exact h
        have HX1 : Hid (B3 25 ((w.alloc (.cells #[.string T, .string S, .slice A n cap] 25)).alloc (.cells #[.string T2, .string S2, .slice A2 n cap2] 25)) w.heap.size (.string T) (.string S) (.slice A n cap)) := B3.below (heap_alloc_new w _) ((Below.refl _ _).alloc (Nat.le_refl _) _)
        generalize (w.alloc _).alloc _ = w1 at start HX1 HX2 ⊢
        have HB1 := hid start
        clear start
        obtain ⟨c0, c1, c2⟩ := HX1.out.facts
        obtain ⟨d0, d1, d2⟩ := HX2.out.facts
        go_upto_region 4 with (fail)
        clear c0 c1 c2 d0 d1 d2
        go_loopw [5, 30] (fun _ vk wr => ∃ k : Nat, k ≤ n ∧ vk = .int .i64 (k : Int) ∧ Hid (l.take k = m.take k) ∧ Hid (Below w.heap.size w wr) ∧ Hid (B3 25 wr w.heap.size (.string T) (.string S) (.slice A n cap)) ∧ Hid (B3 25 wr (w.heap.size + 1) (.string T2) (.string S2) (.slice A2 n cap2))) (fun _ vk _ => n - (intOf vk).toNat)
        case atStart => exact ⟨0, Nat.zero_le _, rfl, rfl, HB1.out, HX1.out, HX2.out⟩
        case round =>
          obtain ⟨k, hk, rfl, HT, HBL, HX1, HX2⟩ := hrel
          by_cases hlt : k < n
          · have hkl : k < l.length := by rw [HN.out]; exact hlt
            have hkm : k < m.length := by rw [HN2.out]; exact hlt
            obtain ⟨b, off, rfl, hb, h1, h2⟩ := (HR.out.under HBL.out (Nat.le_refl _)).2 k hkl
            obtain ⟨b2, off2, rfl, hb2, h3, h4⟩ := (HR2.out.under HBL.out (Nat.le_refl _)).2 k hkm
            have HTT := hid (take_two hkl hkm HT.out)
            have HX : Hid (l[k] ≠ m[k] → l ≠ m) := by
              intro e1 e2
              subst e2
              exact e1 rfl
            obtain ⟨⟨s1, s2⟩, hs⟩ : ∃ s, s = l[k] := ⟨_, rfl⟩
            obtain ⟨⟨t1, t2⟩, ht⟩ : ∃ s, s = m[k] := ⟨_, rfl⟩
            rw [← hs] at h1 h2 HX HTT
            rw [← ht] at h3 h4 HX HTT
            clear hs ht hkl hkm hb hb2
            have hki : (k : Int) < (n : Int) := by omega
            simp only [] at h1 h2 h3 h4
            obtain ⟨c0, c1, c2⟩ := HX1.out.facts
            obtain ⟨d0, d1, d2⟩ := HX2.out.facts
            by_cases e1 : s1 = t1
            · by_cases e2 : s2 = t2
              · have HY : Hid (l.take (k + 1) = m.take (k + 1)) := HTT.out (by rw [e1, e2])
                have p1 := (tl_str s1 t1).2 e1
                have p2 := (tl_str s2 t2).2 e2
                have HE1 := hid e1
                have HE2 := hid e2
                clear e1 e2
                go_wp2_with fail
                go_quiet (fail)
                have hbq := HBL.out.trans ((below_drewN' wr nq).mono HBL.out.size)
                have HXq : Hid (B3 25 (wr.drewN nq) w.heap.size (.string T) (.string S) (.slice (some ⟨b, off, none⟩) n cap)) := HX1.out
                have HXq2 : Hid (B3 25 (wr.drewN nq) (w.heap.size + 1) (.string T2) (.string S2) (.slice (some ⟨b2, off2, none⟩) n cap2)) := HX2.out
                generalize wr.drewN nq = wq at hbq HXq HXq2 ⊢
                go_wp2
                go_roundw
                case rel => exact ⟨k + 1, by omega, by go_num, HY.out, hbq, HXq.out, HXq2.out⟩
                case measure => simp [intOf]; omega
              · have HE : Hid (decide (l = m) = false) := decide_eq_false (HX.out (fun h => e2 (by injection h)))
                have p1 := (tl_str s1 t1).2 e1
                have p2 : ¬ s2.toList = t2.toList := fun h => e2 ((tl_str s2 t2).1 h)
                have HE1 := hid e1
                have HE2 := hid e2
                clear e1 e2
                go_wp2_with fail
                go_quiet (fail)
                have hbq := HBL.out.trans ((below_drewN' wr nq).mono HBL.out.size)
                generalize wr.drewN nq = wq at hbq ⊢
                go_wp2
                go_ret
                exact ⟨ret_bool (by rw [HV.out, HE.out]), hbq⟩
            · have HE : Hid (decide (l = m) = false) := decide_eq_false (HX.out (fun h => e1 (by injection h)))
              have p1 : ¬ s1.toList = t1.toList := fun h => e1 ((tl_str s1 t1).1 h)
              have HE1 := hid e1
              clear e1
              go_wp2_with fail
              go_quiet (fail)
              have hbq := HBL.out.trans ((below_drewN' wr nq).mono HBL.out.size)
              generalize wr.drewN nq = wq at hbq ⊢
              go_wp2
              go_ret
              exact ⟨ret_bool (by rw [HV.out, HE.out]), hbq⟩
          · obtain rfl : k = n := by omega
            have HE : Hid (decide (l = m) = true) := decide_eq_true (by
              have h := HT.out
              rw [List.take_of_length_le (by rw [HN.out]; exact Nat.le_refl _), List.take_of_length_le (by rw [HN2.out]; exact Nat.le_refl _)] at h
              exact h)
            go_wp2
            go_ret
            exact ⟨ret_bool (by rw [HV.out, HE.out]), HBL.out⟩
      · have q3 : ((n : Int) == (n2 : Int)) = false := by simp; omega
        have q4 : ((n : Int) != (n2 : Int)) = true := by simp; omega
        have HE : Hid (decide (l = m) = false) := decide_eq_false (fun h => he (by rw [← HN.out, ← HN2.out, h]))
        clear he
        go_enter Tryd.func12, Tryd.ntmps12
        go_wp2
        go_ret
        exact ⟨ret_bool (by rw [HV.out, HE.out]), start⟩
end Go.Proofs.YtlbgcibdpeaomaaDoor.MimL
