/- IPv6 addresses: six.longest, six.Print. -/
import Derived.Test.YtnmkkejodkjjiaaDoorSixH
import Derived.BigQuiet
import Derived.Test.YtnmkkejodkjjiaaDoorRegt
namespace Go.Proofs.YtnmkkejodkjjiaaDoor.SixI
open Go.RowKit Go.Proofs.YtnmkkejodkjjiaaDoor.Base Go.Proofs.YtnmkkejodkjjiaaDoor.Base2 Go.Proofs.YtnmkkejodkjjiaaDoor.QudP Go.Proofs.YtnmkkejodkjjiaaDoor.SixP Go.Proofs.YtnmkkejodkjjiaaDoor.SixQ Go.Proofs.YtnmkkejodkjjiaaDoor.SixA Go.Proofs.YtnmkkejodkjjiaaDoor.SixB Go.Proofs.YtnmkkejodkjjiaaDoor.SixC Go.Proofs.YtnmkkejodkjjiaaDoor.SixG Go.Proofs.YtnmkkejodkjjiaaDoor.SixH Go.Proofs.YtnmkkejodkjjiaaDoor.Regs

theorem bool_nat (x : Nat) : ((x : Int) == 0) = (x == 0) := by
  cases h : (x == 0) with
  | true => have : x = 0 := by simpa using h
            subst this; rfl
  | false => have : x ≠ 0 := by simpa using h
             rw [beq_eq_false_iff_ne]; omega
/-- A new box of eight. -/
theorem box_new {w : World} (f : Nat → Nat) : Box (w.alloc (.cells #[.int .u16 (f 0 : Int), .int .u16 (f 1 : Int), .int .u16 (f 2 : Int), .int .u16 (f 3 : Int), .int .u16 (f 4 : Int), .int .u16 (f 5 : Int), .int .u16 (f 6 : Int), .int .u16 (f 7 : Int)] 24)) w.heap.size 24 (V8 f) := heap_alloc_new _ _
set_option linter.unusedSimpArgs false in
set_option maxRecDepth 100000 in
set_option maxHeartbeats 4000000 in
theorem longest_any (f : Nat → Nat) (w : World) : Calls Tryd.prog 27 #[A8 f] w fun e w' => e = .returned (.tuple #[.int .i64 ((lng (zs f)).1 : Int), .int .i64 ((lng (zs f)).2 : Int)]) ∧ Below w.heap.size w w' := by
  obtain ⟨Z, hZ⟩ : ∃ Z, Z = zs f := ⟨_, rfl⟩
  have HZ := hid hZ
  rw [← hZ]
  have HZL : Hid (Z.length = 8) := by show _ = _; rw [hZ]; rfl
  clear hZ
  unfold A8
  go_enter Tryd.func27, Tryd.ntmps27
  go_upto_region 1 with (fail)
  generalize hw1 : w.alloc _ = w1
  have HB1 : Hid (Below w.heap.size w w1) := by
    show Below _ _ _
    rw [← hw1]
    exact (Below.refl _ _).alloc (Nat.le_refl _) _
  have HX1 : Hid (Box w1 w.heap.size 24 (V8 f)) := by
    show Box _ _ _ _
    rw [← hw1]
    exact box_new f
  clear hw1
  go_wp2
  go_loopw [2, 3, 4, 5] (fun vf vt vk _ wr => ∃ (fu k a b : Nat), vk = .int .i64 (k : Int) ∧ vf = .int .i64 (a : Int) ∧ vt = .int .i64 (b : Int) ∧ k ≤ 9 ∧ a ≤ b ∧ b ≤ 8 ∧ 9 ≤ fu + k ∧ wr = w1 ∧ Hid (lng Z = goC Z fu k a b)) (fun _ _ vk _ _ => 9 - (intOf vk).toNat)
  case atStart => exact ⟨9, 0, 0, 0, rfl, rfl, rfl, by omega, by omega, by omega, by omega, rfl, rfl⟩
  case round =>
    obtain ⟨fu, k0, a, b, rfl, rfl, rfl, hk9, hab, hb8, hfu, rfl, HW⟩ := hrel
    by_cases hlt : k0 < 8
    · obtain ⟨fu', rfl⟩ : ∃ fu', fu = fu' + 1 := ⟨fu - 1, by omega⟩
      have hfu2 : 9 ≤ fu' + (k0 + 1) := by omega
      clear hfu
      go_wp2
      go_loopw [4] (fun vk wx => ∃ k : Nat, k0 ≤ k ∧ k ≤ 8 ∧ vk = .int .i64 (k : Int) ∧ wx = wr ∧ Hid (run Z k0 = (k - k0) + run Z k)) (fun vk _ => 8 - (intOf vk).toNat)
      case atStart => exact ⟨k0, by omega, by omega, rfl, rfl, by show _ = _; omega⟩
      case round =>
        obtain ⟨k, hk0, hk8, rfl, rfl, HR⟩ := hrel
        by_cases hk : k < 8
        · have hc0 := HX1.out.cell k (by show k < 8; exact hk)
          rw [V8_get f k hk] at hc0
          have hzk : Z[k]'(by rw [HZL.out]; exact hk) = (f k == 0) := by
            have := zs_get f k hk (by rw [zs_length]; exact hk)
            simp only [HZ.out]
            exact this
          have HZK := hid hzk
          obtain ⟨x, hx⟩ : ∃ x, f k = x := ⟨_, rfl⟩
          rw [hx] at hc0 HZK
          have hk8i : (k : Int) < 8 := by omega
          clear hx hzk
          by_cases hx0 : x = 0
          · subst hx0
            have HR2 : Hid (run Z k0 = (k + 1 - k0) + run Z (k + 1)) := by
              show _ = _
              rw [HR.out, run_zero (by rw [HZL.out]; exact hk) (by rw [HZK.out]; rfl)]
              omega
            rw [show ((0 : Nat) : Int) = 0 from rfl] at hc0
            go_wp2
            go_roundw
            case rel => exact ⟨k + 1, by omega, by omega, by go_num, by first | rfl | trivial, HR2.out⟩
            case measure => simp [intOf]; omega
          · have hxb : ((x : Int) == 0) = false := by rw [bool_nat]; simpa using hx0
            have hxn : ¬ (x : Int) = 0 := by omega
            have HRE : Hid (run Z k0 = k - k0) := by
              show _ = _
              rw [HR.out, run_nz (by rw [HZL.out]; exact hk) (by rw [HZK.out]; simpa using hx0)]
              rfl
            clear hx0
            by_cases hgt : b - a < k - k0
            · have HW2 : Hid (lng Z = goC Z fu' (k + 1) k0 k) := by
                show _ = _
                rw [HW.out]
                conv => lhs; unfold goC
                rw [if_pos (by rw [HZL.out]; exact hlt), HRE.out, if_pos hgt, show k0 + (k - k0) = k by omega]
              have hgi : (b : Int) - (a : Int) < (k : Int) - (k0 : Int) := by omega
              have hki : (k0 : Int) ≤ (k : Int) := by omega
              have hai : (a : Int) ≤ (b : Int) := by omega
              clear hgt
              go_wp2
              go_roundw
              case rel => exact ⟨fu', k + 1, k0, k, by go_num, rfl, rfl, by omega, by omega, by omega, by omega, by first | rfl | trivial, HW2.out⟩
              case measure => simp [intOf]; omega
            · have HW2 : Hid (lng Z = goC Z fu' (k + 1) a b) := by
                show _ = _
                rw [HW.out]
                conv => lhs; unfold goC
                rw [if_pos (by rw [HZL.out]; exact hlt), HRE.out, if_neg hgt, show k0 + (k - k0) = k by omega]
              have hgi : ¬ (b : Int) - (a : Int) < (k : Int) - (k0 : Int) := by omega
              clear hgt
              go_wp2
              go_roundw
              case rel => exact ⟨fu', k + 1, a, b, by go_num, rfl, rfl, by omega, by omega, by omega, by omega, by first | rfl | trivial, HW2.out⟩
              case measure => simp [intOf]; omega
        · obtain rfl : k = 8 := by omega
          have HRE : Hid (run Z k0 = 8 - k0) := by show _ = _; rw [HR.out, run_end (by rw [HZL.out]; exact Nat.le_refl _)]; rfl
          by_cases hgt : b - a < 8 - k0
          · have HW2 : Hid (lng Z = goC Z fu' (8 + 1) k0 8) := by
              show _ = _
              rw [HW.out]
              conv => lhs; unfold goC
              rw [if_pos (by rw [HZL.out]; exact hlt), HRE.out, if_pos hgt, show k0 + (8 - k0) = 8 by omega]
            have hgi : (b : Int) - (a : Int) < 8 - (k0 : Int) := by omega
            have hki : (k0 : Int) ≤ 8 := by omega
            have hai : (a : Int) ≤ (b : Int) := by omega
            clear hgt
            go_wp2
            go_roundw
            case rel => exact ⟨fu', 8 + 1, k0, 8, by go_num, rfl, rfl, by omega, by omega, by omega, by omega, by first | rfl | trivial, HW2.out⟩
            case measure => simp [intOf]; omega
          · have HW2 : Hid (lng Z = goC Z fu' (8 + 1) a b) := by
              show _ = _
              rw [HW.out]
              conv => lhs; unfold goC
              rw [if_pos (by rw [HZL.out]; exact hlt), HRE.out, if_neg hgt, show k0 + (8 - k0) = 8 by omega]
            have hgi : ¬ (b : Int) - (a : Int) < 8 - (k0 : Int) := by omega
            clear hgt
            go_wp2
            go_roundw
            case rel => exact ⟨fu', 8 + 1, a, b, by go_num, rfl, rfl, by omega, by omega, by omega, by omega, by first | rfl | trivial, HW2.out⟩
            case measure => simp [intOf]; omega
    · have HE : Hid (lng Z = (a, b)) := by show _ = _; rw [HW.out]; exact goC_end (by rw [HZL.out]; omega)
      have hk8i : ¬ (k0 : Int) < 8 := by omega
      go_wp2
      go_ret2
      exact ⟨by rw [HE.out]; rfl, HB1.out⟩
theorem six_eight (f : Nat → Nat) : (lng (zs f)).1 ≤ (lng (zs f)).2 ∧ (lng (zs f)).2 ≤ 8 := by
  have := lng_facts (f 0 == 0) (f 1 == 0) (f 2 == 0) (f 3 == 0) (f 4 == 0) (f 5 == 0) (f 6 == 0) (f 7 == 0)
  exact ⟨this.1, this.2.1⟩
/-- What is printed of an address. -/
def prt (f : Nat → Nat) : List UInt8 := if (lng (zs f)).2 - (lng (zs f)).1 < 2 then jx (V8 f) else jx ((V8 f).take (lng (zs f)).1) ++ [58, 58] ++ jx ((V8 f).drop (lng (zs f)).2)
theorem boxed_rds {w : World} {g : Nat} {t : TypeId} {L : List Nat} (h : Box w g t L) : Rds w (some ⟨g, 0, none⟩) L.length (ncells L) :=
  Rds.of_spot (length_ncells L) (Array.getElem?_eq_some_iff.1 h).1 (fun j hj => by
    rw [Nat.zero_add, h.cell j (by rw [length_ncells] at hj; exact hj)]
    simp [ncells])
theorem V8_mem {f : Nat → Nat} (h : ∀ i, f i < 65536) : ∀ x ∈ V8 f, x < 65536 := by
  intro x hx
  simp only [V8, List.mem_cons, List.not_mem_nil, or_false] at hx
  rcases hx with rfl | rfl | rfl | rfl | rfl | rfl | rfl | rfl <;> exact h _
set_option linter.unusedSimpArgs false in
set_option maxRecDepth 100000 in
set_option maxHeartbeats 4000000 in
theorem print_any (f : Nat → Nat) (h6 : ∀ i, f i < 65536) (w : World) (hL : Lad w) : Calls Tryd.prog 14 #[A8 f] w fun e w' => e = .returned (.string (strOf (prt f))) ∧ Below w.heap.size w w' := by
  obtain ⟨P, hP⟩ : ∃ P, P = prt f := ⟨_, rfl⟩
  rw [← hP]
  have HLAD := hid hL
  have H6 := hid (V8_mem h6)
  have hab := six_eight f
  have hlq := fun w => longest_any f w
  unfold prt at hP
  unfold A8 at hlq ⊢
  obtain ⟨a, ha⟩ : ∃ a, a = (lng (zs f)).1 := ⟨_, rfl⟩
  obtain ⟨b, hb⟩ : ∃ b, b = (lng (zs f)).2 := ⟨_, rfl⟩
  rw [← ha, ← hb] at hP hab
  have hlq2 : ∀ w, Calls Tryd.prog 27 #[.agg #[.int .u16 (f 0 : Int), .int .u16 (f 1 : Int), .int .u16 (f 2 : Int), .int .u16 (f 3 : Int), .int .u16 (f 4 : Int), .int .u16 (f 5 : Int), .int .u16 (f 6 : Int), .int .u16 (f 7 : Int)]] w fun e w' => e = .returned (.tuple #[.int .i64 (a : Int), .int .i64 (b : Int)]) ∧ Below w.heap.size w w' := by
    intro w
    rw [ha, hb]
    exact hlq w
  have HLQ := hid hlq2
  obtain ⟨hab1, hab2⟩ := hab
  have HP := hid hP
  clear hlq hlq2 ha hb hL h6 hP
  go_enter Tryd.func14, Tryd.ntmps14
  go_upto_region 1 with (fail)
  generalize hw1 : w.alloc _ = w1
  have HB1 : Hid (Below w.heap.size w w1) := by
    show Below _ _ _
    rw [← hw1]
    exact (Below.refl _ _).alloc (Nat.le_refl _) _
  have HX1 : Hid (Box w1 w.heap.size 24 (V8 f)) := by
    show Box _ _ _ _
    rw [← hw1]
    exact box_new f
  clear hw1
  obtain ⟨c0, c1, c2, c3, c4, c5, c6, c7⟩ := cells8 HX1.out f rfl
  go_wp2_with fail
  refine (HLQ.out _).mono ?_
  rintro e w2 ⟨rfl, hb2⟩
  have HB2 : Hid (Below w.heap.size w w2) := bel HB1.out hb2
  have HX2 := hid (HX1.out.below hb2)
  have hab3 : (a : Int) ≤ (b : Int) := by omega
  have hb8i : (b : Int) ≤ 8 := by omega
  clear hb2 c0 c1 c2 c3 c4 c5 c6 c7
  by_cases hlt : b - a < 2
  · have hlti : (b : Int) - (a : Int) < 2 := by omega
    have HE : Hid (P = jx (V8 f)) := by show _ = _; rw [HP.out, if_pos hlt]
    clear hlt
    go_wp2_with fail
    refine (join_any _ 8 8 (V8 f) _ (boxed_rds HX2.out) (Nat.le_refl _) H6.out (HLAD.out.below HB2.out)).mono ?_
    rintro e w3 ⟨rfl, hb3⟩
    go_wp2
    go_ret
    exact ⟨by rw [HE.out]; rfl, bel HB2.out hb3⟩
  · have hlti : ¬ (b : Int) - (a : Int) < 2 := by omega
    have ha8 : a ≤ 8 := by omega
    obtain ⟨P1, hP1⟩ : ∃ P1, P1 = strOf (jx ((V8 f).take a)) := ⟨_, rfl⟩
    obtain ⟨P2, hP2⟩ : ∃ P2, P2 = strOf (jx ((V8 f).take a) ++ [58, 58]) := ⟨_, rfl⟩
    obtain ⟨P3, hP3⟩ : ∃ P3, P3 = strOf (jx ((V8 f).drop b)) := ⟨_, rfl⟩
    obtain ⟨P4, hP4⟩ : ∃ P4, P4 = strOf P := ⟨_, rfl⟩
    have hl1 := jx_len ((V8 f).take a)
    have hl2 := jx_len ((V8 f).drop b)
    rw [List.length_take] at hl1
    rw [List.length_drop] at hl2
    have h8l : (V8 f).length = 8 := rfl
    rw [h8l] at hl1 hl2
    have a1 : ∀ w : World, (Op.stringOp .add P1 ⟨#[58, 58]⟩).run Tryd.prog w = .ok (.string P2) w := fun w => by
      rw [hP1, hP2]
      exact str_add _ [58, 58] w (by simp; omega)
    have a2 : ∀ w : World, (Op.stringOp .add P2 P3).run Tryd.prog w = .ok (.string P4) w := fun w => by
      rw [hP2, hP3, hP4, HP.out, if_neg hlt]
      exact str_add _ _ w (by rw [List.length_append]; simp; omega)
    have HP1 := hid hP1
    have HP3 := hid hP3
    have HE : Hid (P4 = strOf P) := hP4
    have HT : Hid (Rds w2 (some ⟨w.heap.size, 0, none⟩) a (ncells ((V8 f).take a))) := by
      have := (boxed_rds HX2.out).upto a (by show a ≤ 8; omega)
      have e : ncells ((V8 f).take a) = (ncells (V8 f)).take a := by simp [ncells]
      show Rds _ _ _ _
      rw [e]
      exact this
    have HD : Hid (Rds w2 (some ⟨w.heap.size, b, none⟩) (8 - b) (ncells ((V8 f).drop b))) := by
      have := (boxed_rds HX2.out).cut b (by show b ≤ 8; omega)
      have e : ncells ((V8 f).drop b) = (ncells (V8 f)).drop b := by simp [ncells]
      show Rds _ _ _ _
      rw [e]
      rw [show (V8 f).length = 8 from rfl, Nat.zero_add] at this
      exact this
    have HM1 : Hid (∀ x ∈ (V8 f).take a, x < 65536) := fun x hx => H6.out x (List.mem_of_mem_take hx)
    have HM2 : Hid (∀ x ∈ (V8 f).drop b, x < 65536) := fun x hx => H6.out x (List.mem_of_mem_drop hx)
    clear hlt hP1 hP2 hP3 hP4 hl1 hl2 h8l
    go_wp2_with fail
    refine wp_region_rel (by kernel_rfl) [is (.int .i64 (a : Int)), is (.slice (some ⟨w.heap.size, 0, none⟩) a 8), is (.string P1), is (.string P2), is (.int .i64 (b : Int)), row (8 - b) (ncells ((V8 f).drop b)), is (.string P3), is (.string P4), is (.string P4)] [[], [0], [1], [2], [], [4], [5], [3, 6], [7]] (by kernel_rfl) ?_ ?_
    · refine ⟨?_, ?_, ?_, ?_, ?_, ?_, ?_, ?_, ?_, trivial⟩
      · intro t wq hbq hh K hK
        clear hh
        simp only [filled, upd, Have, is, any, row, pick, Act.put, List.setIfInBounds_toArray, List.set_cons_zero, List.set_cons_succ, Nat.reduceAdd, Nat.reduceEqDiff, reduceIte] at hK ⊢
        go_simp
        exact hK _ _ (Below.refl _ _) rfl
      · intro t wq hbq hh K hK
        have e0 := hh.1
        simp only [pick] at e0
        replace e0 : t 0 = (.int .i64 (a : Int)) := e0
        clear hh
        simp only [filled, upd, Have, is, any, row, pick, Act.put, List.setIfInBounds_toArray, List.set_cons_zero, List.set_cons_succ, Nat.reduceAdd, Nat.reduceEqDiff, reduceIte] at hK ⊢
        simp only [e0] at hK ⊢
        have ha1 : (a : Int) ≤ 8 := by omega
        have ha0 : (0 : Int) ≤ (a : Int) := by omega
        go_simp
        exact hK _ _ (Below.refl _ _) rfl
      · intro t wq hbq hh K hK
        have e1 := hh.1
        simp only [pick] at e1
        replace e1 : t 1 = (.slice (some ⟨w.heap.size, 0, none⟩) a 8) := e1
        clear hh
        simp only [filled, upd, Have, is, any, row, pick, Act.put, List.setIfInBounds_toArray, List.set_cons_zero, List.set_cons_succ, Nat.reduceAdd, Nat.reduceEqDiff, reduceIte] at hK ⊢
        simp only [e1] at hK ⊢
        go_simp
        refine (join_any _ a 8 ((V8 f).take a) _ (HT.out.below hbq) (by omega) HM1.out (HLAD.out.below (HB2.out.trans (hbq.mono HB2.out.size)))).mono ?_
        rintro e w5 ⟨rfl, hb5⟩
        rw [← HP1.out]
        exact hK _ _ hb5 rfl
      · intro t wq hbq hh K hK
        have e2 := hh.1
        simp only [pick] at e2
        replace e2 : t 2 = (.string P1) := e2
        clear hh
        simp only [filled, upd, Have, is, any, row, pick, Act.put, List.setIfInBounds_toArray, List.set_cons_zero, List.set_cons_succ, Nat.reduceAdd, Nat.reduceEqDiff, reduceIte] at hK ⊢
        simp only [e2] at hK ⊢
        go_simp
        exact hK _ _ (Below.refl _ _) rfl
      · intro t wq hbq hh K hK
        clear hh
        simp only [filled, upd, Have, is, any, row, pick, Act.put, List.setIfInBounds_toArray, List.set_cons_zero, List.set_cons_succ, Nat.reduceAdd, Nat.reduceEqDiff, reduceIte] at hK ⊢
        go_simp
        exact hK _ _ (Below.refl _ _) rfl
      · intro t wq hbq hh K hK
        have e4 := hh.1
        simp only [pick] at e4
        replace e4 : t 4 = (.int .i64 (b : Int)) := e4
        clear hh
        simp only [filled, upd, Have, is, any, row, pick, Act.put, List.setIfInBounds_toArray, List.set_cons_zero, List.set_cons_succ, Nat.reduceAdd, Nat.reduceEqDiff, reduceIte] at hK ⊢
        simp only [e4] at hK ⊢
        have hb1 : (b : Int) ≤ 8 := by omega
        have hb0 : (0 : Int) ≤ (b : Int) := by omega
        by_cases hb8 : b = 8
        · have hz : 8 - b = 0 := by omega
          simp only [hb8] at hK
          go_simp
          exact hK _ _ (Below.refl _ _) ⟨_, _, rfl, by omega, by unfold maxLen; omega, by rw [List.drop_eq_nil_of_le (by show 8 ≤ 8; omega)]; exact Rds.nil _⟩
        · have hz : ¬ 8 - b = 0 := by omega
          have hz2 : ¬ 8 = b := by omega
          go_simp
          exact hK _ _ (Below.refl _ _) ⟨_, _, rfl, Nat.le_refl _, by unfold maxLen; omega, HD.out.below hbq⟩
      · intro t wq hbq hh K hK
        have e5 := hh.1
        simp only [pick] at e5
        clear hh
        simp only [filled, upd, Have, is, any, row, pick, Act.put, List.setIfInBounds_toArray, List.set_cons_zero, List.set_cons_succ, Nat.reduceAdd, Nat.reduceEqDiff, reduceIte] at hK ⊢
        obtain ⟨A5, c5, e5, hc5, hm5, hr5⟩ := e5
        simp only [e5] at hK ⊢
        go_simp
        refine (join_any A5 (8 - b) c5 ((V8 f).drop b) _ hr5 (by omega) HM2.out (HLAD.out.below (HB2.out.trans (hbq.mono HB2.out.size)))).mono ?_
        rintro e w5 ⟨rfl, hb5⟩
        rw [← HP3.out]
        exact hK _ _ hb5 rfl
      · intro t wq hbq hh K hK
        have e3 := hh.1
        simp only [pick] at e3
        replace e3 : t 3 = (.string P2) := e3
        have e6 := hh.2.1
        simp only [pick] at e6
        replace e6 : t 6 = (.string P3) := e6
        clear hh
        simp only [filled, upd, Have, is, any, row, pick, Act.put, List.setIfInBounds_toArray, List.set_cons_zero, List.set_cons_succ, Nat.reduceAdd, Nat.reduceEqDiff, reduceIte] at hK ⊢
        simp only [e3, e6] at hK ⊢
        go_simp
        first | exact hK _ _ (Below.refl _ _) rfl | exact hK _ _ (Below.refl _ _) trivial
      · intro t wq hbq hh K hK
        have e7 := hh.1
        simp only [pick] at e7
        replace e7 : t 7 = (.string P4) := e7
        clear hh
        simp only [filled, upd, Have, is, any, row, pick, Act.put, List.setIfInBounds_toArray, List.set_cons_zero, List.set_cons_succ, Nat.reduceAdd, Nat.reduceEqDiff, reduceIte] at hK ⊢
        simp only [e7] at hK ⊢
        go_simp
        exact hK _ _ (Below.refl _ _) rfl
    · intro t wq hbq hh
      have f8 := have_get hh 8 (by decide)
      simp only [pick] at f8
      replace f8 : t 8 = (.string P4) := f8
      clear hh
      simp only [filled, upd, Have, is, any, row, pick, Act.put, List.setIfInBounds_toArray, List.set_cons_zero, List.set_cons_succ, Nat.reduceAdd, Nat.reduceEqDiff, reduceIte]
      simp only [f8]
      go_wp2
      go_ret
      exact ⟨by rw [← HE.out]; rfl, HB2.out.trans (hbq.mono HB2.out.size)⟩
end Go.Proofs.YtnmkkejodkjjiaaDoor.SixI
