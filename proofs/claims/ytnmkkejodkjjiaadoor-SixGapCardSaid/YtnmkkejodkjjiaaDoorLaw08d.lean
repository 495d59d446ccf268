/- The walk of the law SixGap: it returns true, whatever it is called with. -/
import Derived.Test.YtnmkkejodkjjiaaDoorSixK
import Derived.Test.YtnmkkejodkjjiaaDoorLaw08b
namespace Go.Proofs.YtnmkkejodkjjiaaDoor.Laws
open Go.RowKit Go.Proofs.YtnmkkejodkjjiaaDoor.Base Go.Proofs.YtnmkkejodkjjiaaDoor.Base2 Go.Proofs.YtnmkkejodkjjiaaDoor.SixP Go.Proofs.YtnmkkejodkjjiaaDoor.SixB Go.Proofs.YtnmkkejodkjjiaaDoor.SixC Go.Proofs.YtnmkkejodkjjiaaDoor.SixG Go.Proofs.YtnmkkejodkjjiaaDoor.SixH Go.Proofs.YtnmkkejodkjjiaaDoor.SixI Go.Proofs.YtnmkkejodkjjiaaDoor.SixJ Go.Proofs.YtnmkkejodkjjiaaDoor.SixK Go.Proofs.YtnmkkejodkjjiaaDoor.SixL Go.Proofs.YtnmkkejodkjjiaaDoor.SixM Go.Proofs.YtnmkkejodkjjiaaDoor.Spl

/-- The places from a to k are noughts. -/
def zf (a k : Nat) (f : Nat → Nat) : Nat → Nat := fun i => if a ≤ i ∧ i < k then 0 else f i
theorem zf_start (a : Nat) (f : Nat → Nat) : zf a a f = f := by
  funext i
  unfold zf
  rw [if_neg (by omega)]
theorem zf_set (a k : Nat) (f : Nat → Nat) (hak : a ≤ k) (hk : k < 8) : (V8 (zf a k f)).set k 0 = V8 (zf a (k + 1) f) := by
  refine List.ext_getElem (by simp [V8]) fun i h1 h2 => ?_
  have h8 : i < 8 := h2
  rw [List.getElem_set]
  by_cases hik : k = i
  · subst hik
    rw [if_pos rfl, V8_get _ _ h8]
    unfold zf
    rw [if_pos (by omega)]
  · rw [if_neg hik, V8_get _ _ h8, V8_get _ _ h8]
    unfold zf
    by_cases h : a ≤ i ∧ i < k
    · rw [if_pos h, if_pos (by omega)]
    · rw [if_neg h, if_neg (by omega)]
theorem zf_lt (a k : Nat) (f : Nat → Nat) (h : ∀ i, f i < 65536) : ∀ i, zf a k f i < 65536 := by
  intro i
  unfold zf
  split
  · omega
  · exact h i
theorem zf_gap (a b : Nat) (f : Nat → Nat) : ∀ i (h : i < (V8 (zf a b f)).length), a ≤ i → i < b → (V8 (zf a b f))[i] = 0 := by
  intro i h h1 h2
  rw [V8_get _ _ h]
  unfold zf
  rw [if_pos ⟨h1, h2⟩]
theorem gap_six (a b : Nat) (f : Nat → Nat) (h : ∀ i, f i < 65536) (hab : a < b) (hb : b ≤ 8) (hz : ∀ i (h : i < (V8 f).length), a ≤ i → i < b → (V8 f)[i] = 0) : six (TT (V8 f) a b 8) = some (V8 f) := by
  have h6 := V8_mem h
  rw [TT_some _ _ _ rfl hab hb]
  unfold jx
  rw [List.append_assoc]
  show six (joinC _ ++ 58 :: 58 :: joinC _) = _
  have hV : (V8 f).length = 8 := rfl
  rw [six_gap _ _ _ _ (map_hx _ fun x hx => h6 x (List.mem_of_mem_take hx)) (map_hx _ fun x hx => h6 x (List.mem_of_mem_drop hx)) (by rw [List.length_take, List.length_drop, hV]; omega)]
  rw [fill_gap (V8 f) a b rfl hab hb hz]
theorem TT_open (L : List Nat) (a b : Nat) (hab : a < b) : TT L a b (a + 1) = TT L a b a ++ [58, 58] := by
  unfold TT
  rw [if_neg (by omega), if_pos (Nat.le_refl _), List.drop_eq_nil_of_le (by rw [List.length_take]; omega), jx_nil, List.append_nil]
theorem TT_still (L : List Nat) (a b k : Nat) (hak : a < k) (hkb : k < b) : TT L a b (k + 1) = TT L a b k := by
  unfold TT
  rw [if_neg (by omega), if_neg (by omega), List.drop_eq_nil_of_le (by rw [List.length_take]; omega), List.drop_eq_nil_of_le (by rw [List.length_take]; omega)]
set_option linter.unusedSimpArgs false in
set_option maxRecDepth 100000 in
set_option maxHeartbeats 8000000 in
theorem SixGap_any (g : Nat → Int) (zfr zto : Int) (w : World) (hg : ∀ i, i < 8 → 0 ≤ g i ∧ g i ≤ 65535) (hz1 : 0 ≤ zfr ∧ zfr ≤ 255) (hz2 : 0 ≤ zto ∧ zto ≤ 255) (hL : Lad w) (hM : Max w) : Calls Tryd.prog 6 #[.agg #[.int .u16 (g 0), .int .u16 (g 1), .int .u16 (g 2), .int .u16 (g 3), .int .u16 (g 4), .int .u16 (g 5), .int .u16 (g 6), .int .u16 (g 7)], .int .u8 zfr, .int .u8 zto] w fun e w' => e = .returned (.bool true) ∧ Below w.heap.size w w' := by
  obtain ⟨f, h6, e0, e1, e2, e3, e4, e5, e6, e7⟩ := nat8 g hg
  rw [e0, e1, e2, e3, e4, e5, e6, e7]
  clear e0 e1 e2 e3 e4 e5 e6 e7 hg
  obtain ⟨a, ha⟩ : ∃ a : Nat, a = (zfr % 8).toNat := ⟨_, rfl⟩
  obtain ⟨b, hb⟩ : ∃ b : Nat, b = (zto % 9).toNat := ⟨_, rfl⟩
  have hma : zfr % 8 = (a : Int) := by omega
  have hma2 : zfr.tmod 8 = (a : Int) := by rw [Int.tmod_eq_emod_of_nonneg (by omega)]; omega
  have hmb : zto % 9 = (b : Int) := by omega
  have hmb2 : zto.tmod 9 = (b : Int) := by rw [Int.tmod_eq_emod_of_nonneg (by omega)]; omega
  have ha8 : a < 8 := by omega
  have hb8 : b ≤ 8 := by omega
  have HL := hid hL
  have HM := hid hM
  have H6 := hid h6
  obtain ⟨z10, z11⟩ := hz1
  obtain ⟨z20, z21⟩ := hz2
  clear hL hM h6 ha hb
  by_cases hab : a < b
  · have habi : ¬ (b : Int) ≤ (a : Int) := by omega
    have hdab : decide (b ≤ a) = false := by rw [decide_eq_false_iff_not]; omega
    obtain ⟨F, hF⟩ : ∃ F, F = zf a b f := ⟨_, rfl⟩
    have hF6 : ∀ i, F i < 65536 := by rw [hF]; exact zf_lt a b f H6.out
    have hFz : ∀ i (h : i < (V8 F).length), a ≤ i → i < b → (V8 F)[i] = 0 := by rw [hF]; exact zf_gap a b f
    have heq := fun w => eql_self F w
    obtain ⟨P, hP⟩ : ∃ P, P = strOf (TT (V8 F) a b 8) := ⟨_, rfl⟩
    have hps : P.size ≤ 1048576 := by
      rw [hP, size_strOf]
      have := TT_len (V8 F) a b 8 rfl
      omega
    have hr := fun w hM => SixC.parse_any P w hps hM
    rw [show P.data.toList = TT (V8 F) a b 8 by rw [hP]; rfl, gap_six a b F hF6 hab hb8 hFz] at hr
    have HV : Hid (SixV (some (V8 F)) = .tuple #[.agg #[.int .u16 (F 0 : Int), .int .u16 (F 1 : Int), .int .u16 (F 2 : Int), .int .u16 (F 3 : Int), .int .u16 (F 4 : Int), .int .u16 (F 5 : Int), .int .u16 (F 6 : Int), .int .u16 (F 7 : Int)], .bool true]) := rfl
    rw [HV.out] at hr
    have HR := hid hr
    have HP := hid hP
    have HF := hid hF
    have HF6 := hid hF6
    have HA8 := hid ha8
    have HB8 := hid hb8
    have HAB := hid hab
    clear hps hr HV hF hF6 hFz hP
    go_enter Tryd.func6, Tryd.ntmps6
    go_upto_region 1 with (fail)
    generalize hw1 : w.alloc _ = w1
    have HB1 : Hid (Below w.heap.size w w1) := by
      show Below _ _ _
      rw [← hw1]
      exact (Below.refl _ _).alloc (Nat.le_refl _) _
    have HX1 : Hid (Box w1 w.heap.size 24 (V8 f)) := by
      show Box _ _ _ _
      rw [← hw1]
      exact box_new f
    clear hw1
    go_wp2_with fail
    refine (awake_any _ (HL.out.below HB1.out) (HM.out.below HB1.out)).mono ?_
    rintro e w2 ⟨rfl, hb2⟩
    have HX2 := hid (HX1.out.below hb2)
    have HB2 := hid (bel HB1.out hb2)
    clear hb2 z10 z11 z20 z21 hma hma2 hmb hmb2
    go_wp2_with fail
    go_loopw [9] (fun vk wr => ∃ k : Nat, a ≤ k ∧ k ≤ b ∧ vk = .int .i64 (k : Int) ∧ Hid (Box wr w.heap.size 24 (V8 (zf a k f))) ∧ Hid (Below w.heap.size w wr)) (fun vk _ => b - (intOf vk).toNat)
    case atStart => exact ⟨a, Nat.le_refl _, by omega, rfl, by show Box _ _ _ _; rw [zf_start]; exact HX2.out, HB2.out⟩
    case round =>
      obtain ⟨k, hak, hkb, rfl, HX, HB⟩ := hrel
      by_cases hk : k < b
      · have hk8 : k < 8 := by have := HB8.out; omega
        have hk8i : (k : Int) < 8 := by omega
        have hfz := HX.out.frozen k
        have hc0 := HX.out.cell k hk8
        have HN : Hid (Box (wr.setCell ⟨w.heap.size, k, none⟩ (.int .u16 0)) w.heap.size 24 (V8 (zf a (k + 1) f))) := by
          show Box _ _ _ _
          rw [← zf_set a k f hak hk8]
          exact HX.out.set k 0
        have HNB : Hid (Below w.heap.size w (wr.setCell ⟨w.heap.size, k, none⟩ (.int .u16 0))) := HB.out.setCell (Nat.le_refl _) _
        go_wp2
        go_roundw
        case rel => exact ⟨k + 1, by omega, by omega, by go_num, HN.out, HNB.out⟩
        case measure => simp [intOf]; omega
      · obtain rfl : k = b := by omega
        have HXF : Hid (Box wr w.heap.size 24 (V8 F)) := by show Box _ _ _ _; rw [HF.out]; exact HX.out
        clear hkb hak hk HX
        go_wp2
        go_loopw [10, 11, 36] (fun vs _ vk wx => ∃ (k2 : Nat) (X : ByteArray), k2 ≤ 8 ∧ vk = .int .i64 (k2 : Int) ∧ vs = .string X ∧ wx = wr ∧ Hid (X = strOf (TT (V8 F) a k k2))) (fun _ _ vk _ => 8 - (intOf vk).toNat)
        case atStart => exact ⟨0, ⟨#[]⟩, by omega, rfl, rfl, rfl, by show _ = _; unfold TT; rw [if_pos (Nat.zero_le _)]; rfl⟩
        case round =>
          obtain ⟨j, X, hj8, rfl, rfl, rfl, HX⟩ := hrel
          have hb8 := HB8.out
          have ha8 := HA8.out
          have hab := HAB.out
          by_cases hj : j < 8
          · have hji : (j : Int) < 8 := by omega
            have htl := TT_len (V8 F) a k j rfl
            rcases Nat.lt_trichotomy j a with hja | hja | hja
            · have n1 : ((j : Int) == (a : Int)) = false := by rw [beq_eq_false_iff_ne]; omega
              have n2 : ¬ (a : Int) ≤ (j : Int) := by omega
              have n3 : ((j : Int) != (k : Int)) = true := by rw [bne_iff_ne]; omega
              by_cases hj0 : j = 0
              · have n4 : ¬ (0 : Int) < (j : Int) := by omega
                have HJ0 := hid hj0
                obtain ⟨x, hfx⟩ : ∃ x, F j = x := ⟨_, rfl⟩
                have hc0 := HXF.out.cell j (by show j < 8; exact hj)
                rw [V8_get F j hj, hfx] at hc0
                have HX6 : Hid (x < 65536) := by show _ < _; rw [← hfx]; exact HF6.out j
                have HVX : Hid ((V8 F)[j]'(by show j < 8; exact hj) = x) := by show _ = _; rw [V8_get F j hj, hfx]
                obtain ⟨Z2, hZ2⟩ : ∃ Z2, Z2 = strOf (TT (V8 F) a k (j + 1)) := ⟨_, rfl⟩
                have hsn := (show TT (V8 F) a k (j + 1) = TT (V8 F) a k j ++ hx x by have := TT_snoc0 (V8 F) a k x (by show 0 < 8; omega) (by have := HVX.out; simp only [HJ0.out] at this; exact this) (by omega); rw [HJ0.out]; exact this)
                have hhl := hx_len x
                have HZ2 := hid hZ2
                have a2 : ∀ w : World, (Op.stringOp .add X (strOf (hx x))).run Tryd.prog w = .ok (.string Z2) w := fun w => by
                  rw [hZ2, hsn, HX.out]
                  exact str_add _ _ w (by omega)
                clear hfx hZ2 hsn hhl htl hb8 ha8 hab hj0 hja
                go_wp2_with fail
                refine (own_any x x (Nat.le_refl _) HX6.out _).mono ?_
                rintro e w2 ⟨rfl, hw2⟩
                subst hw2
                go_wp2
                go_roundw
                case rel => exact ⟨j + 1, Z2, by omega, by go_num, rfl, by first | rfl | trivial, HZ2.out⟩
                case measure => simp [intOf]; omega
              · have n4 : (0 : Int) < (j : Int) := by omega
                obtain ⟨x, hfx⟩ : ∃ x, F j = x := ⟨_, rfl⟩
                have hc0 := HXF.out.cell j (by show j < 8; exact hj)
                rw [V8_get F j hj, hfx] at hc0
                have HX6 : Hid (x < 65536) := by show _ < _; rw [← hfx]; exact HF6.out j
                have HVX : Hid ((V8 F)[j]'(by show j < 8; exact hj) = x) := by show _ = _; rw [V8_get F j hj, hfx]
                obtain ⟨Z2, hZ2⟩ : ∃ Z2, Z2 = strOf (TT (V8 F) a k (j + 1)) := ⟨_, rfl⟩
                have hsn := TT_snoc1 (V8 F) a k j x (by show j < 8; exact hj) HVX.out (by omega) hja
                have hhl := hx_len x
                have HZ2 := hid hZ2
                obtain ⟨Y, hY⟩ : ∃ Y, Y = strOf (TT (V8 F) a k j ++ [58]) := ⟨_, rfl⟩
                have a1 : ∀ w : World, (Op.stringOp .add X ⟨#[58]⟩).run Tryd.prog w = .ok (.string Y) w := fun w => by
                  rw [hY, HX.out]
                  exact str_add _ [58] w (by simp; omega)
                have a2 : ∀ w : World, (Op.stringOp .add Y (strOf (hx x))).run Tryd.prog w = .ok (.string Z2) w := fun w => by
                  rw [hZ2, hsn, hY]
                  exact str_add _ _ w (by rw [List.length_append]; simp; omega)
                clear hY
                clear hfx hZ2 hsn hhl htl hb8 ha8 hab hj0 hja
                go_wp2_with fail
                refine (own_any x x (Nat.le_refl _) HX6.out _).mono ?_
                rintro e w2 ⟨rfl, hw2⟩
                subst hw2
                go_wp2
                go_roundw
                case rel => exact ⟨j + 1, Z2, by omega, by go_num, rfl, by first | rfl | trivial, HZ2.out⟩
                case measure => simp [intOf]; omega
            · have n1 : ((j : Int) == (a : Int)) = true := by rw [beq_iff_eq]; omega
              have n2 : (a : Int) ≤ (j : Int) := by omega
              have n3 : (j : Int) < (k : Int) := by omega
              obtain ⟨Z2, hZ2⟩ : ∃ Z2, Z2 = strOf (TT (V8 F) a k (j + 1)) := ⟨_, rfl⟩
              have HZ2 := hid hZ2
              have a1 : ∀ w : World, (Op.stringOp .add X ⟨#[58, 58]⟩).run Tryd.prog w = .ok (.string Z2) w := fun w => by
                rw [hZ2, hja, TT_open _ _ _ hab, HX.out, hja]
                exact str_add _ [58, 58] w (by have h2 := htl; rw [hja] at h2; simp; omega)
              clear hZ2 hja htl hb8 ha8 hab
              go_wp2
              go_roundw
              case rel => exact ⟨j + 1, Z2, by omega, by go_num, rfl, by first | rfl | trivial, HZ2.out⟩
              case measure => simp [intOf]; omega
            · have n1 : ((j : Int) == (a : Int)) = false := by rw [beq_eq_false_iff_ne]; omega
              have n2 : (a : Int) ≤ (j : Int) := by omega
              rcases Nat.lt_trichotomy j k with hjk | hjk | hjk
              · have n3 : (j : Int) < (k : Int) := by omega
                have HZ2 : Hid (X = strOf (TT (V8 F) a k (j + 1))) := by show _ = _; rw [TT_still _ _ _ _ hja hjk]; exact HX.out
                clear hja hjk htl hb8 ha8 hab
                go_wp2
                go_roundw
                case rel => exact ⟨j + 1, X, by omega, by go_num, rfl, by first | rfl | trivial, HZ2.out⟩
                case measure => simp [intOf]; omega
              · have n3 : ¬ (j : Int) < (k : Int) := by omega
                have n4 : (0 : Int) < (j : Int) := by omega
                have n5 : ((j : Int) != (k : Int)) = false := by rw [bne_eq_false_iff_eq]; omega
                have HJK := hid hjk
                obtain ⟨x, hfx⟩ : ∃ x, F j = x := ⟨_, rfl⟩
                have hc0 := HXF.out.cell j (by show j < 8; exact hj)
                rw [V8_get F j hj, hfx] at hc0
                have HX6 : Hid (x < 65536) := by show _ < _; rw [← hfx]; exact HF6.out j
                have HVX : Hid ((V8 F)[j]'(by show j < 8; exact hj) = x) := by show _ = _; rw [V8_get F j hj, hfx]
                obtain ⟨Z2, hZ2⟩ : ∃ Z2, Z2 = strOf (TT (V8 F) a k (j + 1)) := ⟨_, rfl⟩
                have hsn := (show TT (V8 F) a k (j + 1) = TT (V8 F) a k j ++ hx x by have := TT_snocb (V8 F) a k x (by rw [← HJK.out]; show j < 8; exact hj) (by have := HVX.out; simp only [HJK.out] at this; exact this) hab; rw [HJK.out]; exact this)
                have hhl := hx_len x
                have HZ2 := hid hZ2
                have a2 : ∀ w : World, (Op.stringOp .add X (strOf (hx x))).run Tryd.prog w = .ok (.string Z2) w := fun w => by
                  rw [hZ2, hsn, HX.out]
                  exact str_add _ _ w (by omega)
                clear hfx hZ2 hsn hhl htl hb8 ha8 hab hja hjk
                go_wp2_with fail
                refine (own_any x x (Nat.le_refl _) HX6.out _).mono ?_
                rintro e w2 ⟨rfl, hw2⟩
                subst hw2
                go_wp2
                go_roundw
                case rel => exact ⟨j + 1, Z2, by omega, by go_num, rfl, by first | rfl | trivial, HZ2.out⟩
                case measure => simp [intOf]; omega
              · have n3 : ¬ (j : Int) < (k : Int) := by omega
                have n4 : (0 : Int) < (j : Int) := by omega
                have n5 : ((j : Int) != (k : Int)) = true := by rw [bne_iff_ne]; omega
                obtain ⟨x, hfx⟩ : ∃ x, F j = x := ⟨_, rfl⟩
                have hc0 := HXF.out.cell j (by show j < 8; exact hj)
                rw [V8_get F j hj, hfx] at hc0
                have HX6 : Hid (x < 65536) := by show _ < _; rw [← hfx]; exact HF6.out j
                have HVX : Hid ((V8 F)[j]'(by show j < 8; exact hj) = x) := by show _ = _; rw [V8_get F j hj, hfx]
                obtain ⟨Z2, hZ2⟩ : ∃ Z2, Z2 = strOf (TT (V8 F) a k (j + 1)) := ⟨_, rfl⟩
                have hsn := TT_snoc2 (V8 F) a k j x (by show j < 8; exact hj) HVX.out hab hjk
                have hhl := hx_len x
                have HZ2 := hid hZ2
                obtain ⟨Y, hY⟩ : ∃ Y, Y = strOf (TT (V8 F) a k j ++ [58]) := ⟨_, rfl⟩
                have a1 : ∀ w : World, (Op.stringOp .add X ⟨#[58]⟩).run Tryd.prog w = .ok (.string Y) w := fun w => by
                  rw [hY, HX.out]
                  exact str_add _ [58] w (by simp; omega)
                have a2 : ∀ w : World, (Op.stringOp .add Y (strOf (hx x))).run Tryd.prog w = .ok (.string Z2) w := fun w => by
                  rw [hZ2, hsn, hY]
                  exact str_add _ _ w (by rw [List.length_append]; simp; omega)
                clear hY
                clear hfx hZ2 hsn hhl htl hb8 ha8 hab hja hjk
                go_wp2_with fail
                refine (own_any x x (Nat.le_refl _) HX6.out _).mono ?_
                rintro e w2 ⟨rfl, hw2⟩
                subst hw2
                go_wp2
                go_roundw
                case rel => exact ⟨j + 1, Z2, by omega, by go_num, rfl, by first | rfl | trivial, HZ2.out⟩
                case measure => simp [intOf]; omega
          · obtain rfl : j = 8 := by omega
            have HE : Hid (X = P) := by show _ = _; rw [HX.out, HP.out]
            obtain rfl : X = P := HE.out
            clear hb8 ha8 hab
            go_wp2_with fail
            refine (HR.out _ (HM.out.below HB.out)).mono ?_
            rintro e w3 ⟨rfl, hb3⟩
            have HX3 := hid (HXF.out.below hb3)
            have HB3 := hid (bel HB.out hb3)
            clear hb3
            go_upto_region 20 with (fail)
            generalize hw5 : w3.alloc _ = w5
            have HB5 : Hid (Below w.heap.size w w5) := by
              show Below _ _ _
              rw [← hw5]
              exact HB3.out.alloc HB3.out.size _
            have HX5 : Hid (Box w5 w.heap.size 24 (V8 F)) := by
              show Box _ _ _ _
              rw [← hw5]
              exact HX3.out.below ((Below.refl _ _).alloc (Nat.le_refl _) _)
            have HY5 : Hid (Box w5 w3.heap.size 24 (V8 F)) := by
              show Box _ _ _ _
              rw [← hw5]
              exact box_new F
            clear hw5
            obtain ⟨c0, c1, c2, c3, c4, c5, c6, c7⟩ := cells8 HX5.out F rfl
            obtain ⟨d0, d1, d2, d3, d4, d5, d6, d7⟩ := cells8 HY5.out F rfl
            go_wp2
            go_ret
            exact ⟨rfl, HB5.out⟩
  · have habi : (b : Int) ≤ (a : Int) := by omega
    clear hab
    go_enter Tryd.func6, Tryd.ntmps6
    go_upto_region 1 with (fail)
    generalize hw1 : w.alloc _ = w1
    have HB1 : Hid (Below w.heap.size w w1) := by
      show Below _ _ _
      rw [← hw1]
      exact (Below.refl _ _).alloc (Nat.le_refl _) _
    clear hw1
    go_wp2_with fail
    refine (awake_any _ (HL.out.below HB1.out) (HM.out.below HB1.out)).mono ?_
    rintro e w2 ⟨rfl, hb2⟩
    have HB2 := hid (bel HB1.out hb2)
    clear hb2
    go_wp2_with fail
    refine (awake_any _ (HL.out.below HB2.out) (HM.out.below HB2.out)).mono ?_
    rintro e w3 ⟨rfl, hb3⟩
    go_wp2
    go_ret
    exact ⟨rfl, bel HB2.out hb3⟩
end Go.Proofs.YtnmkkejodkjjiaaDoor.Laws
