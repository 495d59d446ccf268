/- The walk of the law SixFull: it returns true, whatever it is called with. -/
import Derived.Test.YtnmkkejodkjjiaaDoorSixN
import Derived.Test.YtnmkkejodkjjiaaDoorLaw08b
namespace Go.Proofs.YtnmkkejodkjjiaaDoor.Laws
open Go.RowKit Go.Proofs.YtnmkkejodkjjiaaDoor.Base Go.Proofs.YtnmkkejodkjjiaaDoor.Base2 Go.Proofs.YtnmkkejodkjjiaaDoor.SixP Go.Proofs.YtnmkkejodkjjiaaDoor.SixB Go.Proofs.YtnmkkejodkjjiaaDoor.SixC Go.Proofs.YtnmkkejodkjjiaaDoor.SixG Go.Proofs.YtnmkkejodkjjiaaDoor.SixH Go.Proofs.YtnmkkejodkjjiaaDoor.SixI Go.Proofs.YtnmkkejodkjjiaaDoor.SixL Go.Proofs.YtnmkkejodkjjiaaDoor.SixM Go.Proofs.YtnmkkejodkjjiaaDoor.SixN Go.Proofs.YtnmkkejodkjjiaaDoor.Spl

theorem cell_u8 {w : World} {g : Nat} {t : TypeId} {q : Nat → Nat} (h : w.heap[g]? = some (.cells #[.int .u8 (q 0 : Int), .int .u8 (q 1 : Int), .int .u8 (q 2 : Int), .int .u8 (q 3 : Int), .int .u8 (q 4 : Int), .int .u8 (q 5 : Int), .int .u8 (q 6 : Int), .int .u8 (q 7 : Int)] t (0, 0))) (k : Nat) (hk : k < 8) :
    w.cell? ⟨g, k, none⟩ = some (.int .u8 (q k : Int)) := by
  rw [cell_of_row w g k _ t (0, 0) h]
  rcases eight k hk with rfl | rfl | rfl | rfl | rfl | rfl | rfl | rfl <;> rfl
theorem nat8b (g : Nat → Int) (hg : ∀ i, i < 8 → 0 ≤ g i ∧ g i ≤ 255) : ∃ f : Nat → Nat, (∀ i, f i ≤ 255) ∧ g 0 = (f 0 : Int) ∧ g 1 = (f 1 : Int) ∧ g 2 = (f 2 : Int) ∧ g 3 = (f 3 : Int) ∧ g 4 = (f 4 : Int) ∧ g 5 = (f 5 : Int) ∧ g 6 = (f 6 : Int) ∧ g 7 = (f 7 : Int) := by
  refine ⟨fun i => if i < 8 then (g i).toNat else 0, fun i => ?_, ?_⟩
  · by_cases h : i < 8
    · have := hg i h
      simp only [h, if_true]
      omega
    · simp only [h, if_false]
      omega
  · have h0 := hg 0 (by omega)
    have h1 := hg 1 (by omega)
    have h2 := hg 2 (by omega)
    have h3 := hg 3 (by omega)
    have h4 := hg 4 (by omega)
    have h5 := hg 5 (by omega)
    have h6 := hg 6 (by omega)
    have h7 := hg 7 (by omega)
    simp
    omega
def Rn (m : Nat) (v : Value) : Prop := (m = 0 ∧ v = .int .i64 3) ∨ (m = 1 ∧ v = .int .i64 2) ∨ (m = 2 ∧ v = .int .i64 1) ∨ (m = 3 ∧ v = .int .i64 0) ∨ (m = 4 ∧ v = .int .i64 (-1))
set_option linter.unusedSimpArgs false in
set_option maxRecDepth 100000 in
set_option maxHeartbeats 8000000 in
theorem SixFull_any (g : Nat → Int) (b : Bool) (gw : Nat → Int) (w : World) (hg : ∀ i, i < 8 → 0 ≤ g i ∧ g i ≤ 65535) (hgw : ∀ i, i < 8 → 0 ≤ gw i ∧ gw i ≤ 255) (hL : Lad w) (hM : Max w) : Calls Tryd.prog 5 #[.agg #[.int .u16 (g 0), .int .u16 (g 1), .int .u16 (g 2), .int .u16 (g 3), .int .u16 (g 4), .int .u16 (g 5), .int .u16 (g 6), .int .u16 (g 7)], .bool b, .agg #[.int .u8 (gw 0), .int .u8 (gw 1), .int .u8 (gw 2), .int .u8 (gw 3), .int .u8 (gw 4), .int .u8 (gw 5), .int .u8 (gw 6), .int .u8 (gw 7)]] w fun e w' => e = .returned (.bool true) ∧ Below w.heap.size w w' := by
  obtain ⟨f, h6, e0, e1, e2, e3, e4, e5, e6, e7⟩ := nat8 g hg
  rw [e0, e1, e2, e3, e4, e5, e6, e7]
  clear e0 e1 e2 e3 e4 e5 e6 e7 hg
  obtain ⟨q, hq, e0, e1, e2, e3, e4, e5, e6, e7⟩ := nat8b gw hgw
  rw [e0, e1, e2, e3, e4, e5, e6, e7]
  clear e0 e1 e2 e3 e4 e5 e6 e7 hgw
  have HL := hid hL
  have HM := hid hM
  have H6 := hid h6
  have HQ := hid hq
  have heq := fun w => eql_self f w
  obtain ⟨P, hP⟩ : ∃ P, P = strOf (TX b f q 8) := ⟨_, rfl⟩
  have hps : P.size ≤ 1048576 := by
    rw [hP, size_strOf]
    have := TX_len b f q 8
    omega
  have hr := fun w hM => SixC.parse_any P w hps hM
  rw [show P.data.toList = TX b f q 8 by rw [hP]; rfl, TX_six b f q h6] at hr
  have HV : Hid (SixV (some (V8 f)) = .tuple #[.agg #[.int .u16 (f 0 : Int), .int .u16 (f 1 : Int), .int .u16 (f 2 : Int), .int .u16 (f 3 : Int), .int .u16 (f 4 : Int), .int .u16 (f 5 : Int), .int .u16 (f 6 : Int), .int .u16 (f 7 : Int)], .bool true]) := rfl
  rw [HV.out] at hr
  have HR := hid hr
  have HP := hid hP
  clear hL hM h6 hq hP hps hr HV
  cases b with
  | true =>
    go_enter Tryd.func5, Tryd.ntmps5
    go_upto_region 1 with (fail)
    generalize hw1 : (w.alloc _).alloc _ = w1
    have HB1 : Hid (Below w.heap.size w w1) := by
      show Below _ _ _
      rw [← hw1]
      exact ((Below.refl _ _).alloc (Nat.le_refl _) _).alloc (by simp) _
    have HX1 : Hid (Box w1 w.heap.size 24 (V8 f)) := by
      show Box _ _ _ _
      rw [← hw1]
      exact (box_new f).below ((Below.refl _ _).alloc (Nat.le_refl _) _)
    have HY1 : Hid (w1.heap[w.heap.size + 1]? = some (.cells #[.int .u8 (q 0 : Int), .int .u8 (q 1 : Int), .int .u8 (q 2 : Int), .int .u8 (q 3 : Int), .int .u8 (q 4 : Int), .int .u8 (q 5 : Int), .int .u8 (q 6 : Int), .int .u8 (q 7 : Int)] 30 (0, 0))) := by
      show _ = _
      rw [← hw1]
      have := heap_alloc_new (w.alloc (.cells #[.int .u16 (f 0 : Int), .int .u16 (f 1 : Int), .int .u16 (f 2 : Int), .int .u16 (f 3 : Int), .int .u16 (f 4 : Int), .int .u16 (f 5 : Int), .int .u16 (f 6 : Int), .int .u16 (f 7 : Int)] 24)) (.cells #[.int .u8 (q 0 : Int), .int .u8 (q 1 : Int), .int .u8 (q 2 : Int), .int .u8 (q 3 : Int), .int .u8 (q 4 : Int), .int .u8 (q 5 : Int), .int .u8 (q 6 : Int), .int .u8 (q 7 : Int)] 30)
      simpa using this
    clear hw1
    go_wp2_with fail
    refine (awake_any _ (HL.out.below HB1.out) (HM.out.below HB1.out)).mono ?_
    rintro e w2 ⟨rfl, hb2⟩
    have HX2 := hid (HX1.out.below hb2)
    have HY2 := hid (hb2.block (w.heap.size + 1) (by have := (Array.getElem?_eq_some_iff.1 HY1.out).1; exact this) |>.trans HY1.out)
    have HB2 := hid (bel HB1.out hb2)
    clear hb2
    --LOOPS
    go_wp2_with fail
    go_loopw [8, 9, 10, 11, 17] (fun vs _ _ _ vk wr => ∃ (k : Nat) (X : ByteArray), k ≤ 8 ∧ vk = .int .i64 (k : Int) ∧ vs = .string X ∧ wr = w2 ∧ Hid (X = strOf (TX true f q k))) (fun _ _ _ _ vk _ => 8 - (intOf vk).toNat)
    case atStart => exact ⟨0, ⟨#[]⟩, by omega, rfl, rfl, rfl, rfl⟩
    case round =>
      obtain ⟨k, X, hk8, rfl, rfl, rfl, HX⟩ := hrel
      by_cases hk : k < 8
      · have hki : (k : Int) < 8 := by omega
        obtain ⟨x, hfx⟩ : ∃ x, f k = x := ⟨_, rfl⟩
        obtain ⟨qk, hqk⟩ : ∃ qk, q k = qk := ⟨_, rfl⟩
        have hc0 := HX2.out.cell k (by show k < 8; exact hk)
        rw [V8_get f k hk, hfx] at hc0
        have hd0 := cell_u8 HY2.out k hk
        rw [hqk] at hd0
        have HX6 : Hid (x < 65536) := by show _ < _; rw [← hfx]; exact H6.out k
        have HQK : Hid (qk ≤ 255) := by show _ ≤ _; rw [← hqk]; exact HQ.out k
        have htl := TX_len true f q k
        by_cases hk0 : k = 0
        · have hk1 : ¬ (0 : Int) < (k : Int) := by omega
          obtain ⟨B0, hB0⟩ : ∃ B0, B0 = TX true f q k := ⟨_, rfl⟩
          have HBL : Hid (B0.length ≤ 100) := by show _ ≤ _; rw [hB0]; omega
          have HY : Hid (X = strOf B0) := by show _ = _; rw [HX.out, hB0]
          have HTX : Hid (TX true f q (k + 1) = B0 ++ wd true x qk) := by
            show _ = _
            rw [hB0, ← hfx, ← hqk, hk0]
            exact TX_one true f q
          clear hB0 hk0 hfx hqk htl
          go_wp2
          go_loopw [8, 10, 11] (fun vs vi _ wx => ∃ (m : Nat) (Z : ByteArray), wx = wr ∧ vs = .string Z ∧ Hid (Z = strOf (B0 ++ wt true x qk m)) ∧ Rn m vi) (fun _ vi _ _ => (intOf vi + 1).toNat)
          case atStart => exact ⟨0, X, rfl, rfl, by show _ = _; rw [HY.out]; show _ = strOf (B0 ++ []); rw [List.append_nil], Or.inl ⟨rfl, rfl⟩⟩
          case round =>
            obtain ⟨m, Z, rfl, rfl, HZ, hm⟩ := hrel
            unfold Rn at hm
            rcases hm with ⟨rfl, rfl⟩ | ⟨rfl, rfl⟩ | ⟨rfl, rfl⟩ | ⟨rfl, rfl⟩ | ⟨rfl, rfl⟩
            · obtain ⟨D, hD⟩ : ∃ D, D = x / 4096 := ⟨_, rfl⟩
              replace hD : D = x / 16 ^ 3 := hD
              obtain ⟨r, hr⟩ : ∃ r, r = D % 16 := ⟨_, rfl⟩
              have hx6 : x < 65536 := HX6.out
              have hD6 : D < 65536 := by rw [hD]; have := Nat.div_le_self x (16 ^ 3); omega
              have hdv : (x : Int) / 4096 = (D : Int) := by rw [hD]; simp only [Nat.reducePow]; omega
              have hand : bits .and .u16 (D : Int) 15 = (r : Int) := by rw [and15w D hD6, hr]
              have hr16 : r < 16 := by omega
              have hri : (r : Int) < 16 := by omega
              have hat := hd_at_true r hr16
              by_cases hpos : 0 < D
              · have hpi : (0 : Int) < (D : Int) := by omega
                have hcnd : cnd x qk 3 = true := by unfold cnd; rw [decide_eq_true_iff]; left; rw [← hD]; exact hpos
                obtain ⟨Z2, hZ2⟩ : ∃ Z2, Z2 = strOf (B0 ++ wt true x qk (0 + 1)) := ⟨_, rfl⟩
                have hwt : wt true x qk (0 + 1) = wt true x qk 0 ++ [hd true r] := by
                  show wt true x qk 0 ++ (if cnd x qk 3 = true then [dg true x 3] else []) = _
                  rw [if_pos hcnd]
                  show _ ++ [hd true (x / 16 ^ 3 % 16)] = _
                  rw [hr, show x / 16 ^ 3 = D from hD.symm]
                have hwl := wt_len true x qk 0
                have hb0 := HBL.out
                have a2 : ∀ w : World, (Op.stringOp .add Z (strOf [hd true r])).run Tryd.prog w = .ok (.string Z2) w := fun w => by
                  rw [hZ2, hwt, HZ.out, ← List.append_assoc]
                  exact str_add _ _ w (by simp only [List.length_append, List.length_cons, List.length_nil]; omega)
                have HZ2 := hid hZ2
                clear hwt hwl hb0 hZ2 hcnd hD hr
                go_wp2
                go_roundw
                case rel => exact ⟨0 + 1, Z2, by first | rfl | trivial, rfl, HZ2.out, (by unfold Rn; simp)⟩
                case measure => simp [intOf]
              · have hpi : ¬ (0 : Int) < (D : Int) := by omega
                obtain ⟨e4, he4⟩ : ∃ e4, e4 = qk % 4 := ⟨_, rfl⟩
                have hq255 : qk ≤ 255 := HQK.out
                have hre : (qk : Int) % 4 = (e4 : Int) := by omega
                have hre2 : (qk : Int).tmod 4 = (e4 : Int) := by rw [Int.tmod_eq_emod_of_nonneg (by omega)]; omega
                have he4b : e4 < 4 := by omega
                by_cases hle : 3 ≤ e4
                · have hli : (3 : Int) ≤ (e4 : Int) := by omega
                  have hcnd : cnd x qk 3 = true := by unfold cnd; rw [decide_eq_true_iff]; right; right; rw [← he4]; exact hle
                  clear he4
                  obtain ⟨Z2, hZ2⟩ : ∃ Z2, Z2 = strOf (B0 ++ wt true x qk (0 + 1)) := ⟨_, rfl⟩
                  have hwt : wt true x qk (0 + 1) = wt true x qk 0 ++ [hd true r] := by
                    show wt true x qk 0 ++ (if cnd x qk 3 = true then [dg true x 3] else []) = _
                    rw [if_pos hcnd]
                    show _ ++ [hd true (x / 16 ^ 3 % 16)] = _
                    rw [hr, show x / 16 ^ 3 = D from hD.symm]
                  have hwl := wt_len true x qk 0
                  have hb0 := HBL.out
                  have a2 : ∀ w : World, (Op.stringOp .add Z (strOf [hd true r])).run Tryd.prog w = .ok (.string Z2) w := fun w => by
                    rw [hZ2, hwt, HZ.out, ← List.append_assoc]
                    exact str_add _ _ w (by simp only [List.length_append, List.length_cons, List.length_nil]; omega)
                  have HZ2 := hid hZ2
                  clear hwt hwl hb0 hZ2 hcnd hD hr
                  go_wp2
                  go_roundw
                  case rel => exact ⟨0 + 1, Z2, by first | rfl | trivial, rfl, HZ2.out, (by unfold Rn; simp)⟩
                  case measure => simp [intOf]
                · have hli : ¬ (3 : Int) ≤ (e4 : Int) := by omega
                  have hcnd : cnd x qk 3 = false := by
                    unfold cnd
                    rw [decide_eq_false_iff_not]
                    rintro (h | h | h)
                    · rw [← hD] at h; exact hpos h
                    · omega
                    · omega
                  have HZ2 : Hid (Z = strOf (B0 ++ wt true x qk (0 + 1))) := by
                    show _ = _
                    have : wt true x qk (0 + 1) = wt true x qk 0 := by
                      show wt true x qk 0 ++ (if cnd x qk 3 = true then [dg true x 3] else []) = _
                      rw [hcnd, if_neg Bool.false_ne_true, List.append_nil]
                    rw [this]
                    exact HZ.out
                  clear he4 hcnd hD hr
                  go_wp2
                  go_roundw
                  case rel => exact ⟨0 + 1, Z, by first | rfl | trivial, rfl, HZ2.out, (by unfold Rn; simp)⟩
                  case measure => simp [intOf]
            · obtain ⟨D, hD⟩ : ∃ D, D = x / 256 := ⟨_, rfl⟩
              replace hD : D = x / 16 ^ 2 := hD
              obtain ⟨r, hr⟩ : ∃ r, r = D % 16 := ⟨_, rfl⟩
              have hx6 : x < 65536 := HX6.out
              have hD6 : D < 65536 := by rw [hD]; have := Nat.div_le_self x (16 ^ 2); omega
              have hdv : (x : Int) / 256 = (D : Int) := by rw [hD]; simp only [Nat.reducePow]; omega
              have hand : bits .and .u16 (D : Int) 15 = (r : Int) := by rw [and15w D hD6, hr]
              have hr16 : r < 16 := by omega
              have hri : (r : Int) < 16 := by omega
              have hat := hd_at_true r hr16
              by_cases hpos : 0 < D
              · have hpi : (0 : Int) < (D : Int) := by omega
                have hcnd : cnd x qk 2 = true := by unfold cnd; rw [decide_eq_true_iff]; left; rw [← hD]; exact hpos
                obtain ⟨Z2, hZ2⟩ : ∃ Z2, Z2 = strOf (B0 ++ wt true x qk (1 + 1)) := ⟨_, rfl⟩
                have hwt : wt true x qk (1 + 1) = wt true x qk 1 ++ [hd true r] := by
                  show wt true x qk 1 ++ (if cnd x qk 2 = true then [dg true x 2] else []) = _
                  rw [if_pos hcnd]
                  show _ ++ [hd true (x / 16 ^ 2 % 16)] = _
                  rw [hr, show x / 16 ^ 2 = D from hD.symm]
                have hwl := wt_len true x qk 1
                have hb0 := HBL.out
                have a2 : ∀ w : World, (Op.stringOp .add Z (strOf [hd true r])).run Tryd.prog w = .ok (.string Z2) w := fun w => by
                  rw [hZ2, hwt, HZ.out, ← List.append_assoc]
                  exact str_add _ _ w (by simp only [List.length_append, List.length_cons, List.length_nil]; omega)
                have HZ2 := hid hZ2
                clear hwt hwl hb0 hZ2 hcnd hD hr
                go_wp2
                go_roundw
                case rel => exact ⟨1 + 1, Z2, by first | rfl | trivial, rfl, HZ2.out, (by unfold Rn; simp)⟩
                case measure => simp [intOf]
              · have hpi : ¬ (0 : Int) < (D : Int) := by omega
                obtain ⟨e4, he4⟩ : ∃ e4, e4 = qk % 4 := ⟨_, rfl⟩
                have hq255 : qk ≤ 255 := HQK.out
                have hre : (qk : Int) % 4 = (e4 : Int) := by omega
                have hre2 : (qk : Int).tmod 4 = (e4 : Int) := by rw [Int.tmod_eq_emod_of_nonneg (by omega)]; omega
                have he4b : e4 < 4 := by omega
                by_cases hle : 2 ≤ e4
                · have hli : (2 : Int) ≤ (e4 : Int) := by omega
                  have hcnd : cnd x qk 2 = true := by unfold cnd; rw [decide_eq_true_iff]; right; right; rw [← he4]; exact hle
                  clear he4
                  obtain ⟨Z2, hZ2⟩ : ∃ Z2, Z2 = strOf (B0 ++ wt true x qk (1 + 1)) := ⟨_, rfl⟩
                  have hwt : wt true x qk (1 + 1) = wt true x qk 1 ++ [hd true r] := by
                    show wt true x qk 1 ++ (if cnd x qk 2 = true then [dg true x 2] else []) = _
                    rw [if_pos hcnd]
                    show _ ++ [hd true (x / 16 ^ 2 % 16)] = _
                    rw [hr, show x / 16 ^ 2 = D from hD.symm]
                  have hwl := wt_len true x qk 1
                  have hb0 := HBL.out
                  have a2 : ∀ w : World, (Op.stringOp .add Z (strOf [hd true r])).run Tryd.prog w = .ok (.string Z2) w := fun w => by
                    rw [hZ2, hwt, HZ.out, ← List.append_assoc]
                    exact str_add _ _ w (by simp only [List.length_append, List.length_cons, List.length_nil]; omega)
                  have HZ2 := hid hZ2
                  clear hwt hwl hb0 hZ2 hcnd hD hr
                  go_wp2
                  go_roundw
                  case rel => exact ⟨1 + 1, Z2, by first | rfl | trivial, rfl, HZ2.out, (by unfold Rn; simp)⟩
                  case measure => simp [intOf]
                · have hli : ¬ (2 : Int) ≤ (e4 : Int) := by omega
                  have hcnd : cnd x qk 2 = false := by
                    unfold cnd
                    rw [decide_eq_false_iff_not]
                    rintro (h | h | h)
                    · rw [← hD] at h; exact hpos h
                    · omega
                    · omega
                  have HZ2 : Hid (Z = strOf (B0 ++ wt true x qk (1 + 1))) := by
                    show _ = _
                    have : wt true x qk (1 + 1) = wt true x qk 1 := by
                      show wt true x qk 1 ++ (if cnd x qk 2 = true then [dg true x 2] else []) = _
                      rw [hcnd, if_neg Bool.false_ne_true, List.append_nil]
                    rw [this]
                    exact HZ.out
                  clear he4 hcnd hD hr
                  go_wp2
                  go_roundw
                  case rel => exact ⟨1 + 1, Z, by first | rfl | trivial, rfl, HZ2.out, (by unfold Rn; simp)⟩
                  case measure => simp [intOf]
            · obtain ⟨D, hD⟩ : ∃ D, D = x / 16 := ⟨_, rfl⟩
              replace hD : D = x / 16 ^ 1 := hD
              obtain ⟨r, hr⟩ : ∃ r, r = D % 16 := ⟨_, rfl⟩
              have hx6 : x < 65536 := HX6.out
              have hD6 : D < 65536 := by rw [hD]; have := Nat.div_le_self x (16 ^ 1); omega
              have hdv : (x : Int) / 16 = (D : Int) := by rw [hD]; simp only [Nat.reducePow]; omega
              have hand : bits .and .u16 (D : Int) 15 = (r : Int) := by rw [and15w D hD6, hr]
              have hr16 : r < 16 := by omega
              have hri : (r : Int) < 16 := by omega
              have hat := hd_at_true r hr16
              by_cases hpos : 0 < D
              · have hpi : (0 : Int) < (D : Int) := by omega
                have hcnd : cnd x qk 1 = true := by unfold cnd; rw [decide_eq_true_iff]; left; rw [← hD]; exact hpos
                obtain ⟨Z2, hZ2⟩ : ∃ Z2, Z2 = strOf (B0 ++ wt true x qk (2 + 1)) := ⟨_, rfl⟩
                have hwt : wt true x qk (2 + 1) = wt true x qk 2 ++ [hd true r] := by
                  show wt true x qk 2 ++ (if cnd x qk 1 = true then [dg true x 1] else []) = _
                  rw [if_pos hcnd]
                  show _ ++ [hd true (x / 16 ^ 1 % 16)] = _
                  rw [hr, show x / 16 ^ 1 = D from hD.symm]
                have hwl := wt_len true x qk 2
                have hb0 := HBL.out
                have a2 : ∀ w : World, (Op.stringOp .add Z (strOf [hd true r])).run Tryd.prog w = .ok (.string Z2) w := fun w => by
                  rw [hZ2, hwt, HZ.out, ← List.append_assoc]
                  exact str_add _ _ w (by simp only [List.length_append, List.length_cons, List.length_nil]; omega)
                have HZ2 := hid hZ2
                clear hwt hwl hb0 hZ2 hcnd hD hr
                go_wp2
                go_roundw
                case rel => exact ⟨2 + 1, Z2, by first | rfl | trivial, rfl, HZ2.out, (by unfold Rn; simp)⟩
                case measure => simp [intOf]
              · have hpi : ¬ (0 : Int) < (D : Int) := by omega
                obtain ⟨e4, he4⟩ : ∃ e4, e4 = qk % 4 := ⟨_, rfl⟩
                have hq255 : qk ≤ 255 := HQK.out
                have hre : (qk : Int) % 4 = (e4 : Int) := by omega
                have hre2 : (qk : Int).tmod 4 = (e4 : Int) := by rw [Int.tmod_eq_emod_of_nonneg (by omega)]; omega
                have he4b : e4 < 4 := by omega
                by_cases hle : 1 ≤ e4
                · have hli : (1 : Int) ≤ (e4 : Int) := by omega
                  have hcnd : cnd x qk 1 = true := by unfold cnd; rw [decide_eq_true_iff]; right; right; rw [← he4]; exact hle
                  clear he4
                  obtain ⟨Z2, hZ2⟩ : ∃ Z2, Z2 = strOf (B0 ++ wt true x qk (2 + 1)) := ⟨_, rfl⟩
                  have hwt : wt true x qk (2 + 1) = wt true x qk 2 ++ [hd true r] := by
                    show wt true x qk 2 ++ (if cnd x qk 1 = true then [dg true x 1] else []) = _
                    rw [if_pos hcnd]
                    show _ ++ [hd true (x / 16 ^ 1 % 16)] = _
                    rw [hr, show x / 16 ^ 1 = D from hD.symm]
                  have hwl := wt_len true x qk 2
                  have hb0 := HBL.out
                  have a2 : ∀ w : World, (Op.stringOp .add Z (strOf [hd true r])).run Tryd.prog w = .ok (.string Z2) w := fun w => by
                    rw [hZ2, hwt, HZ.out, ← List.append_assoc]
                    exact str_add _ _ w (by simp only [List.length_append, List.length_cons, List.length_nil]; omega)
                  have HZ2 := hid hZ2
                  clear hwt hwl hb0 hZ2 hcnd hD hr
                  go_wp2
                  go_roundw
                  case rel => exact ⟨2 + 1, Z2, by first | rfl | trivial, rfl, HZ2.out, (by unfold Rn; simp)⟩
                  case measure => simp [intOf]
                · have hli : ¬ (1 : Int) ≤ (e4 : Int) := by omega
                  have hcnd : cnd x qk 1 = false := by
                    unfold cnd
                    rw [decide_eq_false_iff_not]
                    rintro (h | h | h)
                    · rw [← hD] at h; exact hpos h
                    · omega
                    · omega
                  have HZ2 : Hid (Z = strOf (B0 ++ wt true x qk (2 + 1))) := by
                    show _ = _
                    have : wt true x qk (2 + 1) = wt true x qk 2 := by
                      show wt true x qk 2 ++ (if cnd x qk 1 = true then [dg true x 1] else []) = _
                      rw [hcnd, if_neg Bool.false_ne_true, List.append_nil]
                    rw [this]
                    exact HZ.out
                  clear he4 hcnd hD hr
                  go_wp2
                  go_roundw
                  case rel => exact ⟨2 + 1, Z, by first | rfl | trivial, rfl, HZ2.out, (by unfold Rn; simp)⟩
                  case measure => simp [intOf]
            · obtain ⟨r, hr⟩ : ∃ r, r = x % 16 := ⟨_, rfl⟩
              have hx6 : x < 65536 := HX6.out
              have hcnd : cnd x qk 0 = true := by simp [cnd]
              have hand : bits .and .u16 (x : Int) 15 = (r : Int) := by rw [and15w x hx6, hr]
              have hr16 : r < 16 := by omega
              have hri : (r : Int) < 16 := by omega
              have hat := hd_at_true r hr16
              by_cases hpos : 0 < x
              · have hpi : (0 : Int) < (x : Int) := by omega
                obtain ⟨Z2, hZ2⟩ : ∃ Z2, Z2 = strOf (B0 ++ wt true x qk (3 + 1)) := ⟨_, rfl⟩
                have hwt : wt true x qk (3 + 1) = wt true x qk 3 ++ [hd true r] := by
                  show wt true x qk 3 ++ (if cnd x qk 0 = true then [dg true x 0] else []) = _
                  rw [if_pos hcnd]
                  show _ ++ [hd true (x / 16 ^ 0 % 16)] = _
                  rw [hr]; simp
                have hwl := wt_len true x qk 3
                have hb0 := HBL.out
                have a2 : ∀ w : World, (Op.stringOp .add Z (strOf [hd true r])).run Tryd.prog w = .ok (.string Z2) w := fun w => by
                  rw [hZ2, hwt, HZ.out, ← List.append_assoc]
                  exact str_add _ _ w (by simp only [List.length_append, List.length_cons, List.length_nil]; omega)
                have HZ2 := hid hZ2
                clear hwt hwl hb0 hZ2 hcnd hr
                go_wp2
                go_roundw
                case rel => exact ⟨3 + 1, Z2, by first | rfl | trivial, rfl, HZ2.out, (by unfold Rn; simp)⟩
                case measure => simp [intOf]
              · have hpi : ¬ (0 : Int) < (x : Int) := by omega
                obtain ⟨Z2, hZ2⟩ : ∃ Z2, Z2 = strOf (B0 ++ wt true x qk (3 + 1)) := ⟨_, rfl⟩
                have hwt : wt true x qk (3 + 1) = wt true x qk 3 ++ [hd true r] := by
                  show wt true x qk 3 ++ (if cnd x qk 0 = true then [dg true x 0] else []) = _
                  rw [if_pos hcnd]
                  show _ ++ [hd true (x / 16 ^ 0 % 16)] = _
                  rw [hr]; simp
                have hwl := wt_len true x qk 3
                have hb0 := HBL.out
                have a2 : ∀ w : World, (Op.stringOp .add Z (strOf [hd true r])).run Tryd.prog w = .ok (.string Z2) w := fun w => by
                  rw [hZ2, hwt, HZ.out, ← List.append_assoc]
                  exact str_add _ _ w (by simp only [List.length_append, List.length_cons, List.length_nil]; omega)
                have HZ2 := hid hZ2
                clear hwt hwl hb0 hZ2 hcnd hr
                go_wp2
                go_roundw
                case rel => exact ⟨3 + 1, Z2, by first | rfl | trivial, rfl, HZ2.out, (by unfold Rn; simp)⟩
                case measure => simp [intOf]
            · have HN : Hid (Z = strOf (TX true f q (k + 1))) := by
                show _ = _
                rw [HZ.out, HTX.out]
                rfl
              go_wp2
              go_roundw
              case rel => exact ⟨k + 1, Z, by omega, by go_num, rfl, by first | rfl | trivial, HN.out⟩
              case measure => simp [intOf]; omega
        · have hk1 : (0 : Int) < (k : Int) := by omega
          obtain ⟨B0, hB0⟩ : ∃ B0, B0 = TX true f q k ++ [58] := ⟨_, rfl⟩
          obtain ⟨Y, hY⟩ : ∃ Y, Y = strOf B0 := ⟨_, rfl⟩
          have HBL : Hid (B0.length ≤ 100) := by show _ ≤ _; rw [hB0]; simp; omega
          have HY := hid hY
          have a1 : ∀ w : World, (Op.stringOp .add X ⟨#[58]⟩).run Tryd.prog w = .ok (.string Y) w := fun w => by
            rw [hY, hB0, HX.out]
            exact str_add _ [58] w (by simp; omega)
          have HTX : Hid (TX true f q (k + 1) = B0 ++ wd true x qk) := by
            show _ = _
            rw [hB0, ← hfx, ← hqk]
            exact TX_succ true f q k (by omega)
          clear hB0 hk0 hfx hqk htl hY
          go_wp2
          go_loopw [8, 10, 11] (fun vs vi _ wx => ∃ (m : Nat) (Z : ByteArray), wx = wr ∧ vs = .string Z ∧ Hid (Z = strOf (B0 ++ wt true x qk m)) ∧ Rn m vi) (fun _ vi _ _ => (intOf vi + 1).toNat)
          case atStart => exact ⟨0, Y, rfl, rfl, by show _ = _; rw [HY.out]; show _ = strOf (B0 ++ []); rw [List.append_nil], Or.inl ⟨rfl, rfl⟩⟩
          case round =>
            obtain ⟨m, Z, rfl, rfl, HZ, hm⟩ := hrel
            unfold Rn at hm
            rcases hm with ⟨rfl, rfl⟩ | ⟨rfl, rfl⟩ | ⟨rfl, rfl⟩ | ⟨rfl, rfl⟩ | ⟨rfl, rfl⟩
            · obtain ⟨D, hD⟩ : ∃ D, D = x / 4096 := ⟨_, rfl⟩
              replace hD : D = x / 16 ^ 3 := hD
              obtain ⟨r, hr⟩ : ∃ r, r = D % 16 := ⟨_, rfl⟩
              have hx6 : x < 65536 := HX6.out
              have hD6 : D < 65536 := by rw [hD]; have := Nat.div_le_self x (16 ^ 3); omega
              have hdv : (x : Int) / 4096 = (D : Int) := by rw [hD]; simp only [Nat.reducePow]; omega
              have hand : bits .and .u16 (D : Int) 15 = (r : Int) := by rw [and15w D hD6, hr]
              have hr16 : r < 16 := by omega
              have hri : (r : Int) < 16 := by omega
              have hat := hd_at_true r hr16
              by_cases hpos : 0 < D
              · have hpi : (0 : Int) < (D : Int) := by omega
                have hcnd : cnd x qk 3 = true := by unfold cnd; rw [decide_eq_true_iff]; left; rw [← hD]; exact hpos
                obtain ⟨Z2, hZ2⟩ : ∃ Z2, Z2 = strOf (B0 ++ wt true x qk (0 + 1)) := ⟨_, rfl⟩
                have hwt : wt true x qk (0 + 1) = wt true x qk 0 ++ [hd true r] := by
                  show wt true x qk 0 ++ (if cnd x qk 3 = true then [dg true x 3] else []) = _
                  rw [if_pos hcnd]
                  show _ ++ [hd true (x / 16 ^ 3 % 16)] = _
                  rw [hr, show x / 16 ^ 3 = D from hD.symm]
                have hwl := wt_len true x qk 0
                have hb0 := HBL.out
                have a2 : ∀ w : World, (Op.stringOp .add Z (strOf [hd true r])).run Tryd.prog w = .ok (.string Z2) w := fun w => by
                  rw [hZ2, hwt, HZ.out, ← List.append_assoc]
                  exact str_add _ _ w (by simp only [List.length_append, List.length_cons, List.length_nil]; omega)
                have HZ2 := hid hZ2
                clear hwt hwl hb0 hZ2 hcnd hD hr
                go_wp2
                go_roundw
                case rel => exact ⟨0 + 1, Z2, by first | rfl | trivial, rfl, HZ2.out, (by unfold Rn; simp)⟩
                case measure => simp [intOf]
              · have hpi : ¬ (0 : Int) < (D : Int) := by omega
                obtain ⟨e4, he4⟩ : ∃ e4, e4 = qk % 4 := ⟨_, rfl⟩
                have hq255 : qk ≤ 255 := HQK.out
                have hre : (qk : Int) % 4 = (e4 : Int) := by omega
                have hre2 : (qk : Int).tmod 4 = (e4 : Int) := by rw [Int.tmod_eq_emod_of_nonneg (by omega)]; omega
                have he4b : e4 < 4 := by omega
                by_cases hle : 3 ≤ e4
                · have hli : (3 : Int) ≤ (e4 : Int) := by omega
                  have hcnd : cnd x qk 3 = true := by unfold cnd; rw [decide_eq_true_iff]; right; right; rw [← he4]; exact hle
                  clear he4
                  obtain ⟨Z2, hZ2⟩ : ∃ Z2, Z2 = strOf (B0 ++ wt true x qk (0 + 1)) := ⟨_, rfl⟩
                  have hwt : wt true x qk (0 + 1) = wt true x qk 0 ++ [hd true r] := by
                    show wt true x qk 0 ++ (if cnd x qk 3 = true then [dg true x 3] else []) = _
                    rw [if_pos hcnd]
                    show _ ++ [hd true (x / 16 ^ 3 % 16)] = _
                    rw [hr, show x / 16 ^ 3 = D from hD.symm]
                  have hwl := wt_len true x qk 0
                  have hb0 := HBL.out
                  have a2 : ∀ w : World, (Op.stringOp .add Z (strOf [hd true r])).run Tryd.prog w = .ok (.string Z2) w := fun w => by
                    rw [hZ2, hwt, HZ.out, ← List.append_assoc]
                    exact str_add _ _ w (by simp only [List.length_append, List.length_cons, List.length_nil]; omega)
                  have HZ2 := hid hZ2
                  clear hwt hwl hb0 hZ2 hcnd hD hr
                  go_wp2
                  go_roundw
                  case rel => exact ⟨0 + 1, Z2, by first | rfl | trivial, rfl, HZ2.out, (by unfold Rn; simp)⟩
                  case measure => simp [intOf]
                · have hli : ¬ (3 : Int) ≤ (e4 : Int) := by omega
                  have hcnd : cnd x qk 3 = false := by
                    unfold cnd
                    rw [decide_eq_false_iff_not]
                    rintro (h | h | h)
                    · rw [← hD] at h; exact hpos h
                    · omega
                    · omega
                  have HZ2 : Hid (Z = strOf (B0 ++ wt true x qk (0 + 1))) := by
                    show _ = _
                    have : wt true x qk (0 + 1) = wt true x qk 0 := by
                      show wt true x qk 0 ++ (if cnd x qk 3 = true then [dg true x 3] else []) = _
                      rw [hcnd, if_neg Bool.false_ne_true, List.append_nil]
                    rw [this]
                    exact HZ.out
                  clear he4 hcnd hD hr
                  go_wp2
                  go_roundw
                  case rel => exact ⟨0 + 1, Z, by first | rfl | trivial, rfl, HZ2.out, (by unfold Rn; simp)⟩
                  case measure => simp [intOf]
            · obtain ⟨D, hD⟩ : ∃ D, D = x / 256 := ⟨_, rfl⟩
              replace hD : D = x / 16 ^ 2 := hD
              obtain ⟨r, hr⟩ : ∃ r, r = D % 16 := ⟨_, rfl⟩
              have hx6 : x < 65536 := HX6.out
              have hD6 : D < 65536 := by rw [hD]; have := Nat.div_le_self x (16 ^ 2); omega
              have hdv : (x : Int) / 256 = (D : Int) := by rw [hD]; simp only [Nat.reducePow]; omega
              have hand : bits .and .u16 (D : Int) 15 = (r : Int) := by rw [and15w D hD6, hr]
              have hr16 : r < 16 := by omega
              have hri : (r : Int) < 16 := by omega
              have hat := hd_at_true r hr16
              by_cases hpos : 0 < D
              · have hpi : (0 : Int) < (D : Int) := by omega
                have hcnd : cnd x qk 2 = true := by unfold cnd; rw [decide_eq_true_iff]; left; rw [← hD]; exact hpos
                obtain ⟨Z2, hZ2⟩ : ∃ Z2, Z2 = strOf (B0 ++ wt true x qk (1 + 1)) := ⟨_, rfl⟩
                have hwt : wt true x qk (1 + 1) = wt true x qk 1 ++ [hd true r] := by
                  show wt true x qk 1 ++ (if cnd x qk 2 = true then [dg true x 2] else []) = _
                  rw [if_pos hcnd]
                  show _ ++ [hd true (x / 16 ^ 2 % 16)] = _
                  rw [hr, show x / 16 ^ 2 = D from hD.symm]
                have hwl := wt_len true x qk 1
                have hb0 := HBL.out
                have a2 : ∀ w : World, (Op.stringOp .add Z (strOf [hd true r])).run Tryd.prog w = .ok (.string Z2) w := fun w => by
                  rw [hZ2, hwt, HZ.out, ← List.append_assoc]
                  exact str_add _ _ w (by simp only [List.length_append, List.length_cons, List.length_nil]; omega)
                have HZ2 := hid hZ2
                clear hwt hwl hb0 hZ2 hcnd hD hr
                go_wp2
                go_roundw
                case rel => exact ⟨1 + 1, Z2, by first | rfl | trivial, rfl, HZ2.out, (by unfold Rn; simp)⟩
                case measure => simp [intOf]
              · have hpi : ¬ (0 : Int) < (D : Int) := by omega
                obtain ⟨e4, he4⟩ : ∃ e4, e4 = qk % 4 := ⟨_, rfl⟩
                have hq255 : qk ≤ 255 := HQK.out
                have hre : (qk : Int) % 4 = (e4 : Int) := by omega
                have hre2 : (qk : Int).tmod 4 = (e4 : Int) := by rw [Int.tmod_eq_emod_of_nonneg (by omega)]; omega
                have he4b : e4 < 4 := by omega
                by_cases hle : 2 ≤ e4
                · have hli : (2 : Int) ≤ (e4 : Int) := by omega
                  have hcnd : cnd x qk 2 = true := by unfold cnd; rw [decide_eq_true_iff]; right; right; rw [← he4]; exact hle
                  clear he4
                  obtain ⟨Z2, hZ2⟩ : ∃ Z2, Z2 = strOf (B0 ++ wt true x qk (1 + 1)) := ⟨_, rfl⟩
                  have hwt : wt true x qk (1 + 1) = wt true x qk 1 ++ [hd true r] := by
                    show wt true x qk 1 ++ (if cnd x qk 2 = true then [dg true x 2] else []) = _
                    rw [if_pos hcnd]
                    show _ ++ [hd true (x / 16 ^ 2 % 16)] = _
                    rw [hr, show x / 16 ^ 2 = D from hD.symm]
                  have hwl := wt_len true x qk 1
                  have hb0 := HBL.out
                  have a2 : ∀ w : World, (Op.stringOp .add Z (strOf [hd true r])).run Tryd.prog w = .ok (.string Z2) w := fun w => by
                    rw [hZ2, hwt, HZ.out, ← List.append_assoc]
                    exact str_add _ _ w (by simp only [List.length_append, List.length_cons, List.length_nil]; omega)
                  have HZ2 := hid hZ2
                  clear hwt hwl hb0 hZ2 hcnd hD hr
                  go_wp2
                  go_roundw
                  case rel => exact ⟨1 + 1, Z2, by first | rfl | trivial, rfl, HZ2.out, (by unfold Rn; simp)⟩
                  case measure => simp [intOf]
                · have hli : ¬ (2 : Int) ≤ (e4 : Int) := by omega
                  have hcnd : cnd x qk 2 = false := by
                    unfold cnd
                    rw [decide_eq_false_iff_not]
                    rintro (h | h | h)
                    · rw [← hD] at h; exact hpos h
                    · omega
                    · omega
                  have HZ2 : Hid (Z = strOf (B0 ++ wt true x qk (1 + 1))) := by
                    show _ = _
                    have : wt true x qk (1 + 1) = wt true x qk 1 := by
                      show wt true x qk 1 ++ (if cnd x qk 2 = true then [dg true x 2] else []) = _
                      rw [hcnd, if_neg Bool.false_ne_true, List.append_nil]
                    rw [this]
                    exact HZ.out
                  clear he4 hcnd hD hr
                  go_wp2
                  go_roundw
                  case rel => exact ⟨1 + 1, Z, by first | rfl | trivial, rfl, HZ2.out, (by unfold Rn; simp)⟩
                  case measure => simp [intOf]
            · obtain ⟨D, hD⟩ : ∃ D, D = x / 16 := ⟨_, rfl⟩
              replace hD : D = x / 16 ^ 1 := hD
              obtain ⟨r, hr⟩ : ∃ r, r = D % 16 := ⟨_, rfl⟩
              have hx6 : x < 65536 := HX6.out
              have hD6 : D < 65536 := by rw [hD]; have := Nat.div_le_self x (16 ^ 1); omega
              have hdv : (x : Int) / 16 = (D : Int) := by rw [hD]; simp only [Nat.reducePow]; omega
              have hand : bits .and .u16 (D : Int) 15 = (r : Int) := by rw [and15w D hD6, hr]
              have hr16 : r < 16 := by omega
              have hri : (r : Int) < 16 := by omega
              have hat := hd_at_true r hr16
              by_cases hpos : 0 < D
              · have hpi : (0 : Int) < (D : Int) := by omega
                have hcnd : cnd x qk 1 = true := by unfold cnd; rw [decide_eq_true_iff]; left; rw [← hD]; exact hpos
                obtain ⟨Z2, hZ2⟩ : ∃ Z2, Z2 = strOf (B0 ++ wt true x qk (2 + 1)) := ⟨_, rfl⟩
                have hwt : wt true x qk (2 + 1) = wt true x qk 2 ++ [hd true r] := by
                  show wt true x qk 2 ++ (if cnd x qk 1 = true then [dg true x 1] else []) = _
                  rw [if_pos hcnd]
                  show _ ++ [hd true (x / 16 ^ 1 % 16)] = _
                  rw [hr, show x / 16 ^ 1 = D from hD.symm]
                have hwl := wt_len true x qk 2
                have hb0 := HBL.out
                have a2 : ∀ w : World, (Op.stringOp .add Z (strOf [hd true r])).run Tryd.prog w = .ok (.string Z2) w := fun w => by
                  rw [hZ2, hwt, HZ.out, ← List.append_assoc]
                  exact str_add _ _ w (by simp only [List.length_append, List.length_cons, List.length_nil]; omega)
                have HZ2 := hid hZ2
                clear hwt hwl hb0 hZ2 hcnd hD hr
                go_wp2
                go_roundw
                case rel => exact ⟨2 + 1, Z2, by first | rfl | trivial, rfl, HZ2.out, (by unfold Rn; simp)⟩
                case measure => simp [intOf]
              · have hpi : ¬ (0 : Int) < (D : Int) := by omega
                obtain ⟨e4, he4⟩ : ∃ e4, e4 = qk % 4 := ⟨_, rfl⟩
                have hq255 : qk ≤ 255 := HQK.out
                have hre : (qk : Int) % 4 = (e4 : Int) := by omega
                have hre2 : (qk : Int).tmod 4 = (e4 : Int) := by rw [Int.tmod_eq_emod_of_nonneg (by omega)]; omega
                have he4b : e4 < 4 := by omega
                by_cases hle : 1 ≤ e4
                · have hli : (1 : Int) ≤ (e4 : Int) := by omega
                  have hcnd : cnd x qk 1 = true := by unfold cnd; rw [decide_eq_true_iff]; right; right; rw [← he4]; exact hle
                  clear he4
                  obtain ⟨Z2, hZ2⟩ : ∃ Z2, Z2 = strOf (B0 ++ wt true x qk (2 + 1)) := ⟨_, rfl⟩
                  have hwt : wt true x qk (2 + 1) = wt true x qk 2 ++ [hd true r] := by
                    show wt true x qk 2 ++ (if cnd x qk 1 = true then [dg true x 1] else []) = _
                    rw [if_pos hcnd]
                    show _ ++ [hd true (x / 16 ^ 1 % 16)] = _
                    rw [hr, show x / 16 ^ 1 = D from hD.symm]
                  have hwl := wt_len true x qk 2
                  have hb0 := HBL.out
                  have a2 : ∀ w : World, (Op.stringOp .add Z (strOf [hd true r])).run Tryd.prog w = .ok (.string Z2) w := fun w => by
                    rw [hZ2, hwt, HZ.out, ← List.append_assoc]
                    exact str_add _ _ w (by simp only [List.length_append, List.length_cons, List.length_nil]; omega)
                  have HZ2 := hid hZ2
                  clear hwt hwl hb0 hZ2 hcnd hD hr
                  go_wp2
                  go_roundw
                  case rel => exact ⟨2 + 1, Z2, by first | rfl | trivial, rfl, HZ2.out, (by unfold Rn; simp)⟩
                  case measure => simp [intOf]
                · have hli : ¬ (1 : Int) ≤ (e4 : Int) := by omega
                  have hcnd : cnd x qk 1 = false := by
                    unfold cnd
                    rw [decide_eq_false_iff_not]
                    rintro (h | h | h)
                    · rw [← hD] at h; exact hpos h
                    · omega
                    · omega
                  have HZ2 : Hid (Z = strOf (B0 ++ wt true x qk (2 + 1))) := by
                    show _ = _
                    have : wt true x qk (2 + 1) = wt true x qk 2 := by
                      show wt true x qk 2 ++ (if cnd x qk 1 = true then [dg true x 1] else []) = _
                      rw [hcnd, if_neg Bool.false_ne_true, List.append_nil]
                    rw [this]
                    exact HZ.out
                  clear he4 hcnd hD hr
                  go_wp2
                  go_roundw
                  case rel => exact ⟨2 + 1, Z, by first | rfl | trivial, rfl, HZ2.out, (by unfold Rn; simp)⟩
                  case measure => simp [intOf]
            · obtain ⟨r, hr⟩ : ∃ r, r = x % 16 := ⟨_, rfl⟩
              have hx6 : x < 65536 := HX6.out
              have hcnd : cnd x qk 0 = true := by simp [cnd]
              have hand : bits .and .u16 (x : Int) 15 = (r : Int) := by rw [and15w x hx6, hr]
              have hr16 : r < 16 := by omega
              have hri : (r : Int) < 16 := by omega
              have hat := hd_at_true r hr16
              by_cases hpos : 0 < x
              · have hpi : (0 : Int) < (x : Int) := by omega
                obtain ⟨Z2, hZ2⟩ : ∃ Z2, Z2 = strOf (B0 ++ wt true x qk (3 + 1)) := ⟨_, rfl⟩
                have hwt : wt true x qk (3 + 1) = wt true x qk 3 ++ [hd true r] := by
                  show wt true x qk 3 ++ (if cnd x qk 0 = true then [dg true x 0] else []) = _
                  rw [if_pos hcnd]
                  show _ ++ [hd true (x / 16 ^ 0 % 16)] = _
                  rw [hr]; simp
                have hwl := wt_len true x qk 3
                have hb0 := HBL.out
                have a2 : ∀ w : World, (Op.stringOp .add Z (strOf [hd true r])).run Tryd.prog w = .ok (.string Z2) w := fun w => by
                  rw [hZ2, hwt, HZ.out, ← List.append_assoc]
                  exact str_add _ _ w (by simp only [List.length_append, List.length_cons, List.length_nil]; omega)
                have HZ2 := hid hZ2
                clear hwt hwl hb0 hZ2 hcnd hr
                go_wp2
                go_roundw
                case rel => exact ⟨3 + 1, Z2, by first | rfl | trivial, rfl, HZ2.out, (by unfold Rn; simp)⟩
                case measure => simp [intOf]
              · have hpi : ¬ (0 : Int) < (x : Int) := by omega
                obtain ⟨Z2, hZ2⟩ : ∃ Z2, Z2 = strOf (B0 ++ wt true x qk (3 + 1)) := ⟨_, rfl⟩
                have hwt : wt true x qk (3 + 1) = wt true x qk 3 ++ [hd true r] := by
                  show wt true x qk 3 ++ (if cnd x qk 0 = true then [dg true x 0] else []) = _
                  rw [if_pos hcnd]
                  show _ ++ [hd true (x / 16 ^ 0 % 16)] = _
                  rw [hr]; simp
                have hwl := wt_len true x qk 3
                have hb0 := HBL.out
                have a2 : ∀ w : World, (Op.stringOp .add Z (strOf [hd true r])).run Tryd.prog w = .ok (.string Z2) w := fun w => by
                  rw [hZ2, hwt, HZ.out, ← List.append_assoc]
                  exact str_add _ _ w (by simp only [List.length_append, List.length_cons, List.length_nil]; omega)
                have HZ2 := hid hZ2
                clear hwt hwl hb0 hZ2 hcnd hr
                go_wp2
                go_roundw
                case rel => exact ⟨3 + 1, Z2, by first | rfl | trivial, rfl, HZ2.out, (by unfold Rn; simp)⟩
                case measure => simp [intOf]
            · have HN : Hid (Z = strOf (TX true f q (k + 1))) := by
                show _ = _
                rw [HZ.out, HTX.out]
                rfl
              go_wp2
              go_roundw
              case rel => exact ⟨k + 1, Z, by omega, by go_num, rfl, by first | rfl | trivial, HN.out⟩
              case measure => simp [intOf]; omega
      · obtain rfl : k = 8 := by omega
        have HE : Hid (X = P) := by show _ = _; rw [HX.out, HP.out]
        obtain rfl : X = P := HE.out
        have HM2 := HM.out.below HB2.out
        go_wp2_with fail
        refine (HR.out _ (HM.out.below HB2.out)).mono ?_
        rintro e w3 ⟨rfl, hb3⟩
        have HX3 := hid (HX2.out.below hb3)
        have HB3 := hid (bel HB2.out hb3)
        clear hb3
        go_upto_region 20 with (fail)
        generalize hw5 : w3.alloc _ = w5
        have HB5 : Hid (Below w.heap.size w w5) := by
          show Below _ _ _
          rw [← hw5]
          exact HB3.out.alloc HB3.out.size _
        have HX5 : Hid (Box w5 w.heap.size 24 (V8 f)) := by
          show Box _ _ _ _
          rw [← hw5]
          exact HX3.out.below ((Below.refl _ _).alloc (Nat.le_refl _) _)
        have HY5 : Hid (Box w5 w3.heap.size 24 (V8 f)) := by
          show Box _ _ _ _
          rw [← hw5]
          exact box_new f
        clear hw5
        obtain ⟨c0, c1, c2, c3, c4, c5, c6, c7⟩ := cells8 HX5.out f rfl
        obtain ⟨d0, d1, d2, d3, d4, d5, d6, d7⟩ := cells8 HY5.out f rfl
        go_wp2
        go_ret
        exact ⟨rfl, HB5.out⟩
  | false =>
    go_enter Tryd.func5, Tryd.ntmps5
    go_upto_region 1 with (fail)
    generalize hw1 : (w.alloc _).alloc _ = w1
    have HB1 : Hid (Below w.heap.size w w1) := by
      show Below _ _ _
      rw [← hw1]
      exact ((Below.refl _ _).alloc (Nat.le_refl _) _).alloc (by simp) _
    have HX1 : Hid (Box w1 w.heap.size 24 (V8 f)) := by
      show Box _ _ _ _
      rw [← hw1]
      exact (box_new f).below ((Below.refl _ _).alloc (Nat.le_refl _) _)
    have HY1 : Hid (w1.heap[w.heap.size + 1]? = some (.cells #[.int .u8 (q 0 : Int), .int .u8 (q 1 : Int), .int .u8 (q 2 : Int), .int .u8 (q 3 : Int), .int .u8 (q 4 : Int), .int .u8 (q 5 : Int), .int .u8 (q 6 : Int), .int .u8 (q 7 : Int)] 30 (0, 0))) := by
      show _ = _
      rw [← hw1]
      have := heap_alloc_new (w.alloc (.cells #[.int .u16 (f 0 : Int), .int .u16 (f 1 : Int), .int .u16 (f 2 : Int), .int .u16 (f 3 : Int), .int .u16 (f 4 : Int), .int .u16 (f 5 : Int), .int .u16 (f 6 : Int), .int .u16 (f 7 : Int)] 24)) (.cells #[.int .u8 (q 0 : Int), .int .u8 (q 1 : Int), .int .u8 (q 2 : Int), .int .u8 (q 3 : Int), .int .u8 (q 4 : Int), .int .u8 (q 5 : Int), .int .u8 (q 6 : Int), .int .u8 (q 7 : Int)] 30)
      simpa using this
    clear hw1
    go_wp2_with fail
    refine (awake_any _ (HL.out.below HB1.out) (HM.out.below HB1.out)).mono ?_
    rintro e w2 ⟨rfl, hb2⟩
    have HX2 := hid (HX1.out.below hb2)
    have HY2 := hid (hb2.block (w.heap.size + 1) (by have := (Array.getElem?_eq_some_iff.1 HY1.out).1; exact this) |>.trans HY1.out)
    have HB2 := hid (bel HB1.out hb2)
    clear hb2
    --LOOPS
    go_wp2_with fail
    go_loopw [8, 9, 10, 11, 17] (fun vs _ _ _ vk wr => ∃ (k : Nat) (X : ByteArray), k ≤ 8 ∧ vk = .int .i64 (k : Int) ∧ vs = .string X ∧ wr = w2 ∧ Hid (X = strOf (TX false f q k))) (fun _ _ _ _ vk _ => 8 - (intOf vk).toNat)
    case atStart => exact ⟨0, ⟨#[]⟩, by omega, rfl, rfl, rfl, rfl⟩
    case round =>
      obtain ⟨k, X, hk8, rfl, rfl, rfl, HX⟩ := hrel
      by_cases hk : k < 8
      · have hki : (k : Int) < 8 := by omega
        obtain ⟨x, hfx⟩ : ∃ x, f k = x := ⟨_, rfl⟩
        obtain ⟨qk, hqk⟩ : ∃ qk, q k = qk := ⟨_, rfl⟩
        have hc0 := HX2.out.cell k (by show k < 8; exact hk)
        rw [V8_get f k hk, hfx] at hc0
        have hd0 := cell_u8 HY2.out k hk
        rw [hqk] at hd0
        have HX6 : Hid (x < 65536) := by show _ < _; rw [← hfx]; exact H6.out k
        have HQK : Hid (qk ≤ 255) := by show _ ≤ _; rw [← hqk]; exact HQ.out k
        have htl := TX_len false f q k
        by_cases hk0 : k = 0
        · have hk1 : ¬ (0 : Int) < (k : Int) := by omega
          obtain ⟨B0, hB0⟩ : ∃ B0, B0 = TX false f q k := ⟨_, rfl⟩
          have HBL : Hid (B0.length ≤ 100) := by show _ ≤ _; rw [hB0]; omega
          have HY : Hid (X = strOf B0) := by show _ = _; rw [HX.out, hB0]
          have HTX : Hid (TX false f q (k + 1) = B0 ++ wd false x qk) := by
            show _ = _
            rw [hB0, ← hfx, ← hqk, hk0]
            exact TX_one false f q
          clear hB0 hk0 hfx hqk htl
          go_wp2
          go_loopw [8, 10, 11] (fun vs vi _ wx => ∃ (m : Nat) (Z : ByteArray), wx = wr ∧ vs = .string Z ∧ Hid (Z = strOf (B0 ++ wt false x qk m)) ∧ Rn m vi) (fun _ vi _ _ => (intOf vi + 1).toNat)
          case atStart => exact ⟨0, X, rfl, rfl, by show _ = _; rw [HY.out]; show _ = strOf (B0 ++ []); rw [List.append_nil], Or.inl ⟨rfl, rfl⟩⟩
          case round =>
            obtain ⟨m, Z, rfl, rfl, HZ, hm⟩ := hrel
            unfold Rn at hm
            rcases hm with ⟨rfl, rfl⟩ | ⟨rfl, rfl⟩ | ⟨rfl, rfl⟩ | ⟨rfl, rfl⟩ | ⟨rfl, rfl⟩
            · obtain ⟨D, hD⟩ : ∃ D, D = x / 4096 := ⟨_, rfl⟩
              replace hD : D = x / 16 ^ 3 := hD
              obtain ⟨r, hr⟩ : ∃ r, r = D % 16 := ⟨_, rfl⟩
              have hx6 : x < 65536 := HX6.out
              have hD6 : D < 65536 := by rw [hD]; have := Nat.div_le_self x (16 ^ 3); omega
              have hdv : (x : Int) / 4096 = (D : Int) := by rw [hD]; simp only [Nat.reducePow]; omega
              have hand : bits .and .u16 (D : Int) 15 = (r : Int) := by rw [and15w D hD6, hr]
              have hr16 : r < 16 := by omega
              have hri : (r : Int) < 16 := by omega
              have hat := hd_at_false r hr16
              by_cases hpos : 0 < D
              · have hpi : (0 : Int) < (D : Int) := by omega
                have hcnd : cnd x qk 3 = true := by unfold cnd; rw [decide_eq_true_iff]; left; rw [← hD]; exact hpos
                obtain ⟨Z2, hZ2⟩ : ∃ Z2, Z2 = strOf (B0 ++ wt false x qk (0 + 1)) := ⟨_, rfl⟩
                have hwt : wt false x qk (0 + 1) = wt false x qk 0 ++ [hd false r] := by
                  show wt false x qk 0 ++ (if cnd x qk 3 = true then [dg false x 3] else []) = _
                  rw [if_pos hcnd]
                  show _ ++ [hd false (x / 16 ^ 3 % 16)] = _
                  rw [hr, show x / 16 ^ 3 = D from hD.symm]
                have hwl := wt_len false x qk 0
                have hb0 := HBL.out
                have a2 : ∀ w : World, (Op.stringOp .add Z (strOf [hd false r])).run Tryd.prog w = .ok (.string Z2) w := fun w => by
                  rw [hZ2, hwt, HZ.out, ← List.append_assoc]
                  exact str_add _ _ w (by simp only [List.length_append, List.length_cons, List.length_nil]; omega)
                have HZ2 := hid hZ2
                clear hwt hwl hb0 hZ2 hcnd hD hr
                go_wp2
                go_roundw
                case rel => exact ⟨0 + 1, Z2, by first | rfl | trivial, rfl, HZ2.out, (by unfold Rn; simp)⟩
                case measure => simp [intOf]
              · have hpi : ¬ (0 : Int) < (D : Int) := by omega
                obtain ⟨e4, he4⟩ : ∃ e4, e4 = qk % 4 := ⟨_, rfl⟩
                have hq255 : qk ≤ 255 := HQK.out
                have hre : (qk : Int) % 4 = (e4 : Int) := by omega
                have hre2 : (qk : Int).tmod 4 = (e4 : Int) := by rw [Int.tmod_eq_emod_of_nonneg (by omega)]; omega
                have he4b : e4 < 4 := by omega
                by_cases hle : 3 ≤ e4
                · have hli : (3 : Int) ≤ (e4 : Int) := by omega
                  have hcnd : cnd x qk 3 = true := by unfold cnd; rw [decide_eq_true_iff]; right; right; rw [← he4]; exact hle
                  clear he4
                  obtain ⟨Z2, hZ2⟩ : ∃ Z2, Z2 = strOf (B0 ++ wt false x qk (0 + 1)) := ⟨_, rfl⟩
                  have hwt : wt false x qk (0 + 1) = wt false x qk 0 ++ [hd false r] := by
                    show wt false x qk 0 ++ (if cnd x qk 3 = true then [dg false x 3] else []) = _
                    rw [if_pos hcnd]
                    show _ ++ [hd false (x / 16 ^ 3 % 16)] = _
                    rw [hr, show x / 16 ^ 3 = D from hD.symm]
                  have hwl := wt_len false x qk 0
                  have hb0 := HBL.out
                  have a2 : ∀ w : World, (Op.stringOp .add Z (strOf [hd false r])).run Tryd.prog w = .ok (.string Z2) w := fun w => by
                    rw [hZ2, hwt, HZ.out, ← List.append_assoc]
                    exact str_add _ _ w (by simp only [List.length_append, List.length_cons, List.length_nil]; omega)
                  have HZ2 := hid hZ2
                  clear hwt hwl hb0 hZ2 hcnd hD hr
                  go_wp2
                  go_roundw
                  case rel => exact ⟨0 + 1, Z2, by first | rfl | trivial, rfl, HZ2.out, (by unfold Rn; simp)⟩
                  case measure => simp [intOf]
                · have hli : ¬ (3 : Int) ≤ (e4 : Int) := by omega
                  have hcnd : cnd x qk 3 = false := by
                    unfold cnd
                    rw [decide_eq_false_iff_not]
                    rintro (h | h | h)
                    · rw [← hD] at h; exact hpos h
                    · omega
                    · omega
                  have HZ2 : Hid (Z = strOf (B0 ++ wt false x qk (0 + 1))) := by
                    show _ = _
                    have : wt false x qk (0 + 1) = wt false x qk 0 := by
                      show wt false x qk 0 ++ (if cnd x qk 3 = true then [dg false x 3] else []) = _
                      rw [hcnd, if_neg Bool.false_ne_true, List.append_nil]
                    rw [this]
                    exact HZ.out
                  clear he4 hcnd hD hr
                  go_wp2
                  go_roundw
                  case rel => exact ⟨0 + 1, Z, by first | rfl | trivial, rfl, HZ2.out, (by unfold Rn; simp)⟩
                  case measure => simp [intOf]
            · obtain ⟨D, hD⟩ : ∃ D, D = x / 256 := ⟨_, rfl⟩
              replace hD : D = x / 16 ^ 2 := hD
              obtain ⟨r, hr⟩ : ∃ r, r = D % 16 := ⟨_, rfl⟩
              have hx6 : x < 65536 := HX6.out
              have hD6 : D < 65536 := by rw [hD]; have := Nat.div_le_self x (16 ^ 2); omega
              have hdv : (x : Int) / 256 = (D : Int) := by rw [hD]; simp only [Nat.reducePow]; omega
              have hand : bits .and .u16 (D : Int) 15 = (r : Int) := by rw [and15w D hD6, hr]
              have hr16 : r < 16 := by omega
              have hri : (r : Int) < 16 := by omega
              have hat := hd_at_false r hr16
              by_cases hpos : 0 < D
              · have hpi : (0 : Int) < (D : Int) := by omega
                have hcnd : cnd x qk 2 = true := by unfold cnd; rw [decide_eq_true_iff]; left; rw [← hD]; exact hpos
                obtain ⟨Z2, hZ2⟩ : ∃ Z2, Z2 = strOf (B0 ++ wt false x qk (1 + 1)) := ⟨_, rfl⟩
                have hwt : wt false x qk (1 + 1) = wt false x qk 1 ++ [hd false r] := by
                  show wt false x qk 1 ++ (if cnd x qk 2 = true then [dg false x 2] else []) = _
                  rw [if_pos hcnd]
                  show _ ++ [hd false (x / 16 ^ 2 % 16)] = _
                  rw [hr, show x / 16 ^ 2 = D from hD.symm]
                have hwl := wt_len false x qk 1
                have hb0 := HBL.out
                have a2 : ∀ w : World, (Op.stringOp .add Z (strOf [hd false r])).run Tryd.prog w = .ok (.string Z2) w := fun w => by
                  rw [hZ2, hwt, HZ.out, ← List.append_assoc]
                  exact str_add _ _ w (by simp only [List.length_append, List.length_cons, List.length_nil]; omega)
                have HZ2 := hid hZ2
                clear hwt hwl hb0 hZ2 hcnd hD hr
                go_wp2
                go_roundw
                case rel => exact ⟨1 + 1, Z2, by first | rfl | trivial, rfl, HZ2.out, (by unfold Rn; simp)⟩
                case measure => simp [intOf]
              · have hpi : ¬ (0 : Int) < (D : Int) := by omega
                obtain ⟨e4, he4⟩ : ∃ e4, e4 = qk % 4 := ⟨_, rfl⟩
                have hq255 : qk ≤ 255 := HQK.out
                have hre : (qk : Int) % 4 = (e4 : Int) := by omega
                have hre2 : (qk : Int).tmod 4 = (e4 : Int) := by rw [Int.tmod_eq_emod_of_nonneg (by omega)]; omega
                have he4b : e4 < 4 := by omega
                by_cases hle : 2 ≤ e4
                · have hli : (2 : Int) ≤ (e4 : Int) := by omega
                  have hcnd : cnd x qk 2 = true := by unfold cnd; rw [decide_eq_true_iff]; right; right; rw [← he4]; exact hle
                  clear he4
                  obtain ⟨Z2, hZ2⟩ : ∃ Z2, Z2 = strOf (B0 ++ wt false x qk (1 + 1)) := ⟨_, rfl⟩
                  have hwt : wt false x qk (1 + 1) = wt false x qk 1 ++ [hd false r] := by
                    show wt false x qk 1 ++ (if cnd x qk 2 = true then [dg false x 2] else []) = _
                    rw [if_pos hcnd]
                    show _ ++ [hd false (x / 16 ^ 2 % 16)] = _
                    rw [hr, show x / 16 ^ 2 = D from hD.symm]
                  have hwl := wt_len false x qk 1
                  have hb0 := HBL.out
                  have a2 : ∀ w : World, (Op.stringOp .add Z (strOf [hd false r])).run Tryd.prog w = .ok (.string Z2) w := fun w => by
                    rw [hZ2, hwt, HZ.out, ← List.append_assoc]
                    exact str_add _ _ w (by simp only [List.length_append, List.length_cons, List.length_nil]; omega)
                  have HZ2 := hid hZ2
                  clear hwt hwl hb0 hZ2 hcnd hD hr
                  go_wp2
                  go_roundw
                  case rel => exact ⟨1 + 1, Z2, by first | rfl | trivial, rfl, HZ2.out, (by unfold Rn; simp)⟩
                  case measure => simp [intOf]
                · have hli : ¬ (2 : Int) ≤ (e4 : Int) := by omega
                  have hcnd : cnd x qk 2 = false := by
                    unfold cnd
                    rw [decide_eq_false_iff_not]
                    rintro (h | h | h)
                    · rw [← hD] at h; exact hpos h
                    · omega
                    · omega
                  have HZ2 : Hid (Z = strOf (B0 ++ wt false x qk (1 + 1))) := by
                    show _ = _
                    have : wt false x qk (1 + 1) = wt false x qk 1 := by
                      show wt false x qk 1 ++ (if cnd x qk 2 = true then [dg false x 2] else []) = _
                      rw [hcnd, if_neg Bool.false_ne_true, List.append_nil]
                    rw [this]
                    exact HZ.out
                  clear he4 hcnd hD hr
                  go_wp2
                  go_roundw
                  case rel => exact ⟨1 + 1, Z, by first | rfl | trivial, rfl, HZ2.out, (by unfold Rn; simp)⟩
                  case measure => simp [intOf]
            · obtain ⟨D, hD⟩ : ∃ D, D = x / 16 := ⟨_, rfl⟩
              replace hD : D = x / 16 ^ 1 := hD
              obtain ⟨r, hr⟩ : ∃ r, r = D % 16 := ⟨_, rfl⟩
              have hx6 : x < 65536 := HX6.out
              have hD6 : D < 65536 := by rw [hD]; have := Nat.div_le_self x (16 ^ 1); omega
              have hdv : (x : Int) / 16 = (D : Int) := by rw [hD]; simp only [Nat.reducePow]; omega
              have hand : bits .and .u16 (D : Int) 15 = (r : Int) := by rw [and15w D hD6, hr]
              have hr16 : r < 16 := by omega
              have hri : (r : Int) < 16 := by omega
              have hat := hd_at_false r hr16
              by_cases hpos : 0 < D
              · have hpi : (0 : Int) < (D : Int) := by omega
                have hcnd : cnd x qk 1 = true := by unfold cnd; rw [decide_eq_true_iff]; left; rw [← hD]; exact hpos
                obtain ⟨Z2, hZ2⟩ : ∃ Z2, Z2 = strOf (B0 ++ wt false x qk (2 + 1)) := ⟨_, rfl⟩
                have hwt : wt false x qk (2 + 1) = wt false x qk 2 ++ [hd false r] := by
                  show wt false x qk 2 ++ (if cnd x qk 1 = true then [dg false x 1] else []) = _
                  rw [if_pos hcnd]
                  show _ ++ [hd false (x / 16 ^ 1 % 16)] = _
                  rw [hr, show x / 16 ^ 1 = D from hD.symm]
                have hwl := wt_len false x qk 2
                have hb0 := HBL.out
                have a2 : ∀ w : World, (Op.stringOp .add Z (strOf [hd false r])).run Tryd.prog w = .ok (.string Z2) w := fun w => by
                  rw [hZ2, hwt, HZ.out, ← List.append_assoc]
                  exact str_add _ _ w (by simp only [List.length_append, List.length_cons, List.length_nil]; omega)
                have HZ2 := hid hZ2
                clear hwt hwl hb0 hZ2 hcnd hD hr
                go_wp2
                go_roundw
                case rel => exact ⟨2 + 1, Z2, by first | rfl | trivial, rfl, HZ2.out, (by unfold Rn; simp)⟩
                case measure => simp [intOf]
              · have hpi : ¬ (0 : Int) < (D : Int) := by omega
                obtain ⟨e4, he4⟩ : ∃ e4, e4 = qk % 4 := ⟨_, rfl⟩
                have hq255 : qk ≤ 255 := HQK.out
                have hre : (qk : Int) % 4 = (e4 : Int) := by omega
                have hre2 : (qk : Int).tmod 4 = (e4 : Int) := by rw [Int.tmod_eq_emod_of_nonneg (by omega)]; omega
                have he4b : e4 < 4 := by omega
                by_cases hle : 1 ≤ e4
                · have hli : (1 : Int) ≤ (e4 : Int) := by omega
                  have hcnd : cnd x qk 1 = true := by unfold cnd; rw [decide_eq_true_iff]; right; right; rw [← he4]; exact hle
                  clear he4
                  obtain ⟨Z2, hZ2⟩ : ∃ Z2, Z2 = strOf (B0 ++ wt false x qk (2 + 1)) := ⟨_, rfl⟩
                  have hwt : wt false x qk (2 + 1) = wt false x qk 2 ++ [hd false r] := by
                    show wt false x qk 2 ++ (if cnd x qk 1 = true then [dg false x 1] else []) = _
                    rw [if_pos hcnd]
                    show _ ++ [hd false (x / 16 ^ 1 % 16)] = _
                    rw [hr, show x / 16 ^ 1 = D from hD.symm]
                  have hwl := wt_len false x qk 2
                  have hb0 := HBL.out
                  have a2 : ∀ w : World, (Op.stringOp .add Z (strOf [hd false r])).run Tryd.prog w = .ok (.string Z2) w := fun w => by
                    rw [hZ2, hwt, HZ.out, ← List.append_assoc]
                    exact str_add _ _ w (by simp only [List.length_append, List.length_cons, List.length_nil]; omega)
                  have HZ2 := hid hZ2
                  clear hwt hwl hb0 hZ2 hcnd hD hr
                  go_wp2
                  go_roundw
                  case rel => exact ⟨2 + 1, Z2, by first | rfl | trivial, rfl, HZ2.out, (by unfold Rn; simp)⟩
                  case measure => simp [intOf]
                · have hli : ¬ (1 : Int) ≤ (e4 : Int) := by omega
                  have hcnd : cnd x qk 1 = false := by
                    unfold cnd
                    rw [decide_eq_false_iff_not]
                    rintro (h | h | h)
                    · rw [← hD] at h; exact hpos h
                    · omega
                    · omega
                  have HZ2 : Hid (Z = strOf (B0 ++ wt false x qk (2 + 1))) := by
                    show _ = _
                    have : wt false x qk (2 + 1) = wt false x qk 2 := by
                      show wt false x qk 2 ++ (if cnd x qk 1 = true then [dg false x 1] else []) = _
                      rw [hcnd, if_neg Bool.false_ne_true, List.append_nil]
                    rw [this]
                    exact HZ.out
                  clear he4 hcnd hD hr
                  go_wp2
                  go_roundw
                  case rel => exact ⟨2 + 1, Z, by first | rfl | trivial, rfl, HZ2.out, (by unfold Rn; simp)⟩
                  case measure => simp [intOf]
            · obtain ⟨r, hr⟩ : ∃ r, r = x % 16 := ⟨_, rfl⟩
              have hx6 : x < 65536 := HX6.out
              have hcnd : cnd x qk 0 = true := by simp [cnd]
              have hand : bits .and .u16 (x : Int) 15 = (r : Int) := by rw [and15w x hx6, hr]
              have hr16 : r < 16 := by omega
              have hri : (r : Int) < 16 := by omega
              have hat := hd_at_false r hr16
              by_cases hpos : 0 < x
              · have hpi : (0 : Int) < (x : Int) := by omega
                obtain ⟨Z2, hZ2⟩ : ∃ Z2, Z2 = strOf (B0 ++ wt false x qk (3 + 1)) := ⟨_, rfl⟩
                have hwt : wt false x qk (3 + 1) = wt false x qk 3 ++ [hd false r] := by
                  show wt false x qk 3 ++ (if cnd x qk 0 = true then [dg false x 0] else []) = _
                  rw [if_pos hcnd]
                  show _ ++ [hd false (x / 16 ^ 0 % 16)] = _
                  rw [hr]; simp
                have hwl := wt_len false x qk 3
                have hb0 := HBL.out
                have a2 : ∀ w : World, (Op.stringOp .add Z (strOf [hd false r])).run Tryd.prog w = .ok (.string Z2) w := fun w => by
                  rw [hZ2, hwt, HZ.out, ← List.append_assoc]
                  exact str_add _ _ w (by simp only [List.length_append, List.length_cons, List.length_nil]; omega)
                have HZ2 := hid hZ2
                clear hwt hwl hb0 hZ2 hcnd hr
                go_wp2
                go_roundw
                case rel => exact ⟨3 + 1, Z2, by first | rfl | trivial, rfl, HZ2.out, (by unfold Rn; simp)⟩
                case measure => simp [intOf]
              · have hpi : ¬ (0 : Int) < (x : Int) := by omega
                obtain ⟨Z2, hZ2⟩ : ∃ Z2, Z2 = strOf (B0 ++ wt false x qk (3 + 1)) := ⟨_, rfl⟩
                have hwt : wt false x qk (3 + 1) = wt false x qk 3 ++ [hd false r] := by
                  show wt false x qk 3 ++ (if cnd x qk 0 = true then [dg false x 0] else []) = _
                  rw [if_pos hcnd]
                  show _ ++ [hd false (x / 16 ^ 0 % 16)] = _
                  rw [hr]; simp
                have hwl := wt_len false x qk 3
                have hb0 := HBL.out
                have a2 : ∀ w : World, (Op.stringOp .add Z (strOf [hd false r])).run Tryd.prog w = .ok (.string Z2) w := fun w => by
                  rw [hZ2, hwt, HZ.out, ← List.append_assoc]
                  exact str_add _ _ w (by simp only [List.length_append, List.length_cons, List.length_nil]; omega)
                have HZ2 := hid hZ2
                clear hwt hwl hb0 hZ2 hcnd hr
                go_wp2
                go_roundw
                case rel => exact ⟨3 + 1, Z2, by first | rfl | trivial, rfl, HZ2.out, (by unfold Rn; simp)⟩
                case measure => simp [intOf]
            · have HN : Hid (Z = strOf (TX false f q (k + 1))) := by
                show _ = _
                rw [HZ.out, HTX.out]
                rfl
              go_wp2
              go_roundw
              case rel => exact ⟨k + 1, Z, by omega, by go_num, rfl, by first | rfl | trivial, HN.out⟩
              case measure => simp [intOf]; omega
        · have hk1 : (0 : Int) < (k : Int) := by omega
          obtain ⟨B0, hB0⟩ : ∃ B0, B0 = TX false f q k ++ [58] := ⟨_, rfl⟩
          obtain ⟨Y, hY⟩ : ∃ Y, Y = strOf B0 := ⟨_, rfl⟩
          have HBL : Hid (B0.length ≤ 100) := by show _ ≤ _; rw [hB0]; simp; omega
          have HY := hid hY
          have a1 : ∀ w : World, (Op.stringOp .add X ⟨#[58]⟩).run Tryd.prog w = .ok (.string Y) w := fun w => by
            rw [hY, hB0, HX.out]
            exact str_add _ [58] w (by simp; omega)
          have HTX : Hid (TX false f q (k + 1) = B0 ++ wd false x qk) := by
            show _ = _
            rw [hB0, ← hfx, ← hqk]
            exact TX_succ false f q k (by omega)
          clear hB0 hk0 hfx hqk htl hY
          go_wp2
          go_loopw [8, 10, 11] (fun vs vi _ wx => ∃ (m : Nat) (Z : ByteArray), wx = wr ∧ vs = .string Z ∧ Hid (Z = strOf (B0 ++ wt false x qk m)) ∧ Rn m vi) (fun _ vi _ _ => (intOf vi + 1).toNat)
          case atStart => exact ⟨0, Y, rfl, rfl, by show _ = _; rw [HY.out]; show _ = strOf (B0 ++ []); rw [List.append_nil], Or.inl ⟨rfl, rfl⟩⟩
          case round =>
            obtain ⟨m, Z, rfl, rfl, HZ, hm⟩ := hrel
            unfold Rn at hm
            rcases hm with ⟨rfl, rfl⟩ | ⟨rfl, rfl⟩ | ⟨rfl, rfl⟩ | ⟨rfl, rfl⟩ | ⟨rfl, rfl⟩
            · obtain ⟨D, hD⟩ : ∃ D, D = x / 4096 := ⟨_, rfl⟩
              replace hD : D = x / 16 ^ 3 := hD
              obtain ⟨r, hr⟩ : ∃ r, r = D % 16 := ⟨_, rfl⟩
              have hx6 : x < 65536 := HX6.out
              have hD6 : D < 65536 := by rw [hD]; have := Nat.div_le_self x (16 ^ 3); omega
              have hdv : (x : Int) / 4096 = (D : Int) := by rw [hD]; simp only [Nat.reducePow]; omega
              have hand : bits .and .u16 (D : Int) 15 = (r : Int) := by rw [and15w D hD6, hr]
              have hr16 : r < 16 := by omega
              have hri : (r : Int) < 16 := by omega
              have hat := hd_at_false r hr16
              by_cases hpos : 0 < D
              · have hpi : (0 : Int) < (D : Int) := by omega
                have hcnd : cnd x qk 3 = true := by unfold cnd; rw [decide_eq_true_iff]; left; rw [← hD]; exact hpos
                obtain ⟨Z2, hZ2⟩ : ∃ Z2, Z2 = strOf (B0 ++ wt false x qk (0 + 1)) := ⟨_, rfl⟩
                have hwt : wt false x qk (0 + 1) = wt false x qk 0 ++ [hd false r] := by
                  show wt false x qk 0 ++ (if cnd x qk 3 = true then [dg false x 3] else []) = _
                  rw [if_pos hcnd]
                  show _ ++ [hd false (x / 16 ^ 3 % 16)] = _
                  rw [hr, show x / 16 ^ 3 = D from hD.symm]
                have hwl := wt_len false x qk 0
                have hb0 := HBL.out
                have a2 : ∀ w : World, (Op.stringOp .add Z (strOf [hd false r])).run Tryd.prog w = .ok (.string Z2) w := fun w => by
                  rw [hZ2, hwt, HZ.out, ← List.append_assoc]
                  exact str_add _ _ w (by simp only [List.length_append, List.length_cons, List.length_nil]; omega)
                have HZ2 := hid hZ2
                clear hwt hwl hb0 hZ2 hcnd hD hr
                go_wp2
                go_roundw
                case rel => exact ⟨0 + 1, Z2, by first | rfl | trivial, rfl, HZ2.out, (by unfold Rn; simp)⟩
                case measure => simp [intOf]
              · have hpi : ¬ (0 : Int) < (D : Int) := by omega
                obtain ⟨e4, he4⟩ : ∃ e4, e4 = qk % 4 := ⟨_, rfl⟩
                have hq255 : qk ≤ 255 := HQK.out
                have hre : (qk : Int) % 4 = (e4 : Int) := by omega
                have hre2 : (qk : Int).tmod 4 = (e4 : Int) := by rw [Int.tmod_eq_emod_of_nonneg (by omega)]; omega
                have he4b : e4 < 4 := by omega
                by_cases hle : 3 ≤ e4
                · have hli : (3 : Int) ≤ (e4 : Int) := by omega
                  have hcnd : cnd x qk 3 = true := by unfold cnd; rw [decide_eq_true_iff]; right; right; rw [← he4]; exact hle
                  clear he4
                  obtain ⟨Z2, hZ2⟩ : ∃ Z2, Z2 = strOf (B0 ++ wt false x qk (0 + 1)) := ⟨_, rfl⟩
                  have hwt : wt false x qk (0 + 1) = wt false x qk 0 ++ [hd false r] := by
                    show wt false x qk 0 ++ (if cnd x qk 3 = true then [dg false x 3] else []) = _
                    rw [if_pos hcnd]
                    show _ ++ [hd false (x / 16 ^ 3 % 16)] = _
                    rw [hr, show x / 16 ^ 3 = D from hD.symm]
                  have hwl := wt_len false x qk 0
                  have hb0 := HBL.out
                  have a2 : ∀ w : World, (Op.stringOp .add Z (strOf [hd false r])).run Tryd.prog w = .ok (.string Z2) w := fun w => by
                    rw [hZ2, hwt, HZ.out, ← List.append_assoc]
                    exact str_add _ _ w (by simp only [List.length_append, List.length_cons, List.length_nil]; omega)
                  have HZ2 := hid hZ2
                  clear hwt hwl hb0 hZ2 hcnd hD hr
                  go_wp2
                  go_roundw
                  case rel => exact ⟨0 + 1, Z2, by first | rfl | trivial, rfl, HZ2.out, (by unfold Rn; simp)⟩
                  case measure => simp [intOf]
                · have hli : ¬ (3 : Int) ≤ (e4 : Int) := by omega
                  have hcnd : cnd x qk 3 = false := by
                    unfold cnd
                    rw [decide_eq_false_iff_not]
                    rintro (h | h | h)
                    · rw [← hD] at h; exact hpos h
                    · omega
                    · omega
                  have HZ2 : Hid (Z = strOf (B0 ++ wt false x qk (0 + 1))) := by
                    show _ = _
                    have : wt false x qk (0 + 1) = wt false x qk 0 := by
                      show wt false x qk 0 ++ (if cnd x qk 3 = true then [dg false x 3] else []) = _
                      rw [hcnd, if_neg Bool.false_ne_true, List.append_nil]
                    rw [this]
                    exact HZ.out
                  clear he4 hcnd hD hr
                  go_wp2
                  go_roundw
                  case rel => exact ⟨0 + 1, Z, by first | rfl | trivial, rfl, HZ2.out, (by unfold Rn; simp)⟩
                  case measure => simp [intOf]
            · obtain ⟨D, hD⟩ : ∃ D, D = x / 256 := ⟨_, rfl⟩
              replace hD : D = x / 16 ^ 2 := hD
              obtain ⟨r, hr⟩ : ∃ r, r = D % 16 := ⟨_, rfl⟩
              have hx6 : x < 65536 := HX6.out
              have hD6 : D < 65536 := by rw [hD]; have := Nat.div_le_self x (16 ^ 2); omega
              have hdv : (x : Int) / 256 = (D : Int) := by rw [hD]; simp only [Nat.reducePow]; omega
              have hand : bits .and .u16 (D : Int) 15 = (r : Int) := by rw [and15w D hD6, hr]
              have hr16 : r < 16 := by omega
              have hri : (r : Int) < 16 := by omega
              have hat := hd_at_false r hr16
              by_cases hpos : 0 < D
              · have hpi : (0 : Int) < (D : Int) := by omega
                have hcnd : cnd x qk 2 = true := by unfold cnd; rw [decide_eq_true_iff]; left; rw [← hD]; exact hpos
                obtain ⟨Z2, hZ2⟩ : ∃ Z2, Z2 = strOf (B0 ++ wt false x qk (1 + 1)) := ⟨_, rfl⟩
                have hwt : wt false x qk (1 + 1) = wt false x qk 1 ++ [hd false r] := by
                  show wt false x qk 1 ++ (if cnd x qk 2 = true then [dg false x 2] else []) = _
                  rw [if_pos hcnd]
                  show _ ++ [hd false (x / 16 ^ 2 % 16)] = _
                  rw [hr, show x / 16 ^ 2 = D from hD.symm]
                have hwl := wt_len false x qk 1
                have hb0 := HBL.out
                have a2 : ∀ w : World, (Op.stringOp .add Z (strOf [hd false r])).run Tryd.prog w = .ok (.string Z2) w := fun w => by
                  rw [hZ2, hwt, HZ.out, ← List.append_assoc]
                  exact str_add _ _ w (by simp only [List.length_append, List.length_cons, List.length_nil]; omega)
                have HZ2 := hid hZ2
                clear hwt hwl hb0 hZ2 hcnd hD hr
                go_wp2
                go_roundw
                case rel => exact ⟨1 + 1, Z2, by first | rfl | trivial, rfl, HZ2.out, (by unfold Rn; simp)⟩
                case measure => simp [intOf]
              · have hpi : ¬ (0 : Int) < (D : Int) := by omega
                obtain ⟨e4, he4⟩ : ∃ e4, e4 = qk % 4 := ⟨_, rfl⟩
                have hq255 : qk ≤ 255 := HQK.out
                have hre : (qk : Int) % 4 = (e4 : Int) := by omega
                have hre2 : (qk : Int).tmod 4 = (e4 : Int) := by rw [Int.tmod_eq_emod_of_nonneg (by omega)]; omega
                have he4b : e4 < 4 := by omega
                by_cases hle : 2 ≤ e4
                · have hli : (2 : Int) ≤ (e4 : Int) := by omega
                  have hcnd : cnd x qk 2 = true := by unfold cnd; rw [decide_eq_true_iff]; right; right; rw [← he4]; exact hle
                  clear he4
                  obtain ⟨Z2, hZ2⟩ : ∃ Z2, Z2 = strOf (B0 ++ wt false x qk (1 + 1)) := ⟨_, rfl⟩
                  have hwt : wt false x qk (1 + 1) = wt false x qk 1 ++ [hd false r] := by
                    show wt false x qk 1 ++ (if cnd x qk 2 = true then [dg false x 2] else []) = _
                    rw [if_pos hcnd]
                    show _ ++ [hd false (x / 16 ^ 2 % 16)] = _
                    rw [hr, show x / 16 ^ 2 = D from hD.symm]
                  have hwl := wt_len false x qk 1
                  have hb0 := HBL.out
                  have a2 : ∀ w : World, (Op.stringOp .add Z (strOf [hd false r])).run Tryd.prog w = .ok (.string Z2) w := fun w => by
                    rw [hZ2, hwt, HZ.out, ← List.append_assoc]
                    exact str_add _ _ w (by simp only [List.length_append, List.length_cons, List.length_nil]; omega)
                  have HZ2 := hid hZ2
                  clear hwt hwl hb0 hZ2 hcnd hD hr
                  go_wp2
                  go_roundw
                  case rel => exact ⟨1 + 1, Z2, by first | rfl | trivial, rfl, HZ2.out, (by unfold Rn; simp)⟩
                  case measure => simp [intOf]
                · have hli : ¬ (2 : Int) ≤ (e4 : Int) := by omega
                  have hcnd : cnd x qk 2 = false := by
                    unfold cnd
                    rw [decide_eq_false_iff_not]
                    rintro (h | h | h)
                    · rw [← hD] at h; exact hpos h
                    · omega
                    · omega
                  have HZ2 : Hid (Z = strOf (B0 ++ wt false x qk (1 + 1))) := by
                    show _ = _
                    have : wt false x qk (1 + 1) = wt false x qk 1 := by
                      show wt false x qk 1 ++ (if cnd x qk 2 = true then [dg false x 2] else []) = _
                      rw [hcnd, if_neg Bool.false_ne_true, List.append_nil]
                    rw [this]
                    exact HZ.out
                  clear he4 hcnd hD hr
                  go_wp2
                  go_roundw
                  case rel => exact ⟨1 + 1, Z, by first | rfl | trivial, rfl, HZ2.out, (by unfold Rn; simp)⟩
                  case measure => simp [intOf]
            · obtain ⟨D, hD⟩ : ∃ D, D = x / 16 := ⟨_, rfl⟩
              replace hD : D = x / 16 ^ 1 := hD
              obtain ⟨r, hr⟩ : ∃ r, r = D % 16 := ⟨_, rfl⟩
              have hx6 : x < 65536 := HX6.out
              have hD6 : D < 65536 := by rw [hD]; have := Nat.div_le_self x (16 ^ 1); omega
              have hdv : (x : Int) / 16 = (D : Int) := by rw [hD]; simp only [Nat.reducePow]; omega
              have hand : bits .and .u16 (D : Int) 15 = (r : Int) := by rw [and15w D hD6, hr]
              have hr16 : r < 16 := by omega
              have hri : (r : Int) < 16 := by omega
              have hat := hd_at_false r hr16
              by_cases hpos : 0 < D
              · have hpi : (0 : Int) < (D : Int) := by omega
                have hcnd : cnd x qk 1 = true := by unfold cnd; rw [decide_eq_true_iff]; left; rw [← hD]; exact hpos
                obtain ⟨Z2, hZ2⟩ : ∃ Z2, Z2 = strOf (B0 ++ wt false x qk (2 + 1)) := ⟨_, rfl⟩
                have hwt : wt false x qk (2 + 1) = wt false x qk 2 ++ [hd false r] := by
                  show wt false x qk 2 ++ (if cnd x qk 1 = true then [dg false x 1] else []) = _
                  rw [if_pos hcnd]
                  show _ ++ [hd false (x / 16 ^ 1 % 16)] = _
                  rw [hr, show x / 16 ^ 1 = D from hD.symm]
                have hwl := wt_len false x qk 2
                have hb0 := HBL.out
                have a2 : ∀ w : World, (Op.stringOp .add Z (strOf [hd false r])).run Tryd.prog w = .ok (.string Z2) w := fun w => by
                  rw [hZ2, hwt, HZ.out, ← List.append_assoc]
                  exact str_add _ _ w (by simp only [List.length_append, List.length_cons, List.length_nil]; omega)
                have HZ2 := hid hZ2
                clear hwt hwl hb0 hZ2 hcnd hD hr
                go_wp2
                go_roundw
                case rel => exact ⟨2 + 1, Z2, by first | rfl | trivial, rfl, HZ2.out, (by unfold Rn; simp)⟩
                case measure => simp [intOf]
              · have hpi : ¬ (0 : Int) < (D : Int) := by omega
                obtain ⟨e4, he4⟩ : ∃ e4, e4 = qk % 4 := ⟨_, rfl⟩
                have hq255 : qk ≤ 255 := HQK.out
                have hre : (qk : Int) % 4 = (e4 : Int) := by omega
                have hre2 : (qk : Int).tmod 4 = (e4 : Int) := by rw [Int.tmod_eq_emod_of_nonneg (by omega)]; omega
                have he4b : e4 < 4 := by omega
                by_cases hle : 1 ≤ e4
                · have hli : (1 : Int) ≤ (e4 : Int) := by omega
                  have hcnd : cnd x qk 1 = true := by unfold cnd; rw [decide_eq_true_iff]; right; right; rw [← he4]; exact hle
                  clear he4
                  obtain ⟨Z2, hZ2⟩ : ∃ Z2, Z2 = strOf (B0 ++ wt false x qk (2 + 1)) := ⟨_, rfl⟩
                  have hwt : wt false x qk (2 + 1) = wt false x qk 2 ++ [hd false r] := by
                    show wt false x qk 2 ++ (if cnd x qk 1 = true then [dg false x 1] else []) = _
                    rw [if_pos hcnd]
                    show _ ++ [hd false (x / 16 ^ 1 % 16)] = _
                    rw [hr, show x / 16 ^ 1 = D from hD.symm]
                  have hwl := wt_len false x qk 2
                  have hb0 := HBL.out
                  have a2 : ∀ w : World, (Op.stringOp .add Z (strOf [hd false r])).run Tryd.prog w = .ok (.string Z2) w := fun w => by
                    rw [hZ2, hwt, HZ.out, ← List.append_assoc]
                    exact str_add _ _ w (by simp only [List.length_append, List.length_cons, List.length_nil]; omega)
                  have HZ2 := hid hZ2
                  clear hwt hwl hb0 hZ2 hcnd hD hr
                  go_wp2
                  go_roundw
                  case rel => exact ⟨2 + 1, Z2, by first | rfl | trivial, rfl, HZ2.out, (by unfold Rn; simp)⟩
                  case measure => simp [intOf]
                · have hli : ¬ (1 : Int) ≤ (e4 : Int) := by omega
                  have hcnd : cnd x qk 1 = false := by
                    unfold cnd
                    rw [decide_eq_false_iff_not]
                    rintro (h | h | h)
                    · rw [← hD] at h; exact hpos h
                    · omega
                    · omega
                  have HZ2 : Hid (Z = strOf (B0 ++ wt false x qk (2 + 1))) := by
                    show _ = _
                    have : wt false x qk (2 + 1) = wt false x qk 2 := by
                      show wt false x qk 2 ++ (if cnd x qk 1 = true then [dg false x 1] else []) = _
                      rw [hcnd, if_neg Bool.false_ne_true, List.append_nil]
                    rw [this]
                    exact HZ.out
                  clear he4 hcnd hD hr
                  go_wp2
                  go_roundw
                  case rel => exact ⟨2 + 1, Z, by first | rfl | trivial, rfl, HZ2.out, (by unfold Rn; simp)⟩
                  case measure => simp [intOf]
            · obtain ⟨r, hr⟩ : ∃ r, r = x % 16 := ⟨_, rfl⟩
              have hx6 : x < 65536 := HX6.out
              have hcnd : cnd x qk 0 = true := by simp [cnd]
              have hand : bits .and .u16 (x : Int) 15 = (r : Int) := by rw [and15w x hx6, hr]
              have hr16 : r < 16 := by omega
              have hri : (r : Int) < 16 := by omega
              have hat := hd_at_false r hr16
              by_cases hpos : 0 < x
              · have hpi : (0 : Int) < (x : Int) := by omega
                obtain ⟨Z2, hZ2⟩ : ∃ Z2, Z2 = strOf (B0 ++ wt false x qk (3 + 1)) := ⟨_, rfl⟩
                have hwt : wt false x qk (3 + 1) = wt false x qk 3 ++ [hd false r] := by
                  show wt false x qk 3 ++ (if cnd x qk 0 = true then [dg false x 0] else []) = _
                  rw [if_pos hcnd]
                  show _ ++ [hd false (x / 16 ^ 0 % 16)] = _
                  rw [hr]; simp
                have hwl := wt_len false x qk 3
                have hb0 := HBL.out
                have a2 : ∀ w : World, (Op.stringOp .add Z (strOf [hd false r])).run Tryd.prog w = .ok (.string Z2) w := fun w => by
                  rw [hZ2, hwt, HZ.out, ← List.append_assoc]
                  exact str_add _ _ w (by simp only [List.length_append, List.length_cons, List.length_nil]; omega)
                have HZ2 := hid hZ2
                clear hwt hwl hb0 hZ2 hcnd hr
                go_wp2
                go_roundw
                case rel => exact ⟨3 + 1, Z2, by first | rfl | trivial, rfl, HZ2.out, (by unfold Rn; simp)⟩
                case measure => simp [intOf]
              · have hpi : ¬ (0 : Int) < (x : Int) := by omega
                obtain ⟨Z2, hZ2⟩ : ∃ Z2, Z2 = strOf (B0 ++ wt false x qk (3 + 1)) := ⟨_, rfl⟩
                have hwt : wt false x qk (3 + 1) = wt false x qk 3 ++ [hd false r] := by
                  show wt false x qk 3 ++ (if cnd x qk 0 = true then [dg false x 0] else []) = _
                  rw [if_pos hcnd]
                  show _ ++ [hd false (x / 16 ^ 0 % 16)] = _
                  rw [hr]; simp
                have hwl := wt_len false x qk 3
                have hb0 := HBL.out
                have a2 : ∀ w : World, (Op.stringOp .add Z (strOf [hd false r])).run Tryd.prog w = .ok (.string Z2) w := fun w => by
                  rw [hZ2, hwt, HZ.out, ← List.append_assoc]
                  exact str_add _ _ w (by simp only [List.length_append, List.length_cons, List.length_nil]; omega)
                have HZ2 := hid hZ2
                clear hwt hwl hb0 hZ2 hcnd hr
                go_wp2
                go_roundw
                case rel => exact ⟨3 + 1, Z2, by first | rfl | trivial, rfl, HZ2.out, (by unfold Rn; simp)⟩
                case measure => simp [intOf]
            · have HN : Hid (Z = strOf (TX false f q (k + 1))) := by
                show _ = _
                rw [HZ.out, HTX.out]
                rfl
              go_wp2
              go_roundw
              case rel => exact ⟨k + 1, Z, by omega, by go_num, rfl, by first | rfl | trivial, HN.out⟩
              case measure => simp [intOf]; omega
      · obtain rfl : k = 8 := by omega
        have HE : Hid (X = P) := by show _ = _; rw [HX.out, HP.out]
        obtain rfl : X = P := HE.out
        have HM2 := HM.out.below HB2.out
        go_wp2_with fail
        refine (HR.out _ (HM.out.below HB2.out)).mono ?_
        rintro e w3 ⟨rfl, hb3⟩
        have HX3 := hid (HX2.out.below hb3)
        have HB3 := hid (bel HB2.out hb3)
        clear hb3
        go_upto_region 20 with (fail)
        generalize hw5 : w3.alloc _ = w5
        have HB5 : Hid (Below w.heap.size w w5) := by
          show Below _ _ _
          rw [← hw5]
          exact HB3.out.alloc HB3.out.size _
        have HX5 : Hid (Box w5 w.heap.size 24 (V8 f)) := by
          show Box _ _ _ _
          rw [← hw5]
          exact HX3.out.below ((Below.refl _ _).alloc (Nat.le_refl _) _)
        have HY5 : Hid (Box w5 w3.heap.size 24 (V8 f)) := by
          show Box _ _ _ _
          rw [← hw5]
          exact box_new f
        clear hw5
        obtain ⟨c0, c1, c2, c3, c4, c5, c6, c7⟩ := cells8 HX5.out f rfl
        obtain ⟨d0, d1, d2, d3, d4, d5, d6, d7⟩ := cells8 HY5.out f rfl
        go_wp2
        go_ret
        exact ⟨rfl, HB5.out⟩
end Go.Proofs.YtnmkkejodkjjiaaDoor.Laws
