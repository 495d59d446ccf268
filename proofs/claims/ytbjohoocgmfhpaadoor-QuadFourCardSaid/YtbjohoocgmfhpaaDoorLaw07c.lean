/- The walk of the law QuadFour: it returns true, whatever it is called with. -/
import Derived.Test.YtbjohoocgmfhpaaDoorQudJ
import Derived.Test.YtbjohoocgmfhpaaDoorRegs
namespace Go.Proofs.YtbjohoocgmfhpaaDoor.Laws
open Go.RowKit Go.Proofs.YtbjohoocgmfhpaaDoor.Base Go.Proofs.YtbjohoocgmfhpaaDoor.Base2 Go.Proofs.YtbjohoocgmfhpaaDoor.UtfA Go.Proofs.YtbjohoocgmfhpaaDoor.QudP Go.Proofs.YtbjohoocgmfhpaaDoor.QudA Go.Proofs.YtbjohoocgmfhpaaDoor.QudC Go.Proofs.YtbjohoocgmfhpaaDoor.QudD Go.Proofs.YtbjohoocgmfhpaaDoor.QudE Go.Proofs.YtbjohoocgmfhpaaDoor.QudF Go.Proofs.YtbjohoocgmfhpaaDoor.QudG Go.Proofs.YtbjohoocgmfhpaaDoor.QudH Go.Proofs.YtbjohoocgmfhpaaDoor.QudI Go.Proofs.YtbjohoocgmfhpaaDoor.QudJ Go.Proofs.YtbjohoocgmfhpaaDoor.Regs

/-- The text behind so many parts. -/
def tx (q0 q1 q2 q3 : List UInt8) : Nat → List UInt8
  | 0 => []
  | 1 => q0
  | 2 => q0 ++ [46] ++ q1
  | 3 => q0 ++ [46] ++ q1 ++ [46] ++ q2
  | _ => q0 ++ [46] ++ q1 ++ [46] ++ q2 ++ [46] ++ q3
theorem tx_len {q0 q1 q2 q3 : List UInt8} {v0 v1 v2 v3 : Nat} (h0 : Part q0 v0) (h1 : Part q1 v1) (h2 : Part q2 v2) (h3 : Part q3 v3) : ∀ k, (tx q0 q1 q2 q3 k).length ≤ 27 := by
  have := h0.len
  have := h1.len
  have := h2.len
  have := h3.len
  intro k
  match k with
  | 0 => simp [tx]
  | 1 => simp [tx]; omega
  | 2 => simp [tx]; omega
  | 3 => simp [tx]; omega
  | _ + 4 => simp [tx]; omega
set_option linter.unusedSimpArgs false in
set_option maxRecDepth 100000 in
set_option maxHeartbeats 8000000 in
theorem QuadFour_any (z : Int) (z0 z1 z2 z3 : Int) (w : World) (hz : 0 ≤ z ∧ z ≤ 4294967295) (hz0 : 0 ≤ z0 ∧ z0 ≤ 255) (hz1 : 0 ≤ z1 ∧ z1 ≤ 255) (hz2 : 0 ≤ z2 ∧ z2 ≤ 255) (hz3 : 0 ≤ z3 ∧ z3 ≤ 255) (hT : Tab.Pow w) (hM : Max w) :
    Calls Tryd.prog 5 #[.int .u32 z, .agg #[.int .u8 z0, .int .u8 z1, .int .u8 z2, .int .u8 z3]] w fun e w' => e = .returned (.bool true) ∧ Below w.heap.size w w' := by
  obtain ⟨n, rfl⟩ : ∃ n : Nat, z = (n : Int) := ⟨z.toNat, by omega⟩
  have hn : n < 4294967296 := by omega
  obtain ⟨a0, b0⟩ := hz0
  obtain ⟨m0, hm0, hl0⟩ : ∃ m : Nat, z0 % 3 = (m : Int) ∧ m < 3 := ⟨(z0 % 3).toNat, by omega, by omega⟩
  have hn0 : z0.tmod 3 = (m0 : Int) := by rw [Int.tmod_eq_emod_of_nonneg a0]; exact hm0
  obtain ⟨q0, hq0⟩ : ∃ q, q = wt m0 (n / 16777216) := ⟨_, rfl⟩
  have hp0 : Part q0 (n / 16777216) := by rw [hq0]; exact part_wt m0 _ (by omega)
  obtain ⟨a1, b1⟩ := hz1
  obtain ⟨m1, hm1, hl1⟩ : ∃ m : Nat, z1 % 3 = (m : Int) ∧ m < 3 := ⟨(z1 % 3).toNat, by omega, by omega⟩
  have hn1 : z1.tmod 3 = (m1 : Int) := by rw [Int.tmod_eq_emod_of_nonneg a1]; exact hm1
  obtain ⟨q1, hq1⟩ : ∃ q, q = wt m1 (n / 65536 % 256) := ⟨_, rfl⟩
  have hp1 : Part q1 (n / 65536 % 256) := by rw [hq1]; exact part_wt m1 _ (by omega)
  obtain ⟨a2, b2⟩ := hz2
  obtain ⟨m2, hm2, hl2⟩ : ∃ m : Nat, z2 % 3 = (m : Int) ∧ m < 3 := ⟨(z2 % 3).toNat, by omega, by omega⟩
  have hn2 : z2.tmod 3 = (m2 : Int) := by rw [Int.tmod_eq_emod_of_nonneg a2]; exact hm2
  obtain ⟨q2, hq2⟩ : ∃ q, q = wt m2 (n / 256 % 256) := ⟨_, rfl⟩
  have hp2 : Part q2 (n / 256 % 256) := by rw [hq2]; exact part_wt m2 _ (by omega)
  obtain ⟨a3, b3⟩ := hz3
  obtain ⟨m3, hm3, hl3⟩ : ∃ m : Nat, z3 % 3 = (m : Int) ∧ m < 3 := ⟨(z3 % 3).toNat, by omega, by omega⟩
  have hn3 : z3.tmod 3 = (m3 : Int) := by rw [Int.tmod_eq_emod_of_nonneg a3]; exact hm3
  obtain ⟨q3, hq3⟩ : ∃ q, q = wt m3 (n % 256) := ⟨_, rfl⟩
  have hp3 : Part q3 (n % 256) := by rw [hq3]; exact part_wt m3 _ (by omega)
  obtain ⟨hP1, hP2⟩ := prs_four hp0 hp1 hp2 hp3 n rfl rfl rfl rfl hn
  have hTL := tx_len hp0 hp1 hp2 hp3
  have HTL := hid hTL
  have HQ : Hid (q0 = wt m0 (n / 16777216) ∧ q1 = wt m1 (n / 65536 % 256) ∧ q2 = wt m2 (n / 256 % 256) ∧ q3 = wt m3 (n % 256)) := ⟨hq0, hq1, hq2, hq3⟩
  obtain ⟨T, hTx⟩ : ∃ T : Nat → List UInt8, T = tx q0 q1 q2 q3 := ⟨_, rfl⟩
  rw [← hTx] at HTL
  have HTX := hid hTx
  obtain ⟨X, hX⟩ : ∃ X, X = strOf (T 4) := ⟨_, rfl⟩
  have hx4 : T 4 = four q0 q1 q2 q3 := by rw [hTx]; rfl
  have hxs : X.size ≤ 900000 := by rw [hX, size_strOf]; have := HTL.out 4; omega
  have PX : Hid (∀ w, QudC.Max w → Calls Tryd.prog 8 #[.string X] w fun e w' => e = .returned (.tuple #[.int .u32 (n : Int), .bool true]) ∧ Below w.heap.size w w') := fun w h => by
    have := parse_any X w hxs h
    rw [show X.data.toList = four q0 q1 q2 q3 by rw [hX, ← hx4]; rfl, prsV_some _ n hP1] at this
    exact this
  have EX : Hid (∀ w, Calls Tryd.prog 10 #[.string X] w fun e w' => e = .returned (.bool true) ∧ Below w.heap.size w w') := fun w => by
    have := ends_any X w hxs
    rw [show X.data.toList = four q0 q1 q2 q3 by rw [hX, ← hx4]; rfl, hP2] at this
    exact this
  have HX := hid hX
  have HT := hid hT
  have HM := hid hM
  have hni : (n : Int) < 4294967296 := by omega
  have hn0' : 0 ≤ (n : Int) := by omega
  have hnn : ((n : Int) == (n : Int)) = true := by simp
  clear hX hx4 hT hM hxs hz hP1 hP2 hTL hTx hp0 hp1 hp2 hp3 hq0 hq1 hq2 hq3
  go_enter Tryd.func5, Tryd.ntmps5
  go_wp2_with fail
  have hbA : Below w.heap.size w (w.alloc (.cells #[.int .u8 z0, .int .u8 z1, .int .u8 z2, .int .u8 z3] 31)) := (Below.refl _ _).alloc (Nat.le_refl _) _
  have HCA : Hid ((w.alloc (.cells #[.int .u8 z0, .int .u8 z1, .int .u8 z2, .int .u8 z3] 31)).heap[w.heap.size]? = some (.cells #[.int .u8 z0, .int .u8 z1, .int .u8 z2, .int .u8 z3] 31)) := heap_alloc_new w _
  generalize hw1 : w.alloc _ = w1 at hbA HCA ⊢
  have HC : Hid (∀ w' : World, Below w1.heap.size w1 w' → w'.cell? ⟨w.heap.size, 0, none⟩ = some (.int .u8 z0) ∧ w'.cell? ⟨w.heap.size, 1, none⟩ = some (.int .u8 z1) ∧ w'.cell? ⟨w.heap.size, 2, none⟩ = some (.int .u8 z2) ∧ w'.cell? ⟨w.heap.size, 3, none⟩ = some (.int .u8 z3)) := by
    intro w' hb
    have hlt := (Array.getElem?_eq_some_iff.1 HCA.out).1
    have := (hb.block _ hlt).trans HCA.out
    unfold World.cell?
    rw [this]
    exact ⟨rfl, rfl, rfl, rfl⟩
  have HBA := hid hbA
  clear hw1 hbA HCA
  refine (awake_any _ (HT.out.below HBA.out) (HM.out.below HBA.out)).mono ?_
  rintro e w2 ⟨rfl, hb2⟩
  have HB2 := hid hb2
  clear hb2
  go_wp2
  go_loopw [5, 6, 7, 12, 35, 42] (fun vs _ _ vk _ _ wr => ∃ k : Nat, k ≤ 4 ∧ vk = .int .i64 (k : Int) ∧ vs = .string (strOf (T k)) ∧ Hid (Below w1.heap.size w1 wr)) (fun _ _ _ vk _ _ _ => 4 - (intOf vk).toNat)
  case atStart => exact ⟨0, by omega, rfl, by rw [HTX.out]; rfl, HB2⟩
  case round =>
    clear HB2
    obtain ⟨k, hk, rfl, rfl, HB⟩ := hrel
    have hk5 : k = 0 ∨ k = 1 ∨ k = 2 ∨ k = 3 ∨ k = 4 := by omega
    obtain ⟨c0, c1, c2, c3⟩ := HC.out _ HB.out
    rcases hk5 with rfl | rfl | rfl | rfl | rfl
    · obtain ⟨b, hb⟩ : ∃ b, b = n / 16777216 := ⟨_, rfl⟩
      have hb256 : b < 256 := by omega
      obtain ⟨a, ha⟩ : ∃ a, a = n / 16777216 := ⟨_, rfl⟩
      have hal : a < 4294967296 := by omega
      have hsh : (n : Int) / 16777216 = (a : Int) := by omega
      have hand : bits .and .u32 (a : Int) 255 = (b : Int) := by rw [and255 a hal]; omega
      have hai : (a : Int) < 4294967296 := by omega
      have hbi : (b : Int) < 256 := by omega
      have hbi2 : (b : Int) < 4294967296 := by omega
      clear ha hal
      have h3 : m0 = 0 ∨ m0 = 1 ∨ m0 = 2 := by omega
      rcases h3 with h3 | h3 | h3
      · obtain rfl : m0 = 0 := by omega
        have hstep : T 1 = T 0 ++ Lib.decDigits b := by
          rw [HTX.out]
          simp only [tx]
          rw [HQ.out.1, ← hb]
          simp [wt]
        have hlen : (T 0 ++ Lib.decDigits b).length ≤ 27 := by rw [← hstep]; exact HTL.out 1
        obtain ⟨E, hE⟩ : ∃ E, E = strOf (T 0 ++ Lib.decDigits b) := ⟨_, rfl⟩
        obtain ⟨B0, hB0⟩ : ∃ E, E = strOf (T 0) := ⟨_, rfl⟩
        obtain ⟨D, hD⟩ : ∃ E, E = strOf (Lib.decDigits b) := ⟨_, rfl⟩
        have s2 : ∀ w : World, (Op.stringOp .add B0 D).run Tryd.prog w = .ok (.string E) w := fun w => by rw [hB0, hD, hE]; exact str_add _ _ w (by simp at hlen ⊢; omega)
        have DD : Hid (∀ w, Calls Tryd.prog 13 #[.int .u64 (b : Int)] w fun e w' => e = .returned (.string D) ∧ Below w.heap.size w w') := fun w => by rw [hD]; exact decimal_any (b + 1) b (by omega) (by omega) w
        have HE : Hid (E = strOf (T 1)) := by show _ = _; rw [hE, hstep]
        rw [← hB0]
        clear hstep hlen hE hB0 hD hb
        go_wp2_with fail
        refine (DD.out _).mono ?_
        rintro e w4 ⟨rfl, hb4⟩
        have HB4 : Hid (Below w1.heap.size w1 w4) := bel HB.out hb4
        clear hb4
        go_wp2
        go_roundw
        case rel => exact ⟨1, by omega, by go_num, by rw [HE.out], HB4⟩
        case measure => simp [intOf]
      · obtain rfl : m0 = 1 := by omega
        have hstep : T 1 = T 0 ++ [48] ++ dgs 8 b := by
          rw [HTX.out]
          simp only [tx]
          rw [HQ.out.1, ← hb]
          simp [wt]
        have hlen : (T 0 ++ [48] ++ dgs 8 b).length ≤ 27 := by rw [← hstep]; exact HTL.out 1
        obtain ⟨E, hE⟩ : ∃ E, E = strOf (T 0 ++ [48] ++ dgs 8 b) := ⟨_, rfl⟩
        obtain ⟨B0, hB0⟩ : ∃ E, E = strOf (T 0) := ⟨_, rfl⟩
        obtain ⟨D, hD⟩ : ∃ E, E = strOf (dgs 8 b) := ⟨_, rfl⟩
        obtain ⟨B2, hB2⟩ : ∃ E, E = strOf (T 0 ++ [48]) := ⟨_, rfl⟩
        have s2 : ∀ w : World, (Op.stringOp .add B0 ⟨#[48]⟩).run Tryd.prog w = .ok (.string B2) w := fun w => by rw [hB0, hB2]; exact str_add _ [48] w (by simp at hlen ⊢; omega)
        have s3 : ∀ w : World, (Op.stringOp .add B2 D).run Tryd.prog w = .ok (.string E) w := fun w => by rw [hB2, hD, hE]; exact str_add _ _ w (by simp at hlen ⊢; omega)
        have DD : Hid (∀ w, Calls Tryd.prog 15 #[.int .u32 (b : Int), .int .u32 8] w fun e w' => e = .returned (.string D) ∧ Below w.heap.size w w') := fun w => by rw [hD]; exact lawDigits_any 8 (.inl rfl) (b + 1) b (by omega) (by omega) w
        have HE : Hid (E = strOf (T 1)) := by show _ = _; rw [hE, hstep]
        rw [← hB0]
        clear hstep hlen hE hB0 hD hB2 hb
        go_wp2_with fail
        refine (DD.out _).mono ?_
        rintro e w4 ⟨rfl, hb4⟩
        have HB4 : Hid (Below w1.heap.size w1 w4) := bel HB.out hb4
        clear hb4
        go_wp2
        go_roundw
        case rel => exact ⟨1, by omega, by go_num, by rw [HE.out], HB4⟩
        case measure => simp [intOf]
      · obtain rfl : m0 = 2 := by omega
        have hstep : T 1 = T 0 ++ [48, 120] ++ dgs 16 b := by
          rw [HTX.out]
          simp only [tx]
          rw [HQ.out.1, ← hb]
          simp [wt]
        have hlen : (T 0 ++ [48, 120] ++ dgs 16 b).length ≤ 27 := by rw [← hstep]; exact HTL.out 1
        obtain ⟨E, hE⟩ : ∃ E, E = strOf (T 0 ++ [48, 120] ++ dgs 16 b) := ⟨_, rfl⟩
        obtain ⟨B0, hB0⟩ : ∃ E, E = strOf (T 0) := ⟨_, rfl⟩
        obtain ⟨D, hD⟩ : ∃ E, E = strOf (dgs 16 b) := ⟨_, rfl⟩
        obtain ⟨B2, hB2⟩ : ∃ E, E = strOf (T 0 ++ [48, 120]) := ⟨_, rfl⟩
        have s2 : ∀ w : World, (Op.stringOp .add B0 ⟨#[48, 120]⟩).run Tryd.prog w = .ok (.string B2) w := fun w => by rw [hB0, hB2]; exact str_add _ [48, 120] w (by simp at hlen ⊢; omega)
        have s3 : ∀ w : World, (Op.stringOp .add B2 D).run Tryd.prog w = .ok (.string E) w := fun w => by rw [hB2, hD, hE]; exact str_add _ _ w (by simp at hlen ⊢; omega)
        have DD : Hid (∀ w, Calls Tryd.prog 15 #[.int .u32 (b : Int), .int .u32 16] w fun e w' => e = .returned (.string D) ∧ Below w.heap.size w w') := fun w => by rw [hD]; exact lawDigits_any 16 (.inr rfl) (b + 1) b (by omega) (by omega) w
        have HE : Hid (E = strOf (T 1)) := by show _ = _; rw [hE, hstep]
        rw [← hB0]
        clear hstep hlen hE hB0 hD hB2 hb
        go_wp2_with fail
        refine (DD.out _).mono ?_
        rintro e w4 ⟨rfl, hb4⟩
        have HB4 : Hid (Below w1.heap.size w1 w4) := bel HB.out hb4
        clear hb4
        go_wp2
        go_roundw
        case rel => exact ⟨1, by omega, by go_num, by rw [HE.out], HB4⟩
        case measure => simp [intOf]
    · obtain ⟨b, hb⟩ : ∃ b, b = n / 65536 % 256 := ⟨_, rfl⟩
      have hb256 : b < 256 := by omega
      obtain ⟨a, ha⟩ : ∃ a, a = n / 65536 := ⟨_, rfl⟩
      have hal : a < 4294967296 := by omega
      have hsh : (n : Int) / 65536 = (a : Int) := by omega
      have hand : bits .and .u32 (a : Int) 255 = (b : Int) := by rw [and255 a hal]; omega
      have hai : (a : Int) < 4294967296 := by omega
      have hbi : (b : Int) < 256 := by omega
      have hbi2 : (b : Int) < 4294967296 := by omega
      clear ha hal
      have h3 : m1 = 0 ∨ m1 = 1 ∨ m1 = 2 := by omega
      rcases h3 with h3 | h3 | h3
      · obtain rfl : m1 = 0 := by omega
        have hstep : T 2 = T 1 ++ [46] ++ Lib.decDigits b := by
          rw [HTX.out]
          simp only [tx]
          rw [HQ.out.2.1, ← hb]
          simp [wt]
        have hlen : (T 1 ++ [46] ++ Lib.decDigits b).length ≤ 27 := by rw [← hstep]; exact HTL.out 2
        obtain ⟨E, hE⟩ : ∃ E, E = strOf (T 1 ++ [46] ++ Lib.decDigits b) := ⟨_, rfl⟩
        obtain ⟨B0, hB0⟩ : ∃ E, E = strOf (T 1) := ⟨_, rfl⟩
        obtain ⟨B1, hB1⟩ : ∃ E, E = strOf (T 1 ++ [46]) := ⟨_, rfl⟩
        have s1 : ∀ w : World, (Op.stringOp .add B0 ⟨#[46]⟩).run Tryd.prog w = .ok (.string B1) w := fun w => by rw [hB0, hB1]; exact str_add _ [46] w (by simp at hlen ⊢; omega)
        obtain ⟨D, hD⟩ : ∃ E, E = strOf (Lib.decDigits b) := ⟨_, rfl⟩
        have s2 : ∀ w : World, (Op.stringOp .add B1 D).run Tryd.prog w = .ok (.string E) w := fun w => by rw [hB1, hD, hE]; exact str_add _ _ w (by simp at hlen ⊢; omega)
        have DD : Hid (∀ w, Calls Tryd.prog 13 #[.int .u64 (b : Int)] w fun e w' => e = .returned (.string D) ∧ Below w.heap.size w w') := fun w => by rw [hD]; exact decimal_any (b + 1) b (by omega) (by omega) w
        have HE : Hid (E = strOf (T 2)) := by show _ = _; rw [hE, hstep]
        rw [← hB0]
        clear hstep hlen hE hB0 hD hB1 hb
        go_wp2_with fail
        refine (DD.out _).mono ?_
        rintro e w4 ⟨rfl, hb4⟩
        have HB4 : Hid (Below w1.heap.size w1 w4) := bel HB.out hb4
        clear hb4
        go_wp2
        go_roundw
        case rel => exact ⟨2, by omega, by go_num, by rw [HE.out], HB4⟩
        case measure => simp [intOf]
      · obtain rfl : m1 = 1 := by omega
        have hstep : T 2 = T 1 ++ [46] ++ [48] ++ dgs 8 b := by
          rw [HTX.out]
          simp only [tx]
          rw [HQ.out.2.1, ← hb]
          simp [wt]
        have hlen : (T 1 ++ [46] ++ [48] ++ dgs 8 b).length ≤ 27 := by rw [← hstep]; exact HTL.out 2
        obtain ⟨E, hE⟩ : ∃ E, E = strOf (T 1 ++ [46] ++ [48] ++ dgs 8 b) := ⟨_, rfl⟩
        obtain ⟨B0, hB0⟩ : ∃ E, E = strOf (T 1) := ⟨_, rfl⟩
        obtain ⟨B1, hB1⟩ : ∃ E, E = strOf (T 1 ++ [46]) := ⟨_, rfl⟩
        have s1 : ∀ w : World, (Op.stringOp .add B0 ⟨#[46]⟩).run Tryd.prog w = .ok (.string B1) w := fun w => by rw [hB0, hB1]; exact str_add _ [46] w (by simp at hlen ⊢; omega)
        obtain ⟨D, hD⟩ : ∃ E, E = strOf (dgs 8 b) := ⟨_, rfl⟩
        obtain ⟨B2, hB2⟩ : ∃ E, E = strOf (T 1 ++ [46] ++ [48]) := ⟨_, rfl⟩
        have s2 : ∀ w : World, (Op.stringOp .add B1 ⟨#[48]⟩).run Tryd.prog w = .ok (.string B2) w := fun w => by rw [hB1, hB2]; exact str_add _ [48] w (by simp at hlen ⊢; omega)
        have s3 : ∀ w : World, (Op.stringOp .add B2 D).run Tryd.prog w = .ok (.string E) w := fun w => by rw [hB2, hD, hE]; exact str_add _ _ w (by simp at hlen ⊢; omega)
        have DD : Hid (∀ w, Calls Tryd.prog 15 #[.int .u32 (b : Int), .int .u32 8] w fun e w' => e = .returned (.string D) ∧ Below w.heap.size w w') := fun w => by rw [hD]; exact lawDigits_any 8 (.inl rfl) (b + 1) b (by omega) (by omega) w
        have HE : Hid (E = strOf (T 2)) := by show _ = _; rw [hE, hstep]
        rw [← hB0]
        clear hstep hlen hE hB0 hD hB1 hB2 hb
        go_wp2_with fail
        refine (DD.out _).mono ?_
        rintro e w4 ⟨rfl, hb4⟩
        have HB4 : Hid (Below w1.heap.size w1 w4) := bel HB.out hb4
        clear hb4
        go_wp2
        go_roundw
        case rel => exact ⟨2, by omega, by go_num, by rw [HE.out], HB4⟩
        case measure => simp [intOf]
      · obtain rfl : m1 = 2 := by omega
        have hstep : T 2 = T 1 ++ [46] ++ [48, 120] ++ dgs 16 b := by
          rw [HTX.out]
          simp only [tx]
          rw [HQ.out.2.1, ← hb]
          simp [wt]
        have hlen : (T 1 ++ [46] ++ [48, 120] ++ dgs 16 b).length ≤ 27 := by rw [← hstep]; exact HTL.out 2
        obtain ⟨E, hE⟩ : ∃ E, E = strOf (T 1 ++ [46] ++ [48, 120] ++ dgs 16 b) := ⟨_, rfl⟩
        obtain ⟨B0, hB0⟩ : ∃ E, E = strOf (T 1) := ⟨_, rfl⟩
        obtain ⟨B1, hB1⟩ : ∃ E, E = strOf (T 1 ++ [46]) := ⟨_, rfl⟩
        have s1 : ∀ w : World, (Op.stringOp .add B0 ⟨#[46]⟩).run Tryd.prog w = .ok (.string B1) w := fun w => by rw [hB0, hB1]; exact str_add _ [46] w (by simp at hlen ⊢; omega)
        obtain ⟨D, hD⟩ : ∃ E, E = strOf (dgs 16 b) := ⟨_, rfl⟩
        obtain ⟨B2, hB2⟩ : ∃ E, E = strOf (T 1 ++ [46] ++ [48, 120]) := ⟨_, rfl⟩
        have s2 : ∀ w : World, (Op.stringOp .add B1 ⟨#[48, 120]⟩).run Tryd.prog w = .ok (.string B2) w := fun w => by rw [hB1, hB2]; exact str_add _ [48, 120] w (by simp at hlen ⊢; omega)
        have s3 : ∀ w : World, (Op.stringOp .add B2 D).run Tryd.prog w = .ok (.string E) w := fun w => by rw [hB2, hD, hE]; exact str_add _ _ w (by simp at hlen ⊢; omega)
        have DD : Hid (∀ w, Calls Tryd.prog 15 #[.int .u32 (b : Int), .int .u32 16] w fun e w' => e = .returned (.string D) ∧ Below w.heap.size w w') := fun w => by rw [hD]; exact lawDigits_any 16 (.inr rfl) (b + 1) b (by omega) (by omega) w
        have HE : Hid (E = strOf (T 2)) := by show _ = _; rw [hE, hstep]
        rw [← hB0]
        clear hstep hlen hE hB0 hD hB1 hB2 hb
        go_wp2_with fail
        refine (DD.out _).mono ?_
        rintro e w4 ⟨rfl, hb4⟩
        have HB4 : Hid (Below w1.heap.size w1 w4) := bel HB.out hb4
        clear hb4
        go_wp2
        go_roundw
        case rel => exact ⟨2, by omega, by go_num, by rw [HE.out], HB4⟩
        case measure => simp [intOf]
    · obtain ⟨b, hb⟩ : ∃ b, b = n / 256 % 256 := ⟨_, rfl⟩
      have hb256 : b < 256 := by omega
      obtain ⟨a, ha⟩ : ∃ a, a = n / 256 := ⟨_, rfl⟩
      have hal : a < 4294967296 := by omega
      have hsh : (n : Int) / 256 = (a : Int) := by omega
      have hand : bits .and .u32 (a : Int) 255 = (b : Int) := by rw [and255 a hal]; omega
      have hai : (a : Int) < 4294967296 := by omega
      have hbi : (b : Int) < 256 := by omega
      have hbi2 : (b : Int) < 4294967296 := by omega
      clear ha hal
      have h3 : m2 = 0 ∨ m2 = 1 ∨ m2 = 2 := by omega
      rcases h3 with h3 | h3 | h3
      · obtain rfl : m2 = 0 := by omega
        have hstep : T 3 = T 2 ++ [46] ++ Lib.decDigits b := by
          rw [HTX.out]
          simp only [tx]
          rw [HQ.out.2.2.1, ← hb]
          simp [wt]
        have hlen : (T 2 ++ [46] ++ Lib.decDigits b).length ≤ 27 := by rw [← hstep]; exact HTL.out 3
        obtain ⟨E, hE⟩ : ∃ E, E = strOf (T 2 ++ [46] ++ Lib.decDigits b) := ⟨_, rfl⟩
        obtain ⟨B0, hB0⟩ : ∃ E, E = strOf (T 2) := ⟨_, rfl⟩
        obtain ⟨B1, hB1⟩ : ∃ E, E = strOf (T 2 ++ [46]) := ⟨_, rfl⟩
        have s1 : ∀ w : World, (Op.stringOp .add B0 ⟨#[46]⟩).run Tryd.prog w = .ok (.string B1) w := fun w => by rw [hB0, hB1]; exact str_add _ [46] w (by simp at hlen ⊢; omega)
        obtain ⟨D, hD⟩ : ∃ E, E = strOf (Lib.decDigits b) := ⟨_, rfl⟩
        have s2 : ∀ w : World, (Op.stringOp .add B1 D).run Tryd.prog w = .ok (.string E) w := fun w => by rw [hB1, hD, hE]; exact str_add _ _ w (by simp at hlen ⊢; omega)
        have DD : Hid (∀ w, Calls Tryd.prog 13 #[.int .u64 (b : Int)] w fun e w' => e = .returned (.string D) ∧ Below w.heap.size w w') := fun w => by rw [hD]; exact decimal_any (b + 1) b (by omega) (by omega) w
        have HE : Hid (E = strOf (T 3)) := by show _ = _; rw [hE, hstep]
        rw [← hB0]
        clear hstep hlen hE hB0 hD hB1 hb
        go_wp2_with fail
        refine (DD.out _).mono ?_
        rintro e w4 ⟨rfl, hb4⟩
        have HB4 : Hid (Below w1.heap.size w1 w4) := bel HB.out hb4
        clear hb4
        go_wp2
        go_roundw
        case rel => exact ⟨3, by omega, by go_num, by rw [HE.out], HB4⟩
        case measure => simp [intOf]
      · obtain rfl : m2 = 1 := by omega
        have hstep : T 3 = T 2 ++ [46] ++ [48] ++ dgs 8 b := by
          rw [HTX.out]
          simp only [tx]
          rw [HQ.out.2.2.1, ← hb]
          simp [wt]
        have hlen : (T 2 ++ [46] ++ [48] ++ dgs 8 b).length ≤ 27 := by rw [← hstep]; exact HTL.out 3
        obtain ⟨E, hE⟩ : ∃ E, E = strOf (T 2 ++ [46] ++ [48] ++ dgs 8 b) := ⟨_, rfl⟩
        obtain ⟨B0, hB0⟩ : ∃ E, E = strOf (T 2) := ⟨_, rfl⟩
        obtain ⟨B1, hB1⟩ : ∃ E, E = strOf (T 2 ++ [46]) := ⟨_, rfl⟩
        have s1 : ∀ w : World, (Op.stringOp .add B0 ⟨#[46]⟩).run Tryd.prog w = .ok (.string B1) w := fun w => by rw [hB0, hB1]; exact str_add _ [46] w (by simp at hlen ⊢; omega)
        obtain ⟨D, hD⟩ : ∃ E, E = strOf (dgs 8 b) := ⟨_, rfl⟩
        obtain ⟨B2, hB2⟩ : ∃ E, E = strOf (T 2 ++ [46] ++ [48]) := ⟨_, rfl⟩
        have s2 : ∀ w : World, (Op.stringOp .add B1 ⟨#[48]⟩).run Tryd.prog w = .ok (.string B2) w := fun w => by rw [hB1, hB2]; exact str_add _ [48] w (by simp at hlen ⊢; omega)
        have s3 : ∀ w : World, (Op.stringOp .add B2 D).run Tryd.prog w = .ok (.string E) w := fun w => by rw [hB2, hD, hE]; exact str_add _ _ w (by simp at hlen ⊢; omega)
        have DD : Hid (∀ w, Calls Tryd.prog 15 #[.int .u32 (b : Int), .int .u32 8] w fun e w' => e = .returned (.string D) ∧ Below w.heap.size w w') := fun w => by rw [hD]; exact lawDigits_any 8 (.inl rfl) (b + 1) b (by omega) (by omega) w
        have HE : Hid (E = strOf (T 3)) := by show _ = _; rw [hE, hstep]
        rw [← hB0]
        clear hstep hlen hE hB0 hD hB1 hB2 hb
        go_wp2_with fail
        refine (DD.out _).mono ?_
        rintro e w4 ⟨rfl, hb4⟩
        have HB4 : Hid (Below w1.heap.size w1 w4) := bel HB.out hb4
        clear hb4
        go_wp2
        go_roundw
        case rel => exact ⟨3, by omega, by go_num, by rw [HE.out], HB4⟩
        case measure => simp [intOf]
      · obtain rfl : m2 = 2 := by omega
        have hstep : T 3 = T 2 ++ [46] ++ [48, 120] ++ dgs 16 b := by
          rw [HTX.out]
          simp only [tx]
          rw [HQ.out.2.2.1, ← hb]
          simp [wt]
        have hlen : (T 2 ++ [46] ++ [48, 120] ++ dgs 16 b).length ≤ 27 := by rw [← hstep]; exact HTL.out 3
        obtain ⟨E, hE⟩ : ∃ E, E = strOf (T 2 ++ [46] ++ [48, 120] ++ dgs 16 b) := ⟨_, rfl⟩
        obtain ⟨B0, hB0⟩ : ∃ E, E = strOf (T 2) := ⟨_, rfl⟩
        obtain ⟨B1, hB1⟩ : ∃ E, E = strOf (T 2 ++ [46]) := ⟨_, rfl⟩
        have s1 : ∀ w : World, (Op.stringOp .add B0 ⟨#[46]⟩).run Tryd.prog w = .ok (.string B1) w := fun w => by rw [hB0, hB1]; exact str_add _ [46] w (by simp at hlen ⊢; omega)
        obtain ⟨D, hD⟩ : ∃ E, E = strOf (dgs 16 b) := ⟨_, rfl⟩
        obtain ⟨B2, hB2⟩ : ∃ E, E = strOf (T 2 ++ [46] ++ [48, 120]) := ⟨_, rfl⟩
        have s2 : ∀ w : World, (Op.stringOp .add B1 ⟨#[48, 120]⟩).run Tryd.prog w = .ok (.string B2) w := fun w => by rw [hB1, hB2]; exact str_add _ [48, 120] w (by simp at hlen ⊢; omega)
        have s3 : ∀ w : World, (Op.stringOp .add B2 D).run Tryd.prog w = .ok (.string E) w := fun w => by rw [hB2, hD, hE]; exact str_add _ _ w (by simp at hlen ⊢; omega)
        have DD : Hid (∀ w, Calls Tryd.prog 15 #[.int .u32 (b : Int), .int .u32 16] w fun e w' => e = .returned (.string D) ∧ Below w.heap.size w w') := fun w => by rw [hD]; exact lawDigits_any 16 (.inr rfl) (b + 1) b (by omega) (by omega) w
        have HE : Hid (E = strOf (T 3)) := by show _ = _; rw [hE, hstep]
        rw [← hB0]
        clear hstep hlen hE hB0 hD hB1 hB2 hb
        go_wp2_with fail
        refine (DD.out _).mono ?_
        rintro e w4 ⟨rfl, hb4⟩
        have HB4 : Hid (Below w1.heap.size w1 w4) := bel HB.out hb4
        clear hb4
        go_wp2
        go_roundw
        case rel => exact ⟨3, by omega, by go_num, by rw [HE.out], HB4⟩
        case measure => simp [intOf]
    · obtain ⟨b, hb⟩ : ∃ b, b = n % 256 := ⟨_, rfl⟩
      have hb256 : b < 256 := by omega
      obtain ⟨a, ha⟩ : ∃ a, a = n := ⟨_, rfl⟩
      have hal : a < 4294967296 := by omega
      have hsh : (n : Int) / 1 = (a : Int) := by omega
      have hand : bits .and .u32 (a : Int) 255 = (b : Int) := by rw [and255 a hal]; omega
      have hai : (a : Int) < 4294967296 := by omega
      have hbi : (b : Int) < 256 := by omega
      have hbi2 : (b : Int) < 4294967296 := by omega
      clear ha hal
      have h3 : m3 = 0 ∨ m3 = 1 ∨ m3 = 2 := by omega
      rcases h3 with h3 | h3 | h3
      · obtain rfl : m3 = 0 := by omega
        have hstep : T 4 = T 3 ++ [46] ++ Lib.decDigits b := by
          rw [HTX.out]
          simp only [tx]
          rw [HQ.out.2.2.2, ← hb]
          simp [wt]
        have hlen : (T 3 ++ [46] ++ Lib.decDigits b).length ≤ 27 := by rw [← hstep]; exact HTL.out 4
        obtain ⟨E, hE⟩ : ∃ E, E = strOf (T 3 ++ [46] ++ Lib.decDigits b) := ⟨_, rfl⟩
        obtain ⟨B0, hB0⟩ : ∃ E, E = strOf (T 3) := ⟨_, rfl⟩
        obtain ⟨B1, hB1⟩ : ∃ E, E = strOf (T 3 ++ [46]) := ⟨_, rfl⟩
        have s1 : ∀ w : World, (Op.stringOp .add B0 ⟨#[46]⟩).run Tryd.prog w = .ok (.string B1) w := fun w => by rw [hB0, hB1]; exact str_add _ [46] w (by simp at hlen ⊢; omega)
        obtain ⟨D, hD⟩ : ∃ E, E = strOf (Lib.decDigits b) := ⟨_, rfl⟩
        have s2 : ∀ w : World, (Op.stringOp .add B1 D).run Tryd.prog w = .ok (.string E) w := fun w => by rw [hB1, hD, hE]; exact str_add _ _ w (by simp at hlen ⊢; omega)
        have DD : Hid (∀ w, Calls Tryd.prog 13 #[.int .u64 (b : Int)] w fun e w' => e = .returned (.string D) ∧ Below w.heap.size w w') := fun w => by rw [hD]; exact decimal_any (b + 1) b (by omega) (by omega) w
        have HE : Hid (E = strOf (T 4)) := by show _ = _; rw [hE, hstep]
        rw [← hB0]
        clear hstep hlen hE hB0 hD hB1 hb
        go_wp2_with fail
        refine (DD.out _).mono ?_
        rintro e w4 ⟨rfl, hb4⟩
        have HB4 : Hid (Below w1.heap.size w1 w4) := bel HB.out hb4
        clear hb4
        go_wp2
        go_roundw
        case rel => exact ⟨4, by omega, by go_num, by rw [HE.out], HB4⟩
        case measure => simp [intOf]
      · obtain rfl : m3 = 1 := by omega
        have hstep : T 4 = T 3 ++ [46] ++ [48] ++ dgs 8 b := by
          rw [HTX.out]
          simp only [tx]
          rw [HQ.out.2.2.2, ← hb]
          simp [wt]
        have hlen : (T 3 ++ [46] ++ [48] ++ dgs 8 b).length ≤ 27 := by rw [← hstep]; exact HTL.out 4
        obtain ⟨E, hE⟩ : ∃ E, E = strOf (T 3 ++ [46] ++ [48] ++ dgs 8 b) := ⟨_, rfl⟩
        obtain ⟨B0, hB0⟩ : ∃ E, E = strOf (T 3) := ⟨_, rfl⟩
        obtain ⟨B1, hB1⟩ : ∃ E, E = strOf (T 3 ++ [46]) := ⟨_, rfl⟩
        have s1 : ∀ w : World, (Op.stringOp .add B0 ⟨#[46]⟩).run Tryd.prog w = .ok (.string B1) w := fun w => by rw [hB0, hB1]; exact str_add _ [46] w (by simp at hlen ⊢; omega)
        obtain ⟨D, hD⟩ : ∃ E, E = strOf (dgs 8 b) := ⟨_, rfl⟩
        obtain ⟨B2, hB2⟩ : ∃ E, E = strOf (T 3 ++ [46] ++ [48]) := ⟨_, rfl⟩
        have s2 : ∀ w : World, (Op.stringOp .add B1 ⟨#[48]⟩).run Tryd.prog w = .ok (.string B2) w := fun w => by rw [hB1, hB2]; exact str_add _ [48] w (by simp at hlen ⊢; omega)
        have s3 : ∀ w : World, (Op.stringOp .add B2 D).run Tryd.prog w = .ok (.string E) w := fun w => by rw [hB2, hD, hE]; exact str_add _ _ w (by simp at hlen ⊢; omega)
        have DD : Hid (∀ w, Calls Tryd.prog 15 #[.int .u32 (b : Int), .int .u32 8] w fun e w' => e = .returned (.string D) ∧ Below w.heap.size w w') := fun w => by rw [hD]; exact lawDigits_any 8 (.inl rfl) (b + 1) b (by omega) (by omega) w
        have HE : Hid (E = strOf (T 4)) := by show _ = _; rw [hE, hstep]
        rw [← hB0]
        clear hstep hlen hE hB0 hD hB1 hB2 hb
        go_wp2_with fail
        refine (DD.out _).mono ?_
        rintro e w4 ⟨rfl, hb4⟩
        have HB4 : Hid (Below w1.heap.size w1 w4) := bel HB.out hb4
        clear hb4
        go_wp2
        go_roundw
        case rel => exact ⟨4, by omega, by go_num, by rw [HE.out], HB4⟩
        case measure => simp [intOf]
      · obtain rfl : m3 = 2 := by omega
        have hstep : T 4 = T 3 ++ [46] ++ [48, 120] ++ dgs 16 b := by
          rw [HTX.out]
          simp only [tx]
          rw [HQ.out.2.2.2, ← hb]
          simp [wt]
        have hlen : (T 3 ++ [46] ++ [48, 120] ++ dgs 16 b).length ≤ 27 := by rw [← hstep]; exact HTL.out 4
        obtain ⟨E, hE⟩ : ∃ E, E = strOf (T 3 ++ [46] ++ [48, 120] ++ dgs 16 b) := ⟨_, rfl⟩
        obtain ⟨B0, hB0⟩ : ∃ E, E = strOf (T 3) := ⟨_, rfl⟩
        obtain ⟨B1, hB1⟩ : ∃ E, E = strOf (T 3 ++ [46]) := ⟨_, rfl⟩
        have s1 : ∀ w : World, (Op.stringOp .add B0 ⟨#[46]⟩).run Tryd.prog w = .ok (.string B1) w := fun w => by rw [hB0, hB1]; exact str_add _ [46] w (by simp at hlen ⊢; omega)
        obtain ⟨D, hD⟩ : ∃ E, E = strOf (dgs 16 b) := ⟨_, rfl⟩
        obtain ⟨B2, hB2⟩ : ∃ E, E = strOf (T 3 ++ [46] ++ [48, 120]) := ⟨_, rfl⟩
        have s2 : ∀ w : World, (Op.stringOp .add B1 ⟨#[48, 120]⟩).run Tryd.prog w = .ok (.string B2) w := fun w => by rw [hB1, hB2]; exact str_add _ [48, 120] w (by simp at hlen ⊢; omega)
        have s3 : ∀ w : World, (Op.stringOp .add B2 D).run Tryd.prog w = .ok (.string E) w := fun w => by rw [hB2, hD, hE]; exact str_add _ _ w (by simp at hlen ⊢; omega)
        have DD : Hid (∀ w, Calls Tryd.prog 15 #[.int .u32 (b : Int), .int .u32 16] w fun e w' => e = .returned (.string D) ∧ Below w.heap.size w w') := fun w => by rw [hD]; exact lawDigits_any 16 (.inr rfl) (b + 1) b (by omega) (by omega) w
        have HE : Hid (E = strOf (T 4)) := by show _ = _; rw [hE, hstep]
        rw [← hB0]
        clear hstep hlen hE hB0 hD hB1 hB2 hb
        go_wp2_with fail
        refine (DD.out _).mono ?_
        rintro e w4 ⟨rfl, hb4⟩
        have HB4 : Hid (Below w1.heap.size w1 w4) := bel HB.out hb4
        clear hb4
        go_wp2
        go_roundw
        case rel => exact ⟨4, by omega, by go_num, by rw [HE.out], HB4⟩
        case measure => simp [intOf]
    · have h4 : T 4 = T 4 := rfl
      rw [← HX.out]
      go_wp2_with fail
      refine (PX.out _ ((HM.out.below HBA.out).below HB.out)).mono ?_
      rintro e w4 ⟨rfl, hb4⟩
      have HB4 : Hid (Below w1.heap.size w1 w4) := bel HB.out hb4
      clear hb4
      go_wp2_with fail
      refine (EX.out _).mono ?_
      rintro e w5 ⟨rfl, hb5⟩
      have HB5 : Hid (Below w1.heap.size w1 w5) := bel HB4.out hb5
      clear hb5
      go_wp2
      go_ret
      exact ⟨rfl, bel HBA.out HB5.out⟩
end Go.Proofs.YtbjohoocgmfhpaaDoor.Laws
