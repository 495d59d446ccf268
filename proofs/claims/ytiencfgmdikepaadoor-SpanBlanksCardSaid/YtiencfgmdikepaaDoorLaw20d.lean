/- The walk of the law SpanBlanks: it returns true, whatever it is called with. -/
import Derived.Test.YtiencfgmdikepaaDoorSpnG
import Derived.Test.YtiencfgmdikepaaDoorLaw20a
namespace Go.Proofs.YtiencfgmdikepaaDoor.Laws
open Go.RowKit Go.Proofs.YtiencfgmdikepaaDoor.Base Go.Proofs.YtiencfgmdikepaaDoor.Base2 Go.Proofs.YtiencfgmdikepaaDoor.SpnP Go.Proofs.YtiencfgmdikepaaDoor.SpnA Go.Proofs.YtiencfgmdikepaaDoor.SpnB Go.Proofs.YtiencfgmdikepaaDoor.SpnE Go.Proofs.YtiencfgmdikepaaDoor.SpnF Go.Proofs.YtiencfgmdikepaaDoor.SpnG

def bl4 : Nat → List UInt8
  | 0 => []
  | 1 => [32]
  | 2 => [9]
  | _ => [32, 32, 9]
theorem bl4_bl (k : Nat) : Bl (bl4 k) := by
  intro c hc
  unfold bl4 at hc
  split at hc <;> simp at hc
  · subst hc; decide
  · subst hc; decide
  · rcases hc with rfl | rfl <;> decide
theorem bl4_len (k : Nat) : (bl4 k).length ≤ 3 := by unfold bl4; split <;> simp
abbrev LB : Obj := .cells #[.string ⟨#[]⟩, .string ⟨#[32]⟩, .string ⟨#[9]⟩, .string ⟨#[32, 32, 9]⟩] 9
theorem bl4_cell (w : World) (k : Nat) (hk : k < 4) : (w.alloc LB).cell? ⟨w.heap.size, k, none⟩ = some (.string (strOf (bl4 k))) := by
  rw [World.cell?_alloc_mark]
  have hcase : k = 0 ∨ k = 1 ∨ k = 2 ∨ k = 3 := by omega
  rcases hcase with rfl | rfl | rfl | rfl <;> rfl
def cont (x : Nat → List UInt8) (k : Nat) : Array Value := #[.string (strOf (if 0 < k then x 0 else [])), .string (strOf (if 1 < k then x 1 else [])), .string (strOf (if 2 < k then x 2 else [])), .string (strOf (if 3 < k then x 3 else []))]
def Loc (w : World) (g : Nat) (x : Nat → List UInt8) (k : Nat) : Prop := w.heap[g]? = some (.cells (cont x k) 41 (0, 0))
theorem Loc.facts {w : World} {g k : Nat} {x : Nat → List UInt8} (h : Loc w g x k) (j : Nat) (hj : j < 4) : w.cell? ⟨g, j, none⟩ = some (.string (strOf (if j < k then x j else []))) ∧ w.frozen? ⟨g, j, none⟩ = false := by
  refine ⟨?_, frozen_of_row w g j _ _ h⟩
  rw [cell_of_row w g j _ _ _ h]
  have hcase : j = 0 ∨ j = 1 ∨ j = 2 ∨ j = 3 := by omega
  rcases hcase with rfl | rfl | rfl | rfl <;> rfl
theorem Loc.set {w : World} {g k : Nat} {x : Nat → List UInt8} (h : Loc w g x k) (hk : k < 4) : Loc (w.setCell ⟨g, k, none⟩ (.string (strOf (x k)))) g x (k + 1) := by
  have := heap_setCell_same w g k _ _ (.string (strOf (x k))) h
  unfold Loc
  rw [this]
  congr 2
  have hcase : k = 0 ∨ k = 1 ∨ k = 2 ∨ k = 3 := by omega
  rcases hcase with rfl | rfl | rfl | rfl <;> simp [cont]
theorem Loc.below {w w' : World} {g k : Nat} {x : Nat → List UInt8} (h : Loc w g x k) (hb : Below w.heap.size w w') : Loc w' g x k := (hb.block g (Array.getElem?_eq_some_iff.1 h).1).trans h
theorem Loc.lt {w : World} {g k : Nat} {x : Nat → List UInt8} (h : Loc w g x k) : g < w.heap.size := (Array.getElem?_eq_some_iff.1 h).1
theorem Loc.other {w : World} {g k b i : Nat} {x : Nat → List UInt8} {v : Value} (h : Loc w g x k) (hb : g ≠ b) : Loc (w.setCell ⟨b, i, none⟩ v) g x k := by
  unfold Loc
  rw [heap_setCell_other _ _ _ _ hb]
  exact h
theorem T4s0 {w : World} {g : Nat} {a b c d : Value} (h : SpnC.T4 w g a b c d) (x : Value) : SpnC.T4 (w.setCell ⟨g, 0, none⟩ x) g x b c d := heap_setCell_same w g 0 _ _ x h
theorem T4s1 {w : World} {g : Nat} {a b c d : Value} (h : SpnC.T4 w g a b c d) (x : Value) : SpnC.T4 (w.setCell ⟨g, 1, none⟩ x) g a x c d := heap_setCell_same w g 1 _ _ x h
set_option maxHeartbeats 8000000 in
set_option maxRecDepth 100000 in
theorem SpanBlanks_any (zF zT : Int) (hf ht : Bool) (z0 z1 z2 z3 : Int) (w : World) (hzF : 0 ≤ zF ∧ zF ≤ 65535) (hzT : 0 ≤ zT ∧ zT ≤ 65535) (hz0 : 0 ≤ z0 ∧ z0 ≤ 255) (hz1 : 0 ≤ z1 ∧ z1 ≤ 255) (hz2 : 0 ≤ z2 ∧ z2 ≤ 255) (hz3 : 0 ≤ z3 ∧ z3 ≤ 255) :
    Calls Tryd.prog 8 #[.int .u16 zF, .int .u16 zT, .bool hf, .bool ht, .agg #[.int .u8 z0, .int .u8 z1, .int .u8 z2, .int .u8 z3]] w fun e w' => e = .returned (.bool true) ∧ Below w.heap.size w w' := by
  obtain ⟨hzF0, hzF1⟩ := hzF
  obtain ⟨hzT0, hzT1⟩ := hzT
  obtain ⟨F, rfl⟩ : ∃ a : Nat, zF = (a : Int) := ⟨zF.toNat, by omega⟩
  obtain ⟨T, rfl⟩ : ∃ a : Nat, zT = (a : Int) := ⟨zT.toNat, by omega⟩
  have hF : F ≤ 65535 := by omega
  have hT : T ≤ 65535 := by omega
  obtain ⟨a0, b0⟩ := hz0
  obtain ⟨m0, hm0, hl0⟩ : ∃ m : Nat, z0 % 4 = (m : Int) ∧ m < 4 := ⟨(z0 % 4).toNat, by omega, by omega⟩
  have hn0 : z0.tmod 4 = (m0 : Int) := by rw [Int.tmod_eq_emod_of_nonneg a0]; exact hm0
  obtain ⟨a1, b1⟩ := hz1
  obtain ⟨m1, hm1, hl1⟩ : ∃ m : Nat, z1 % 4 = (m : Int) ∧ m < 4 := ⟨(z1 % 4).toNat, by omega, by omega⟩
  have hn1 : z1.tmod 4 = (m1 : Int) := by rw [Int.tmod_eq_emod_of_nonneg a1]; exact hm1
  obtain ⟨a2, b2⟩ := hz2
  obtain ⟨m2, hm2, hl2⟩ : ∃ m : Nat, z2 % 4 = (m : Int) ∧ m < 4 := ⟨(z2 % 4).toNat, by omega, by omega⟩
  have hn2 : z2.tmod 4 = (m2 : Int) := by rw [Int.tmod_eq_emod_of_nonneg a2]; exact hm2
  obtain ⟨a3, b3⟩ := hz3
  obtain ⟨m3, hm3, hl3⟩ : ∃ m : Nat, z3 % 4 = (m : Int) ∧ m < 4 := ⟨(z3 % 4).toNat, by omega, by omega⟩
  have hn3 : z3.tmod 4 = (m3 : Int) := by rw [Int.tmod_eq_emod_of_nonneg a3]; exact hm3
  by_cases hbad : (hf = false ∧ ht = false) ∨ (hf = true ∧ ht = true ∧ T < F)
  · have hcase : (hf = false ∧ ht = false) ∨ (hf = true ∧ ht = true ∧ (T : Int) < (F : Int)) := by
      rcases hbad with h | ⟨h1, h2, h3⟩
      · exact .inl h
      · exact .inr ⟨h1, h2, by omega⟩
    clear hbad
    rcases hcase with ⟨rfl, rfl⟩ | ⟨rfl, rfl, h3⟩
    all_goals
      go_enter Tryd.func8, Tryd.ntmps8
      go_wp2_with fail
      refine (awake_any _).mono ?_
      rintro e w1 ⟨rfl, hb1⟩
      go_wp2_with fail
      refine (awake_any _).mono ?_
      rintro e w2 ⟨rfl, hb2⟩
      go_wp2_with fail
      go_ret
      exact ⟨rfl, bel (((Below.refl w.heap.size w).alloc (Nat.le_refl _) _).trans (hb1.mono (by simp))) hb2⟩
  obtain ⟨x, hx⟩ : ∃ x : Nat → List UInt8, x = fun k => match k with | 0 => bl4 m0 | 1 => bl4 m1 | 2 => bl4 m2 | _ => bl4 m3 := ⟨_, rfl⟩
  have hxb : ∀ k, Bl (x k) ∧ (x k).length ≤ 3 := by
    intro k
    rw [hx]
    simp only
    split <;> exact ⟨bl4_bl _, bl4_len _⟩
  have HX : Hid (x 0 = bl4 m0 ∧ x 1 = bl4 m1 ∧ x 2 = bl4 m2 ∧ x 3 = bl4 m3) := by rw [hx]; exact ⟨rfl, rfl, rfl, rfl⟩
  have HXB := hid hxb
  clear hx hxb
  have hgood : (hf = true ∧ ht = false) ∨ (hf = false ∧ ht = true) ∨ (hf = true ∧ ht = true ∧ F ≤ T) := by
    cases hf <;> cases ht <;> simp at hbad ⊢
    omega
  rcases hgood with ⟨rfl, rfl⟩ | ⟨rfl, rfl⟩ | ⟨rfl, rfl, hle⟩
  · obtain ⟨A, hA⟩ : ∃ X, X = dg true F := ⟨_, rfl⟩
    obtain ⟨B, hB⟩ : ∃ X, X = dg false T := ⟨_, rfl⟩
    have lA : A.length ≤ 19 := by rw [hA]; exact dd_len (F + 1) F (by omega) (by omega)
    have lB : B.length ≤ 19 := by rw [hB]; exact Nat.zero_le _
    have HS : Hid (says (text (x 0) (x 1) (x 2) (x 3) A B []) = (((F : Nat) : Int), (0 : Int), true, false, true) ∧ (says (text (x 0) (x 1) (x 2) (x 3) A B [120])).2.2.2.2 = false) := by
      rw [show A = dg true F from hA.trans rfl, show B = dg false 0 from hB.trans rfl]
      exact says_text (x 0) (x 1) (x 2) (x 3) F 0 true false (HXB.out 0).1 (HXB.out 1).1 (HXB.out 2).1 (HXB.out 3).1 (by omega) (by omega) (fun h => by first | rfl | cases h) (fun h => by first | rfl | cases h) (by simp) (fun h1 h2 => by exact absurd h2 (by decide))
    have l0 := (HXB.out 0).2
    have l1 := (HXB.out 1).2
    have l2 := (HXB.out 2).2
    have l3 := (HXB.out 3).2
    obtain ⟨x0, hx0⟩ : ∃ X, X = x 0 := ⟨_, rfl⟩
    obtain ⟨x1, hx1⟩ : ∃ X, X = x 1 := ⟨_, rfl⟩
    obtain ⟨x2, hx2⟩ : ∃ X, X = x 2 := ⟨_, rfl⟩
    obtain ⟨x3, hx3⟩ : ∃ X, X = x 3 := ⟨_, rfl⟩
    have HX4 : Hid (x 0 = x0 ∧ x 1 = x1 ∧ x 2 = x2 ∧ x 3 = x3) := ⟨hx0.symm, hx1.symm, hx2.symm, hx3.symm⟩
    rw [← hx0, ← hx1, ← hx2, ← hx3] at HS
    rw [← hx0] at l0
    rw [← hx1] at l1
    rw [← hx2] at l2
    rw [← hx3] at l3
    clear hx0 hx1 hx2 hx3
    obtain ⟨s1, hs1⟩ : ∃ X, X = [98, 89, 116, 69, 115] ++ x0 := ⟨_, rfl⟩
    have n1 : s1.length ≤ 20 := by rw [hs1]; simp; omega
    have t1 : ∀ w, (Op.stringOp .add ⟨#[98, 89, 116, 69, 115]⟩ (strOf x0)).run Tryd.prog w = .ok (.string (strOf s1)) w := fun w => by rw [hs1]; exact str_add [98, 89, 116, 69, 115] x0 w (by first | omega | (simp <;> omega))
    obtain ⟨s2, hs2⟩ : ∃ X, X = s1 ++ [61] := ⟨_, rfl⟩
    have n2 : s2.length ≤ 40 := by rw [hs2]; simp; omega
    have t2 : ∀ w, (Op.stringOp .add (strOf s1) ⟨#[61]⟩).run Tryd.prog w = .ok (.string (strOf s2)) w := fun w => by rw [hs2]; exact str_add s1 [61] w (by first | omega | (simp <;> omega))
    obtain ⟨s3, hs3⟩ : ∃ X, X = s2 ++ x1 := ⟨_, rfl⟩
    have n3 : s3.length ≤ 60 := by rw [hs3]; simp; omega
    have t3 : ∀ w, (Op.stringOp .add (strOf s2) (strOf x1)).run Tryd.prog w = .ok (.string (strOf s3)) w := fun w => by rw [hs3]; exact str_add s2 x1 w (by first | omega | (simp <;> omega))
    obtain ⟨s4, hs4⟩ : ∃ X, X = s3 ++ A := ⟨_, rfl⟩
    have n4 : s4.length ≤ 80 := by rw [hs4]; simp; omega
    have t4 : ∀ w, (Op.stringOp .add (strOf s3) (strOf A)).run Tryd.prog w = .ok (.string (strOf s4)) w := fun w => by rw [hs4]; exact str_add s3 A w (by first | omega | (simp <;> omega))
    obtain ⟨s5, hs5⟩ : ∃ X, X = s4 ++ x2 := ⟨_, rfl⟩
    have n5 : s5.length ≤ 100 := by rw [hs5]; simp; omega
    have t5 : ∀ w, (Op.stringOp .add (strOf s4) (strOf x2)).run Tryd.prog w = .ok (.string (strOf s5)) w := fun w => by rw [hs5]; exact str_add s4 x2 w (by first | omega | (simp <;> omega))
    obtain ⟨s6, hs6⟩ : ∃ X, X = s5 ++ [45] := ⟨_, rfl⟩
    have n6 : s6.length ≤ 120 := by rw [hs6]; simp; omega
    have t6 : ∀ w, (Op.stringOp .add (strOf s5) ⟨#[45]⟩).run Tryd.prog w = .ok (.string (strOf s6)) w := fun w => by rw [hs6]; exact str_add s5 [45] w (by first | omega | (simp <;> omega))
    obtain ⟨s7, hs7⟩ : ∃ X, X = s6 ++ x3 := ⟨_, rfl⟩
    have n7 : s7.length ≤ 140 := by rw [hs7]; simp; omega
    have t7 : ∀ w, (Op.stringOp .add (strOf s6) (strOf x3)).run Tryd.prog w = .ok (.string (strOf s7)) w := fun w => by rw [hs7]; exact str_add s6 x3 w (by first | omega | (simp <;> omega))
    obtain ⟨s8, hs8⟩ : ∃ X, X = s7 ++ B := ⟨_, rfl⟩
    have n8 : s8.length ≤ 160 := by rw [hs8]; simp; omega
    have t8 : ∀ w, (Op.stringOp .add (strOf s7) ⟨#[]⟩).run Tryd.prog w = .ok (.string (strOf s8)) w := fun w => by rw [hs8]; rw [hB]; exact str_add s7 [] w (by first | omega | (simp <;> omega))
    have H8 : Hid (s8 = text x0 x1 x2 x3 A B []) := by show _ = _; rw [hs8, hs7, hs6, hs5, hs4, hs3, hs2, hs1]; simp [text]
    have HSA : Hid ((says (32 :: s8)).2.2.2.2 = false) := says_ahead s8
    have HSB : Hid ((says (s8 ++ [120])).2.2.2.2 = false) := by rw [H8.out, show text x0 x1 x2 x3 A B [] ++ [120] = text x0 x1 x2 x3 A B [120] by simp [text]]; exact HS.out.2
    have HS8 : Hid (says s8 = (((F : Nat) : Int), (0 : Int), true, false, true)) := by rw [H8.out]; exact HS.out.1
    have tA : ∀ w, (Op.stringOp .add ⟨#[32]⟩ (strOf s8)).run Tryd.prog w = .ok (.string (strOf (32 :: s8))) w := fun w => str_add [32] s8 w (by simp; omega)
    have tB : ∀ w, (Op.stringOp .add (strOf s8) ⟨#[120]⟩).run Tryd.prog w = .ok (.string (strOf (s8 ++ [120]))) w := fun w => str_add s8 [120] w (by simp; omega)
    obtain ⟨sA, hsA⟩ : ∃ X, X = 32 :: s8 := ⟨_, rfl⟩
    obtain ⟨sB, hsB⟩ : ∃ X, X = s8 ++ [120] := ⟨_, rfl⟩
    have nA : sA.length ≤ 161 := by rw [hsA]; simp; omega
    have nB : sB.length ≤ 161 := by rw [hsB]; simp; omega
    rw [← hsA] at HSA tA
    rw [← hsB] at HSB tB
    have HA := hid hA
    have HB := hid hB
    clear hs1 hs2 hs3 hs4 hs5 hs6 hs7 hs8 hsA hsB hA hB HS H8
    clear hbad
    go_enter Tryd.func8, Tryd.ntmps8
    go_wp2_with fail
    refine (awake_any _).mono ?_
    rintro e w1 ⟨rfl, hb1⟩
    have HZ : Hid (w1.heap[w.heap.size]? = some (.cells #[.int .u8 z0, .int .u8 z1, .int .u8 z2, .int .u8 z3] 39 (0, 0))) := (hb1.block w.heap.size (by simp)).trans (heap_alloc_new w _)
    have HB1 : Hid (Below w.heap.size w w1) := ((Below.refl _ _).alloc (Nat.le_refl _) _).trans (hb1.mono (by simp))
    have HW : Hid (w.heap.size < w1.heap.size) := (Array.getElem?_eq_some_iff.1 HZ.out).1
    clear hb1
    go_wp2_with fail
    go_loopw [13, 47] (fun _ vk wr => ∃ k : Nat, k ≤ 4 ∧ vk = .int .i64 (k : Int) ∧ Hid (Loc wr (w1.heap.size + 1) x k) ∧ Hid (Below (w1.heap.size + 1) (w1.alloc LB) wr)) (fun _ vk _ => 4 - (intOf vk).toNat)
    case atStart => exact ⟨0, by omega, rfl, (by have := heap_alloc_new (w1.alloc LB) (.cells #[.string ⟨#[]⟩, .string ⟨#[]⟩, .string ⟨#[]⟩, .string ⟨#[]⟩] 41); rw [show (w1.alloc LB).heap.size = w1.heap.size + 1 by simp] at this; exact this), (by exact (Below.refl (w1.heap.size + 1) (w1.alloc LB)).alloc (by simp) _)⟩
    case round =>
      obtain ⟨k, hk, rfl, HL, HBB⟩ := hrel
      have HZR : Hid (wr.heap[w.heap.size]? = some (.cells #[.int .u8 z0, .int .u8 z1, .int .u8 z2, .int .u8 z3] 39 (0, 0))) := (HBB.out.block w.heap.size (by have := HW.out; omega)).trans ((((Below.refl _ _).alloc (Nat.le_refl _) _).block _ HW.out).trans HZ.out)
      by_cases hlt : k < 4
      · have hcase : k = 0 ∨ k = 1 ∨ k = 2 ∨ k = 3 := by omega
        rcases hcase with rfl | rfl | rfl | rfl
        · have q1 := (cell_of_row wr w.heap.size 0 _ _ _ HZR.out).trans (show _ = some (.int .u8 z0) from rfl)
          have q2 : wr.cell? ⟨w1.heap.size, m0, none⟩ = some (.string (strOf (x 0))) := (HBB.out.cell (p := ⟨w1.heap.size, m0, none⟩) (by show w1.heap.size < _; omega)).trans (by rw [(HX.out).1]; exact bl4_cell w1 m0 hl0)
          obtain ⟨q3, q4⟩ := HL.out.facts 0 (by omega)
          have hmI : (m0 : Int) < 4 := by omega
          go_wp2
          go_roundw
          case rel => exact ⟨1, by omega, rfl, HL.out.set (by omega), HBB.out.setCell (by show w1.heap.size + 1 ≤ w1.heap.size + 1; omega) _⟩
          case measure => simp [intOf]
        · have q1 := (cell_of_row wr w.heap.size 1 _ _ _ HZR.out).trans (show _ = some (.int .u8 z1) from rfl)
          have q2 : wr.cell? ⟨w1.heap.size, m1, none⟩ = some (.string (strOf (x 1))) := (HBB.out.cell (p := ⟨w1.heap.size, m1, none⟩) (by show w1.heap.size < _; omega)).trans (by rw [(HX.out).2.1]; exact bl4_cell w1 m1 hl1)
          obtain ⟨q3, q4⟩ := HL.out.facts 1 (by omega)
          have hmI : (m1 : Int) < 4 := by omega
          go_wp2
          go_roundw
          case rel => exact ⟨2, by omega, rfl, HL.out.set (by omega), HBB.out.setCell (by show w1.heap.size + 1 ≤ w1.heap.size + 1; omega) _⟩
          case measure => simp [intOf]
        · have q1 := (cell_of_row wr w.heap.size 2 _ _ _ HZR.out).trans (show _ = some (.int .u8 z2) from rfl)
          have q2 : wr.cell? ⟨w1.heap.size, m2, none⟩ = some (.string (strOf (x 2))) := (HBB.out.cell (p := ⟨w1.heap.size, m2, none⟩) (by show w1.heap.size < _; omega)).trans (by rw [(HX.out).2.2.1]; exact bl4_cell w1 m2 hl2)
          obtain ⟨q3, q4⟩ := HL.out.facts 2 (by omega)
          have hmI : (m2 : Int) < 4 := by omega
          go_wp2
          go_roundw
          case rel => exact ⟨3, by omega, rfl, HL.out.set (by omega), HBB.out.setCell (by show w1.heap.size + 1 ≤ w1.heap.size + 1; omega) _⟩
          case measure => simp [intOf]
        · have q1 := (cell_of_row wr w.heap.size 3 _ _ _ HZR.out).trans (show _ = some (.int .u8 z3) from rfl)
          have q2 : wr.cell? ⟨w1.heap.size, m3, none⟩ = some (.string (strOf (x 3))) := (HBB.out.cell (p := ⟨w1.heap.size, m3, none⟩) (by show w1.heap.size < _; omega)).trans (by rw [(HX.out).2.2.2]; exact bl4_cell w1 m3 hl3)
          obtain ⟨q3, q4⟩ := HL.out.facts 3 (by omega)
          have hmI : (m3 : Int) < 4 := by omega
          go_wp2
          go_roundw
          case rel => exact ⟨4, by omega, rfl, HL.out.set (by omega), HBB.out.setCell (by show w1.heap.size + 1 ≤ w1.heap.size + 1; omega) _⟩
          case measure => simp [intOf]
      · obtain rfl : k = 4 := by omega
        have HBW : Hid (Below w.heap.size w wr) := (HB1.out.alloc HB1.out.size _).trans (HBB.out.mono (by have := HW.out; omega))
        have HLt := hid HL.out.lt
        clear HBB HZR hlt hk
        have HG : Hid (SpnC.T4 (wr.alloc (.cells #[.int .i64 0, .int .i64 0, .bool true, .bool false] 24)) wr.heap.size (.int .i64 0) (.int .i64 0) (.bool true) (.bool false)) := heap_alloc_new wr _
        have HLL : Hid (Loc (wr.alloc (.cells #[.int .i64 0, .int .i64 0, .bool true, .bool false] 24)) (w1.heap.size + 1) x 4) := HL.out.below ((Below.refl _ _).alloc (Nat.le_refl _) _)
        have HBA : Hid (Below w.heap.size w (wr.alloc (.cells #[.int .i64 0, .int .i64 0, .bool true, .bool false] 24))) := HBW.out.alloc HBW.out.size _
        have HGW : Hid (w.heap.size ≤ wr.heap.size) := HBW.out.size
        clear HBW HL
        go_wp2_with fail
        refine (digits_any (F + 1) F (by omega) hF _).mono ?_
        rintro e w9 ⟨rfl, hb9⟩
        rw [show Lib.decDigits F = A from HA.out.symm]
        replace HG := hid (HG.out.below hb9)
        replace HLL := hid (HLL.out.below hb9)
        replace HBA := hid (bel HBA.out hb9)
        obtain ⟨⟨c0, c1, c2, c3⟩, f0, f1, f2, f3⟩ := HG.out.facts
        clear hb9
        have HG2 : Hid (SpnC.T4 (w9.setCell ⟨wr.heap.size, 0, none⟩ (.int .i64 (F : Int))) wr.heap.size (.int .i64 (F : Int)) (.int .i64 0) (.bool true) (.bool false)) := T4s0 HG.out _
        have HL2 : Hid (Loc (w9.setCell ⟨wr.heap.size, 0, none⟩ (.int .i64 (F : Int))) (w1.heap.size + 1) x 4) := HLL.out.other (by have := HLt.out; omega)
        have HB2 : Hid (Below w.heap.size w (w9.setCell ⟨wr.heap.size, 0, none⟩ (.int .i64 (F : Int)))) := HBA.out.setCell (by show w.heap.size ≤ wr.heap.size; exact HGW.out) _
        clear HG HBA
        have hne : w1.heap.size + 1 ≠ wr.heap.size := by have := HLt.out; omega
        have hne' : wr.heap.size ≠ w1.heap.size + 1 := by have := HLt.out; omega
        have d0 := (HLL.out.facts 0 (by omega)).1
        rw [if_pos (by omega), (HX4.out).1] at d0
        have d1 := (HLL.out.facts 1 (by omega)).1
        rw [if_pos (by omega), (HX4.out).2.1] at d1
        have d2 := (HLL.out.facts 2 (by omega)).1
        rw [if_pos (by omega), (HX4.out).2.2.1] at d2
        have d3 := (HLL.out.facts 3 (by omega)).1
        rw [if_pos (by omega), (HX4.out).2.2.2] at d3
        go_wp2_with fail
        refine (SpnC.parse_any (strOf s8) _ (by rw [size_strOf]; omega)).mono ?_
        rintro e y1 ⟨rfl, hy1⟩
        rw [show says (strOf s8).data.toList = _ from HS8.out]
        have HG5 := hid (HG2.out.below hy1)
        have HB5 := hid (bel HB2.out hy1)
        clear hy1 c0 c1 c2 c3 f0 f1 f2 f3 d0 d1 d2 d3
        go_wp2_with fail
        refine (SpnC.parse_any (strOf sA) _ (by rw [size_strOf]; omega)).mono ?_
        rintro e y2 ⟨rfl, hy2⟩
        obtain ⟨pa, pb, pc, pd, hp⟩ : ∃ pa pb pc pd, says sA = (pa, pb, pc, pd, false) := ⟨_, _, _, _, by rw [← HSA.out]⟩
        rw [show says (strOf sA).data.toList = (pa, pb, pc, pd, false) from hp]
        have HR6 : Hid (SpnC.T4 y2 y1.heap.size (.int .i64 (F : Int)) (.int .i64 0) (.bool true) (.bool false)) := SpnC.T4.below (heap_alloc_new y1 _) hy2
        have HG6 : Hid (SpnC.T4 y2 wr.heap.size (.int .i64 (F : Int)) (.int .i64 0) (.bool true) (.bool false)) := (HG5.out.below ((Below.refl _ _).alloc (Nat.le_refl _) _)).below hy2
        have HB6 := hid (bel (HB5.out.alloc HB5.out.size (.cells #[.int .i64 (F : Int), .int .i64 0, .bool true, .bool false] 24)) hy2)
        have HY1 := hid HG5.out.lt
        clear hy2 hp HG5 HB5
        go_wp2_with fail
        refine (SpnC.parse_any (strOf sB) _ (by rw [size_strOf]; omega)).mono ?_
        rintro e y3 ⟨rfl, hy3⟩
        obtain ⟨qa, qb, qc, qd, hp⟩ : ∃ pa pb pc pd, says sB = (pa, pb, pc, pd, false) := ⟨_, _, _, _, by rw [← HSB.out]⟩
        rw [show says (strOf sB).data.toList = (qa, qb, qc, qd, false) from hp]
        have HR7 : Hid (SpnC.T4 y3 y1.heap.size (.int .i64 (F : Int)) (.int .i64 0) (.bool true) (.bool false)) := (HR6.out.below ((Below.refl _ _).alloc (Nat.le_refl _) _)).below hy3
        have HG7 : Hid (SpnC.T4 y3 wr.heap.size (.int .i64 (F : Int)) (.int .i64 0) (.bool true) (.bool false)) := (HG6.out.below ((Below.refl _ _).alloc (Nat.le_refl _) _)).below hy3
        have HB7 := hid (bel (HB6.out.alloc HB6.out.size (.cells #[.int .i64 pa, .int .i64 pb, .bool pc, .bool pd] 24)) hy3)
        clear hy3 hp HR6 HG6 HB6
        obtain ⟨⟨c0, c1, c2, c3⟩, f0, f1, f2, f3⟩ := HR7.out.facts
        obtain ⟨⟨d0, d1, d2, d3⟩, g0, g1, g2, g3⟩ := HG7.out.facts
        have hy1 := HR7.out.lt
        have hy2 := HG7.out.lt
        clear f0 f1 f2 f3 g0 g1 g2 g3
        have k1 : y1.heap.size ≠ y3.heap.size := by omega
        have k2 : wr.heap.size ≠ y3.heap.size := by omega
        go_wp2_with fail
        go_ret
        exact ⟨rfl, HB7.out.alloc HB7.out.size _⟩
  · obtain ⟨A, hA⟩ : ∃ X, X = dg false F := ⟨_, rfl⟩
    obtain ⟨B, hB⟩ : ∃ X, X = dg true T := ⟨_, rfl⟩
    have lA : A.length ≤ 19 := by rw [hA]; exact Nat.zero_le _
    have lB : B.length ≤ 19 := by rw [hB]; exact dd_len (T + 1) T (by omega) (by omega)
    have HS : Hid (says (text (x 0) (x 1) (x 2) (x 3) A B []) = ((0 : Int), ((T : Nat) : Int), false, true, true) ∧ (says (text (x 0) (x 1) (x 2) (x 3) A B [120])).2.2.2.2 = false) := by
      rw [show A = dg false 0 from hA.trans rfl, show B = dg true T from hB.trans rfl]
      exact says_text (x 0) (x 1) (x 2) (x 3) 0 T false true (HXB.out 0).1 (HXB.out 1).1 (HXB.out 2).1 (HXB.out 3).1 (by omega) (by omega) (fun h => by first | rfl | cases h) (fun h => by first | rfl | cases h) (by simp) (fun h1 h2 => by exact absurd h1 (by decide))
    have l0 := (HXB.out 0).2
    have l1 := (HXB.out 1).2
    have l2 := (HXB.out 2).2
    have l3 := (HXB.out 3).2
    obtain ⟨x0, hx0⟩ : ∃ X, X = x 0 := ⟨_, rfl⟩
    obtain ⟨x1, hx1⟩ : ∃ X, X = x 1 := ⟨_, rfl⟩
    obtain ⟨x2, hx2⟩ : ∃ X, X = x 2 := ⟨_, rfl⟩
    obtain ⟨x3, hx3⟩ : ∃ X, X = x 3 := ⟨_, rfl⟩
    have HX4 : Hid (x 0 = x0 ∧ x 1 = x1 ∧ x 2 = x2 ∧ x 3 = x3) := ⟨hx0.symm, hx1.symm, hx2.symm, hx3.symm⟩
    rw [← hx0, ← hx1, ← hx2, ← hx3] at HS
    rw [← hx0] at l0
    rw [← hx1] at l1
    rw [← hx2] at l2
    rw [← hx3] at l3
    clear hx0 hx1 hx2 hx3
    obtain ⟨s1, hs1⟩ : ∃ X, X = [98, 89, 116, 69, 115] ++ x0 := ⟨_, rfl⟩
    have n1 : s1.length ≤ 20 := by rw [hs1]; simp; omega
    have t1 : ∀ w, (Op.stringOp .add ⟨#[98, 89, 116, 69, 115]⟩ (strOf x0)).run Tryd.prog w = .ok (.string (strOf s1)) w := fun w => by rw [hs1]; exact str_add [98, 89, 116, 69, 115] x0 w (by first | omega | (simp <;> omega))
    obtain ⟨s2, hs2⟩ : ∃ X, X = s1 ++ [61] := ⟨_, rfl⟩
    have n2 : s2.length ≤ 40 := by rw [hs2]; simp; omega
    have t2 : ∀ w, (Op.stringOp .add (strOf s1) ⟨#[61]⟩).run Tryd.prog w = .ok (.string (strOf s2)) w := fun w => by rw [hs2]; exact str_add s1 [61] w (by first | omega | (simp <;> omega))
    obtain ⟨s3, hs3⟩ : ∃ X, X = s2 ++ x1 := ⟨_, rfl⟩
    have n3 : s3.length ≤ 60 := by rw [hs3]; simp; omega
    have t3 : ∀ w, (Op.stringOp .add (strOf s2) (strOf x1)).run Tryd.prog w = .ok (.string (strOf s3)) w := fun w => by rw [hs3]; exact str_add s2 x1 w (by first | omega | (simp <;> omega))
    obtain ⟨s4, hs4⟩ : ∃ X, X = s3 ++ A := ⟨_, rfl⟩
    have n4 : s4.length ≤ 80 := by rw [hs4]; simp; omega
    have t4 : ∀ w, (Op.stringOp .add (strOf s3) ⟨#[]⟩).run Tryd.prog w = .ok (.string (strOf s4)) w := fun w => by rw [hs4]; rw [hA]; exact str_add s3 [] w (by first | omega | (simp <;> omega))
    obtain ⟨s5, hs5⟩ : ∃ X, X = s4 ++ x2 := ⟨_, rfl⟩
    have n5 : s5.length ≤ 100 := by rw [hs5]; simp; omega
    have t5 : ∀ w, (Op.stringOp .add (strOf s4) (strOf x2)).run Tryd.prog w = .ok (.string (strOf s5)) w := fun w => by rw [hs5]; exact str_add s4 x2 w (by first | omega | (simp <;> omega))
    obtain ⟨s6, hs6⟩ : ∃ X, X = s5 ++ [45] := ⟨_, rfl⟩
    have n6 : s6.length ≤ 120 := by rw [hs6]; simp; omega
    have t6 : ∀ w, (Op.stringOp .add (strOf s5) ⟨#[45]⟩).run Tryd.prog w = .ok (.string (strOf s6)) w := fun w => by rw [hs6]; exact str_add s5 [45] w (by first | omega | (simp <;> omega))
    obtain ⟨s7, hs7⟩ : ∃ X, X = s6 ++ x3 := ⟨_, rfl⟩
    have n7 : s7.length ≤ 140 := by rw [hs7]; simp; omega
    have t7 : ∀ w, (Op.stringOp .add (strOf s6) (strOf x3)).run Tryd.prog w = .ok (.string (strOf s7)) w := fun w => by rw [hs7]; exact str_add s6 x3 w (by first | omega | (simp <;> omega))
    obtain ⟨s8, hs8⟩ : ∃ X, X = s7 ++ B := ⟨_, rfl⟩
    have n8 : s8.length ≤ 160 := by rw [hs8]; simp; omega
    have t8 : ∀ w, (Op.stringOp .add (strOf s7) (strOf B)).run Tryd.prog w = .ok (.string (strOf s8)) w := fun w => by rw [hs8]; exact str_add s7 B w (by first | omega | (simp <;> omega))
    have H8 : Hid (s8 = text x0 x1 x2 x3 A B []) := by show _ = _; rw [hs8, hs7, hs6, hs5, hs4, hs3, hs2, hs1]; simp [text]
    have HSA : Hid ((says (32 :: s8)).2.2.2.2 = false) := says_ahead s8
    have HSB : Hid ((says (s8 ++ [120])).2.2.2.2 = false) := by rw [H8.out, show text x0 x1 x2 x3 A B [] ++ [120] = text x0 x1 x2 x3 A B [120] by simp [text]]; exact HS.out.2
    have HS8 : Hid (says s8 = ((0 : Int), ((T : Nat) : Int), false, true, true)) := by rw [H8.out]; exact HS.out.1
    have tA : ∀ w, (Op.stringOp .add ⟨#[32]⟩ (strOf s8)).run Tryd.prog w = .ok (.string (strOf (32 :: s8))) w := fun w => str_add [32] s8 w (by simp; omega)
    have tB : ∀ w, (Op.stringOp .add (strOf s8) ⟨#[120]⟩).run Tryd.prog w = .ok (.string (strOf (s8 ++ [120]))) w := fun w => str_add s8 [120] w (by simp; omega)
    obtain ⟨sA, hsA⟩ : ∃ X, X = 32 :: s8 := ⟨_, rfl⟩
    obtain ⟨sB, hsB⟩ : ∃ X, X = s8 ++ [120] := ⟨_, rfl⟩
    have nA : sA.length ≤ 161 := by rw [hsA]; simp; omega
    have nB : sB.length ≤ 161 := by rw [hsB]; simp; omega
    rw [← hsA] at HSA tA
    rw [← hsB] at HSB tB
    have HA := hid hA
    have HB := hid hB
    clear hs1 hs2 hs3 hs4 hs5 hs6 hs7 hs8 hsA hsB hA hB HS H8
    clear hbad
    go_enter Tryd.func8, Tryd.ntmps8
    go_wp2_with fail
    refine (awake_any _).mono ?_
    rintro e w1 ⟨rfl, hb1⟩
    have HZ : Hid (w1.heap[w.heap.size]? = some (.cells #[.int .u8 z0, .int .u8 z1, .int .u8 z2, .int .u8 z3] 39 (0, 0))) := (hb1.block w.heap.size (by simp)).trans (heap_alloc_new w _)
    have HB1 : Hid (Below w.heap.size w w1) := ((Below.refl _ _).alloc (Nat.le_refl _) _).trans (hb1.mono (by simp))
    have HW : Hid (w.heap.size < w1.heap.size) := (Array.getElem?_eq_some_iff.1 HZ.out).1
    clear hb1
    go_wp2_with fail
    go_loopw [13, 47] (fun _ vk wr => ∃ k : Nat, k ≤ 4 ∧ vk = .int .i64 (k : Int) ∧ Hid (Loc wr (w1.heap.size + 1) x k) ∧ Hid (Below (w1.heap.size + 1) (w1.alloc LB) wr)) (fun _ vk _ => 4 - (intOf vk).toNat)
    case atStart => exact ⟨0, by omega, rfl, (by have := heap_alloc_new (w1.alloc LB) (.cells #[.string ⟨#[]⟩, .string ⟨#[]⟩, .string ⟨#[]⟩, .string ⟨#[]⟩] 41); rw [show (w1.alloc LB).heap.size = w1.heap.size + 1 by simp] at this; exact this), (by exact (Below.refl (w1.heap.size + 1) (w1.alloc LB)).alloc (by simp) _)⟩
    case round =>
      obtain ⟨k, hk, rfl, HL, HBB⟩ := hrel
      have HZR : Hid (wr.heap[w.heap.size]? = some (.cells #[.int .u8 z0, .int .u8 z1, .int .u8 z2, .int .u8 z3] 39 (0, 0))) := (HBB.out.block w.heap.size (by have := HW.out; omega)).trans ((((Below.refl _ _).alloc (Nat.le_refl _) _).block _ HW.out).trans HZ.out)
      by_cases hlt : k < 4
      · have hcase : k = 0 ∨ k = 1 ∨ k = 2 ∨ k = 3 := by omega
        rcases hcase with rfl | rfl | rfl | rfl
        · have q1 := (cell_of_row wr w.heap.size 0 _ _ _ HZR.out).trans (show _ = some (.int .u8 z0) from rfl)
          have q2 : wr.cell? ⟨w1.heap.size, m0, none⟩ = some (.string (strOf (x 0))) := (HBB.out.cell (p := ⟨w1.heap.size, m0, none⟩) (by show w1.heap.size < _; omega)).trans (by rw [(HX.out).1]; exact bl4_cell w1 m0 hl0)
          obtain ⟨q3, q4⟩ := HL.out.facts 0 (by omega)
          have hmI : (m0 : Int) < 4 := by omega
          go_wp2
          go_roundw
          case rel => exact ⟨1, by omega, rfl, HL.out.set (by omega), HBB.out.setCell (by show w1.heap.size + 1 ≤ w1.heap.size + 1; omega) _⟩
          case measure => simp [intOf]
        · have q1 := (cell_of_row wr w.heap.size 1 _ _ _ HZR.out).trans (show _ = some (.int .u8 z1) from rfl)
          have q2 : wr.cell? ⟨w1.heap.size, m1, none⟩ = some (.string (strOf (x 1))) := (HBB.out.cell (p := ⟨w1.heap.size, m1, none⟩) (by show w1.heap.size < _; omega)).trans (by rw [(HX.out).2.1]; exact bl4_cell w1 m1 hl1)
          obtain ⟨q3, q4⟩ := HL.out.facts 1 (by omega)
          have hmI : (m1 : Int) < 4 := by omega
          go_wp2
          go_roundw
          case rel => exact ⟨2, by omega, rfl, HL.out.set (by omega), HBB.out.setCell (by show w1.heap.size + 1 ≤ w1.heap.size + 1; omega) _⟩
          case measure => simp [intOf]
        · have q1 := (cell_of_row wr w.heap.size 2 _ _ _ HZR.out).trans (show _ = some (.int .u8 z2) from rfl)
          have q2 : wr.cell? ⟨w1.heap.size, m2, none⟩ = some (.string (strOf (x 2))) := (HBB.out.cell (p := ⟨w1.heap.size, m2, none⟩) (by show w1.heap.size < _; omega)).trans (by rw [(HX.out).2.2.1]; exact bl4_cell w1 m2 hl2)
          obtain ⟨q3, q4⟩ := HL.out.facts 2 (by omega)
          have hmI : (m2 : Int) < 4 := by omega
          go_wp2
          go_roundw
          case rel => exact ⟨3, by omega, rfl, HL.out.set (by omega), HBB.out.setCell (by show w1.heap.size + 1 ≤ w1.heap.size + 1; omega) _⟩
          case measure => simp [intOf]
        · have q1 := (cell_of_row wr w.heap.size 3 _ _ _ HZR.out).trans (show _ = some (.int .u8 z3) from rfl)
          have q2 : wr.cell? ⟨w1.heap.size, m3, none⟩ = some (.string (strOf (x 3))) := (HBB.out.cell (p := ⟨w1.heap.size, m3, none⟩) (by show w1.heap.size < _; omega)).trans (by rw [(HX.out).2.2.2]; exact bl4_cell w1 m3 hl3)
          obtain ⟨q3, q4⟩ := HL.out.facts 3 (by omega)
          have hmI : (m3 : Int) < 4 := by omega
          go_wp2
          go_roundw
          case rel => exact ⟨4, by omega, rfl, HL.out.set (by omega), HBB.out.setCell (by show w1.heap.size + 1 ≤ w1.heap.size + 1; omega) _⟩
          case measure => simp [intOf]
      · obtain rfl : k = 4 := by omega
        have HBW : Hid (Below w.heap.size w wr) := (HB1.out.alloc HB1.out.size _).trans (HBB.out.mono (by have := HW.out; omega))
        have HLt := hid HL.out.lt
        clear HBB HZR hlt hk
        have HG : Hid (SpnC.T4 (wr.alloc (.cells #[.int .i64 0, .int .i64 0, .bool false, .bool true] 24)) wr.heap.size (.int .i64 0) (.int .i64 0) (.bool false) (.bool true)) := heap_alloc_new wr _
        have HLL : Hid (Loc (wr.alloc (.cells #[.int .i64 0, .int .i64 0, .bool false, .bool true] 24)) (w1.heap.size + 1) x 4) := HL.out.below ((Below.refl _ _).alloc (Nat.le_refl _) _)
        have HBA : Hid (Below w.heap.size w (wr.alloc (.cells #[.int .i64 0, .int .i64 0, .bool false, .bool true] 24))) := HBW.out.alloc HBW.out.size _
        have HGW : Hid (w.heap.size ≤ wr.heap.size) := HBW.out.size
        clear HBW HL
        go_wp2_with fail
        refine (digits_any (T + 1) T (by omega) hT _).mono ?_
        rintro e w9 ⟨rfl, hb9⟩
        rw [show Lib.decDigits T = B from HB.out.symm]
        replace HG := hid (HG.out.below hb9)
        replace HLL := hid (HLL.out.below hb9)
        replace HBA := hid (bel HBA.out hb9)
        obtain ⟨⟨c0, c1, c2, c3⟩, f0, f1, f2, f3⟩ := HG.out.facts
        clear hb9
        have HG2 : Hid (SpnC.T4 (w9.setCell ⟨wr.heap.size, 1, none⟩ (.int .i64 (T : Int))) wr.heap.size (.int .i64 0) (.int .i64 (T : Int)) (.bool false) (.bool true)) := T4s1 HG.out _
        have HL2 : Hid (Loc (w9.setCell ⟨wr.heap.size, 1, none⟩ (.int .i64 (T : Int))) (w1.heap.size + 1) x 4) := HLL.out.other (by have := HLt.out; omega)
        have HB2 : Hid (Below w.heap.size w (w9.setCell ⟨wr.heap.size, 1, none⟩ (.int .i64 (T : Int)))) := HBA.out.setCell (by show w.heap.size ≤ wr.heap.size; exact HGW.out) _
        have hne : w1.heap.size + 1 ≠ wr.heap.size := by have := HLt.out; omega
        have hne' : wr.heap.size ≠ w1.heap.size + 1 := by have := HLt.out; omega
        clear HG HBA
        have d0 := (HLL.out.facts 0 (by omega)).1
        rw [if_pos (by omega), (HX4.out).1] at d0
        have d1 := (HLL.out.facts 1 (by omega)).1
        rw [if_pos (by omega), (HX4.out).2.1] at d1
        have d2 := (HLL.out.facts 2 (by omega)).1
        rw [if_pos (by omega), (HX4.out).2.2.1] at d2
        have d3 := (HLL.out.facts 3 (by omega)).1
        rw [if_pos (by omega), (HX4.out).2.2.2] at d3
        go_wp2_with fail
        refine (SpnC.parse_any (strOf s8) _ (by rw [size_strOf]; omega)).mono ?_
        rintro e y1 ⟨rfl, hy1⟩
        rw [show says (strOf s8).data.toList = _ from HS8.out]
        have HG5 := hid (HG2.out.below hy1)
        have HB5 := hid (bel HB2.out hy1)
        clear hy1 c0 c1 c2 c3 f0 f1 f2 f3 d0 d1 d2 d3
        go_wp2_with fail
        refine (SpnC.parse_any (strOf sA) _ (by rw [size_strOf]; omega)).mono ?_
        rintro e y2 ⟨rfl, hy2⟩
        obtain ⟨pa, pb, pc, pd, hp⟩ : ∃ pa pb pc pd, says sA = (pa, pb, pc, pd, false) := ⟨_, _, _, _, by rw [← HSA.out]⟩
        rw [show says (strOf sA).data.toList = (pa, pb, pc, pd, false) from hp]
        have HR6 : Hid (SpnC.T4 y2 y1.heap.size (.int .i64 0) (.int .i64 (T : Int)) (.bool false) (.bool true)) := SpnC.T4.below (heap_alloc_new y1 _) hy2
        have HG6 : Hid (SpnC.T4 y2 wr.heap.size (.int .i64 0) (.int .i64 (T : Int)) (.bool false) (.bool true)) := (HG5.out.below ((Below.refl _ _).alloc (Nat.le_refl _) _)).below hy2
        have HB6 := hid (bel (HB5.out.alloc HB5.out.size (.cells #[.int .i64 0, .int .i64 (T : Int), .bool false, .bool true] 24)) hy2)
        have HY1 := hid HG5.out.lt
        clear hy2 hp HG5 HB5
        go_wp2_with fail
        refine (SpnC.parse_any (strOf sB) _ (by rw [size_strOf]; omega)).mono ?_
        rintro e y3 ⟨rfl, hy3⟩
        obtain ⟨qa, qb, qc, qd, hp⟩ : ∃ pa pb pc pd, says sB = (pa, pb, pc, pd, false) := ⟨_, _, _, _, by rw [← HSB.out]⟩
        rw [show says (strOf sB).data.toList = (qa, qb, qc, qd, false) from hp]
        have HR7 : Hid (SpnC.T4 y3 y1.heap.size (.int .i64 0) (.int .i64 (T : Int)) (.bool false) (.bool true)) := (HR6.out.below ((Below.refl _ _).alloc (Nat.le_refl _) _)).below hy3
        have HG7 : Hid (SpnC.T4 y3 wr.heap.size (.int .i64 0) (.int .i64 (T : Int)) (.bool false) (.bool true)) := (HG6.out.below ((Below.refl _ _).alloc (Nat.le_refl _) _)).below hy3
        have HB7 := hid (bel (HB6.out.alloc HB6.out.size (.cells #[.int .i64 pa, .int .i64 pb, .bool pc, .bool pd] 24)) hy3)
        clear hy3 hp HR6 HG6 HB6
        obtain ⟨⟨c0, c1, c2, c3⟩, f0, f1, f2, f3⟩ := HR7.out.facts
        obtain ⟨⟨d0, d1, d2, d3⟩, g0, g1, g2, g3⟩ := HG7.out.facts
        have hy1 := HR7.out.lt
        have hy2 := HG7.out.lt
        clear f0 f1 f2 f3 g0 g1 g2 g3
        have k1 : y1.heap.size ≠ y3.heap.size := by omega
        have k2 : wr.heap.size ≠ y3.heap.size := by omega
        go_wp2_with fail
        go_ret
        exact ⟨rfl, HB7.out.alloc HB7.out.size _⟩
  · obtain ⟨A, hA⟩ : ∃ X, X = dg true F := ⟨_, rfl⟩
    obtain ⟨B, hB⟩ : ∃ X, X = dg true T := ⟨_, rfl⟩
    have lA : A.length ≤ 19 := by rw [hA]; exact dd_len (F + 1) F (by omega) (by omega)
    have lB : B.length ≤ 19 := by rw [hB]; exact dd_len (T + 1) T (by omega) (by omega)
    have HS : Hid (says (text (x 0) (x 1) (x 2) (x 3) A B []) = (((F : Nat) : Int), ((T : Nat) : Int), true, true, true) ∧ (says (text (x 0) (x 1) (x 2) (x 3) A B [120])).2.2.2.2 = false) := by
      rw [show A = dg true F from hA.trans rfl, show B = dg true T from hB.trans rfl]
      exact says_text (x 0) (x 1) (x 2) (x 3) F T true true (HXB.out 0).1 (HXB.out 1).1 (HXB.out 2).1 (HXB.out 3).1 (by omega) (by omega) (fun h => by first | rfl | cases h) (fun h => by first | rfl | cases h) (by simp) (fun h1 h2 => by omega)
    have l0 := (HXB.out 0).2
    have l1 := (HXB.out 1).2
    have l2 := (HXB.out 2).2
    have l3 := (HXB.out 3).2
    obtain ⟨x0, hx0⟩ : ∃ X, X = x 0 := ⟨_, rfl⟩
    obtain ⟨x1, hx1⟩ : ∃ X, X = x 1 := ⟨_, rfl⟩
    obtain ⟨x2, hx2⟩ : ∃ X, X = x 2 := ⟨_, rfl⟩
    obtain ⟨x3, hx3⟩ : ∃ X, X = x 3 := ⟨_, rfl⟩
    have HX4 : Hid (x 0 = x0 ∧ x 1 = x1 ∧ x 2 = x2 ∧ x 3 = x3) := ⟨hx0.symm, hx1.symm, hx2.symm, hx3.symm⟩
    rw [← hx0, ← hx1, ← hx2, ← hx3] at HS
    rw [← hx0] at l0
    rw [← hx1] at l1
    rw [← hx2] at l2
    rw [← hx3] at l3
    clear hx0 hx1 hx2 hx3
    obtain ⟨s1, hs1⟩ : ∃ X, X = [98, 89, 116, 69, 115] ++ x0 := ⟨_, rfl⟩
    have n1 : s1.length ≤ 20 := by rw [hs1]; simp; omega
    have t1 : ∀ w, (Op.stringOp .add ⟨#[98, 89, 116, 69, 115]⟩ (strOf x0)).run Tryd.prog w = .ok (.string (strOf s1)) w := fun w => by rw [hs1]; exact str_add [98, 89, 116, 69, 115] x0 w (by first | omega | (simp <;> omega))
    obtain ⟨s2, hs2⟩ : ∃ X, X = s1 ++ [61] := ⟨_, rfl⟩
    have n2 : s2.length ≤ 40 := by rw [hs2]; simp; omega
    have t2 : ∀ w, (Op.stringOp .add (strOf s1) ⟨#[61]⟩).run Tryd.prog w = .ok (.string (strOf s2)) w := fun w => by rw [hs2]; exact str_add s1 [61] w (by first | omega | (simp <;> omega))
    obtain ⟨s3, hs3⟩ : ∃ X, X = s2 ++ x1 := ⟨_, rfl⟩
    have n3 : s3.length ≤ 60 := by rw [hs3]; simp; omega
    have t3 : ∀ w, (Op.stringOp .add (strOf s2) (strOf x1)).run Tryd.prog w = .ok (.string (strOf s3)) w := fun w => by rw [hs3]; exact str_add s2 x1 w (by first | omega | (simp <;> omega))
    obtain ⟨s4, hs4⟩ : ∃ X, X = s3 ++ A := ⟨_, rfl⟩
    have n4 : s4.length ≤ 80 := by rw [hs4]; simp; omega
    have t4 : ∀ w, (Op.stringOp .add (strOf s3) (strOf A)).run Tryd.prog w = .ok (.string (strOf s4)) w := fun w => by rw [hs4]; exact str_add s3 A w (by first | omega | (simp <;> omega))
    obtain ⟨s5, hs5⟩ : ∃ X, X = s4 ++ x2 := ⟨_, rfl⟩
    have n5 : s5.length ≤ 100 := by rw [hs5]; simp; omega
    have t5 : ∀ w, (Op.stringOp .add (strOf s4) (strOf x2)).run Tryd.prog w = .ok (.string (strOf s5)) w := fun w => by rw [hs5]; exact str_add s4 x2 w (by first | omega | (simp <;> omega))
    obtain ⟨s6, hs6⟩ : ∃ X, X = s5 ++ [45] := ⟨_, rfl⟩
    have n6 : s6.length ≤ 120 := by rw [hs6]; simp; omega
    have t6 : ∀ w, (Op.stringOp .add (strOf s5) ⟨#[45]⟩).run Tryd.prog w = .ok (.string (strOf s6)) w := fun w => by rw [hs6]; exact str_add s5 [45] w (by first | omega | (simp <;> omega))
    obtain ⟨s7, hs7⟩ : ∃ X, X = s6 ++ x3 := ⟨_, rfl⟩
    have n7 : s7.length ≤ 140 := by rw [hs7]; simp; omega
    have t7 : ∀ w, (Op.stringOp .add (strOf s6) (strOf x3)).run Tryd.prog w = .ok (.string (strOf s7)) w := fun w => by rw [hs7]; exact str_add s6 x3 w (by first | omega | (simp <;> omega))
    obtain ⟨s8, hs8⟩ : ∃ X, X = s7 ++ B := ⟨_, rfl⟩
    have n8 : s8.length ≤ 160 := by rw [hs8]; simp; omega
    have t8 : ∀ w, (Op.stringOp .add (strOf s7) (strOf B)).run Tryd.prog w = .ok (.string (strOf s8)) w := fun w => by rw [hs8]; exact str_add s7 B w (by first | omega | (simp <;> omega))
    have H8 : Hid (s8 = text x0 x1 x2 x3 A B []) := by show _ = _; rw [hs8, hs7, hs6, hs5, hs4, hs3, hs2, hs1]; simp [text]
    have HSA : Hid ((says (32 :: s8)).2.2.2.2 = false) := says_ahead s8
    have HSB : Hid ((says (s8 ++ [120])).2.2.2.2 = false) := by rw [H8.out, show text x0 x1 x2 x3 A B [] ++ [120] = text x0 x1 x2 x3 A B [120] by simp [text]]; exact HS.out.2
    have HS8 : Hid (says s8 = (((F : Nat) : Int), ((T : Nat) : Int), true, true, true)) := by rw [H8.out]; exact HS.out.1
    have tA : ∀ w, (Op.stringOp .add ⟨#[32]⟩ (strOf s8)).run Tryd.prog w = .ok (.string (strOf (32 :: s8))) w := fun w => str_add [32] s8 w (by simp; omega)
    have tB : ∀ w, (Op.stringOp .add (strOf s8) ⟨#[120]⟩).run Tryd.prog w = .ok (.string (strOf (s8 ++ [120]))) w := fun w => str_add s8 [120] w (by simp; omega)
    obtain ⟨sA, hsA⟩ : ∃ X, X = 32 :: s8 := ⟨_, rfl⟩
    obtain ⟨sB, hsB⟩ : ∃ X, X = s8 ++ [120] := ⟨_, rfl⟩
    have nA : sA.length ≤ 161 := by rw [hsA]; simp; omega
    have nB : sB.length ≤ 161 := by rw [hsB]; simp; omega
    rw [← hsA] at HSA tA
    rw [← hsB] at HSB tB
    have HA := hid hA
    have HB := hid hB
    clear hs1 hs2 hs3 hs4 hs5 hs6 hs7 hs8 hsA hsB hA hB HS H8
    have hFT : ¬ (T : Int) < (F : Int) := by omega
    clear hbad
    go_enter Tryd.func8, Tryd.ntmps8
    go_wp2_with fail
    refine (awake_any _).mono ?_
    rintro e w1 ⟨rfl, hb1⟩
    have HZ : Hid (w1.heap[w.heap.size]? = some (.cells #[.int .u8 z0, .int .u8 z1, .int .u8 z2, .int .u8 z3] 39 (0, 0))) := (hb1.block w.heap.size (by simp)).trans (heap_alloc_new w _)
    have HB1 : Hid (Below w.heap.size w w1) := ((Below.refl _ _).alloc (Nat.le_refl _) _).trans (hb1.mono (by simp))
    have HW : Hid (w.heap.size < w1.heap.size) := (Array.getElem?_eq_some_iff.1 HZ.out).1
    clear hb1
    go_wp2_with fail
    go_loopw [13, 47] (fun _ vk wr => ∃ k : Nat, k ≤ 4 ∧ vk = .int .i64 (k : Int) ∧ Hid (Loc wr (w1.heap.size + 1) x k) ∧ Hid (Below (w1.heap.size + 1) (w1.alloc LB) wr)) (fun _ vk _ => 4 - (intOf vk).toNat)
    case atStart => exact ⟨0, by omega, rfl, (by have := heap_alloc_new (w1.alloc LB) (.cells #[.string ⟨#[]⟩, .string ⟨#[]⟩, .string ⟨#[]⟩, .string ⟨#[]⟩] 41); rw [show (w1.alloc LB).heap.size = w1.heap.size + 1 by simp] at this; exact this), (by exact (Below.refl (w1.heap.size + 1) (w1.alloc LB)).alloc (by simp) _)⟩
    case round =>
      obtain ⟨k, hk, rfl, HL, HBB⟩ := hrel
      have HZR : Hid (wr.heap[w.heap.size]? = some (.cells #[.int .u8 z0, .int .u8 z1, .int .u8 z2, .int .u8 z3] 39 (0, 0))) := (HBB.out.block w.heap.size (by have := HW.out; omega)).trans ((((Below.refl _ _).alloc (Nat.le_refl _) _).block _ HW.out).trans HZ.out)
      by_cases hlt : k < 4
      · have hcase : k = 0 ∨ k = 1 ∨ k = 2 ∨ k = 3 := by omega
        rcases hcase with rfl | rfl | rfl | rfl
        · have q1 := (cell_of_row wr w.heap.size 0 _ _ _ HZR.out).trans (show _ = some (.int .u8 z0) from rfl)
          have q2 : wr.cell? ⟨w1.heap.size, m0, none⟩ = some (.string (strOf (x 0))) := (HBB.out.cell (p := ⟨w1.heap.size, m0, none⟩) (by show w1.heap.size < _; omega)).trans (by rw [(HX.out).1]; exact bl4_cell w1 m0 hl0)
          obtain ⟨q3, q4⟩ := HL.out.facts 0 (by omega)
          have hmI : (m0 : Int) < 4 := by omega
          go_wp2
          go_roundw
          case rel => exact ⟨1, by omega, rfl, HL.out.set (by omega), HBB.out.setCell (by show w1.heap.size + 1 ≤ w1.heap.size + 1; omega) _⟩
          case measure => simp [intOf]
        · have q1 := (cell_of_row wr w.heap.size 1 _ _ _ HZR.out).trans (show _ = some (.int .u8 z1) from rfl)
          have q2 : wr.cell? ⟨w1.heap.size, m1, none⟩ = some (.string (strOf (x 1))) := (HBB.out.cell (p := ⟨w1.heap.size, m1, none⟩) (by show w1.heap.size < _; omega)).trans (by rw [(HX.out).2.1]; exact bl4_cell w1 m1 hl1)
          obtain ⟨q3, q4⟩ := HL.out.facts 1 (by omega)
          have hmI : (m1 : Int) < 4 := by omega
          go_wp2
          go_roundw
          case rel => exact ⟨2, by omega, rfl, HL.out.set (by omega), HBB.out.setCell (by show w1.heap.size + 1 ≤ w1.heap.size + 1; omega) _⟩
          case measure => simp [intOf]
        · have q1 := (cell_of_row wr w.heap.size 2 _ _ _ HZR.out).trans (show _ = some (.int .u8 z2) from rfl)
          have q2 : wr.cell? ⟨w1.heap.size, m2, none⟩ = some (.string (strOf (x 2))) := (HBB.out.cell (p := ⟨w1.heap.size, m2, none⟩) (by show w1.heap.size < _; omega)).trans (by rw [(HX.out).2.2.1]; exact bl4_cell w1 m2 hl2)
          obtain ⟨q3, q4⟩ := HL.out.facts 2 (by omega)
          have hmI : (m2 : Int) < 4 := by omega
          go_wp2
          go_roundw
          case rel => exact ⟨3, by omega, rfl, HL.out.set (by omega), HBB.out.setCell (by show w1.heap.size + 1 ≤ w1.heap.size + 1; omega) _⟩
          case measure => simp [intOf]
        · have q1 := (cell_of_row wr w.heap.size 3 _ _ _ HZR.out).trans (show _ = some (.int .u8 z3) from rfl)
          have q2 : wr.cell? ⟨w1.heap.size, m3, none⟩ = some (.string (strOf (x 3))) := (HBB.out.cell (p := ⟨w1.heap.size, m3, none⟩) (by show w1.heap.size < _; omega)).trans (by rw [(HX.out).2.2.2]; exact bl4_cell w1 m3 hl3)
          obtain ⟨q3, q4⟩ := HL.out.facts 3 (by omega)
          have hmI : (m3 : Int) < 4 := by omega
          go_wp2
          go_roundw
          case rel => exact ⟨4, by omega, rfl, HL.out.set (by omega), HBB.out.setCell (by show w1.heap.size + 1 ≤ w1.heap.size + 1; omega) _⟩
          case measure => simp [intOf]
      · obtain rfl : k = 4 := by omega
        have HBW : Hid (Below w.heap.size w wr) := (HB1.out.alloc HB1.out.size _).trans (HBB.out.mono (by have := HW.out; omega))
        have HLt := hid HL.out.lt
        clear HBB HZR hlt hk
        have HG : Hid (SpnC.T4 (wr.alloc (.cells #[.int .i64 0, .int .i64 0, .bool true, .bool true] 24)) wr.heap.size (.int .i64 0) (.int .i64 0) (.bool true) (.bool true)) := heap_alloc_new wr _
        have HLL : Hid (Loc (wr.alloc (.cells #[.int .i64 0, .int .i64 0, .bool true, .bool true] 24)) (w1.heap.size + 1) x 4) := HL.out.below ((Below.refl _ _).alloc (Nat.le_refl _) _)
        have HBA : Hid (Below w.heap.size w (wr.alloc (.cells #[.int .i64 0, .int .i64 0, .bool true, .bool true] 24))) := HBW.out.alloc HBW.out.size _
        have HGW : Hid (w.heap.size ≤ wr.heap.size) := HBW.out.size
        clear HBW HL
        go_wp2_with fail
        refine (digits_any (F + 1) F (by omega) hF _).mono ?_
        rintro e w9 ⟨rfl, hb9⟩
        rw [show Lib.decDigits F = A from HA.out.symm]
        replace HG := hid (HG.out.below hb9)
        replace HLL := hid (HLL.out.below hb9)
        replace HBA := hid (bel HBA.out hb9)
        obtain ⟨⟨c0, c1, c2, c3⟩, f0, f1, f2, f3⟩ := HG.out.facts
        clear hb9
        have HG2 : Hid (SpnC.T4 (w9.setCell ⟨wr.heap.size, 0, none⟩ (.int .i64 (F : Int))) wr.heap.size (.int .i64 (F : Int)) (.int .i64 0) (.bool true) (.bool true)) := T4s0 HG.out _
        have HL2 : Hid (Loc (w9.setCell ⟨wr.heap.size, 0, none⟩ (.int .i64 (F : Int))) (w1.heap.size + 1) x 4) := HLL.out.other (by have := HLt.out; omega)
        have HB2 : Hid (Below w.heap.size w (w9.setCell ⟨wr.heap.size, 0, none⟩ (.int .i64 (F : Int)))) := HBA.out.setCell (by show w.heap.size ≤ wr.heap.size; exact HGW.out) _
        clear HG HLL HBA
        go_wp2_with fail
        refine (digits_any (T + 1) T (by omega) hT _).mono ?_
        rintro e w8 ⟨rfl, hb8⟩
        rw [show Lib.decDigits T = B from HB.out.symm]
        have HG := hid (HG2.out.below hb8)
        have HLL := hid (HL2.out.below hb8)
        have HBA := hid (bel HB2.out hb8)
        clear HG2 HL2 HB2 hb8 c0 c1 c2 c3 f0 f1 f2 f3
        obtain ⟨⟨c0, c1, c2, c3⟩, f0, f1, f2, f3⟩ := HG.out.facts
        have HG3 : Hid (SpnC.T4 (w8.setCell ⟨wr.heap.size, 1, none⟩ (.int .i64 (T : Int))) wr.heap.size (.int .i64 (F : Int)) (.int .i64 (T : Int)) (.bool true) (.bool true)) := T4s1 HG.out _
        have HL3 : Hid (Loc (w8.setCell ⟨wr.heap.size, 1, none⟩ (.int .i64 (T : Int))) (w1.heap.size + 1) x 4) := HLL.out.other (by have := HLt.out; omega)
        have HB3 : Hid (Below w.heap.size w (w8.setCell ⟨wr.heap.size, 1, none⟩ (.int .i64 (T : Int)))) := HBA.out.setCell (by show w.heap.size ≤ wr.heap.size; exact HGW.out) _
        have hne : w1.heap.size + 1 ≠ wr.heap.size := by have := HLt.out; omega
        have hne' : wr.heap.size ≠ w1.heap.size + 1 := by have := HLt.out; omega
        have d0 := (HLL.out.facts 0 (by omega)).1
        rw [if_pos (by omega), (HX4.out).1] at d0
        have d1 := (HLL.out.facts 1 (by omega)).1
        rw [if_pos (by omega), (HX4.out).2.1] at d1
        have d2 := (HLL.out.facts 2 (by omega)).1
        rw [if_pos (by omega), (HX4.out).2.2.1] at d2
        have d3 := (HLL.out.facts 3 (by omega)).1
        rw [if_pos (by omega), (HX4.out).2.2.2] at d3
        go_wp2_with fail
        refine (SpnC.parse_any (strOf s8) _ (by rw [size_strOf]; omega)).mono ?_
        rintro e y1 ⟨rfl, hy1⟩
        rw [show says (strOf s8).data.toList = _ from HS8.out]
        have HG5 := hid (HG3.out.below hy1)
        have HB5 := hid (bel HB3.out hy1)
        clear hy1 c0 c1 c2 c3 f0 f1 f2 f3 d0 d1 d2 d3
        go_wp2_with fail
        refine (SpnC.parse_any (strOf sA) _ (by rw [size_strOf]; omega)).mono ?_
        rintro e y2 ⟨rfl, hy2⟩
        obtain ⟨pa, pb, pc, pd, hp⟩ : ∃ pa pb pc pd, says sA = (pa, pb, pc, pd, false) := ⟨_, _, _, _, by rw [← HSA.out]⟩
        rw [show says (strOf sA).data.toList = (pa, pb, pc, pd, false) from hp]
        have HR6 : Hid (SpnC.T4 y2 y1.heap.size (.int .i64 (F : Int)) (.int .i64 (T : Int)) (.bool true) (.bool true)) := SpnC.T4.below (heap_alloc_new y1 _) hy2
        have HG6 : Hid (SpnC.T4 y2 wr.heap.size (.int .i64 (F : Int)) (.int .i64 (T : Int)) (.bool true) (.bool true)) := (HG5.out.below ((Below.refl _ _).alloc (Nat.le_refl _) _)).below hy2
        have HB6 := hid (bel (HB5.out.alloc HB5.out.size (.cells #[.int .i64 (F : Int), .int .i64 (T : Int), .bool true, .bool true] 24)) hy2)
        have HY1 := hid HG5.out.lt
        clear hy2 hp HG5 HB5
        go_wp2_with fail
        refine (SpnC.parse_any (strOf sB) _ (by rw [size_strOf]; omega)).mono ?_
        rintro e y3 ⟨rfl, hy3⟩
        obtain ⟨qa, qb, qc, qd, hp⟩ : ∃ pa pb pc pd, says sB = (pa, pb, pc, pd, false) := ⟨_, _, _, _, by rw [← HSB.out]⟩
        rw [show says (strOf sB).data.toList = (qa, qb, qc, qd, false) from hp]
        have HR7 : Hid (SpnC.T4 y3 y1.heap.size (.int .i64 (F : Int)) (.int .i64 (T : Int)) (.bool true) (.bool true)) := (HR6.out.below ((Below.refl _ _).alloc (Nat.le_refl _) _)).below hy3
        have HG7 : Hid (SpnC.T4 y3 wr.heap.size (.int .i64 (F : Int)) (.int .i64 (T : Int)) (.bool true) (.bool true)) := (HG6.out.below ((Below.refl _ _).alloc (Nat.le_refl _) _)).below hy3
        have HB7 := hid (bel (HB6.out.alloc HB6.out.size (.cells #[.int .i64 pa, .int .i64 pb, .bool pc, .bool pd] 24)) hy3)
        clear hy3 hp HR6 HG6 HB6
        obtain ⟨⟨c0, c1, c2, c3⟩, f0, f1, f2, f3⟩ := HR7.out.facts
        obtain ⟨⟨d0, d1, d2, d3⟩, g0, g1, g2, g3⟩ := HG7.out.facts
        have hy1 := HR7.out.lt
        have hy2 := HG7.out.lt
        clear f0 f1 f2 f3 g0 g1 g2 g3
        have k1 : y1.heap.size ≠ y3.heap.size := by omega
        have k2 : wr.heap.size ≠ y3.heap.size := by omega
        go_wp2_with fail
        go_ret
        exact ⟨rfl, HB7.out.alloc HB7.out.size _⟩
end Go.Proofs.YtiencfgmdikepaaDoor.Laws
