/- The laws' 'awake' of layer 20 answers true; what a range means, in plain words. -/
import Derived.Test.YtiencfgmdikepaaDoorSpnD
import Derived.Lib.SmallJoins
namespace Go.Proofs.YtiencfgmdikepaaDoor.SpnE
open Go.RowKit Go.Proofs.YtiencfgmdikepaaDoor.Base Go.Proofs.YtiencfgmdikepaaDoor.Base2 Go.Proofs.YtiencfgmdikepaaDoor.SpnP Go.Proofs.YtiencfgmdikepaaDoor.SpnA Go.Proofs.YtiencfgmdikepaaDoor.SpnB

theorem of_ok (F T : Int) (hf ht : Bool) (n : Int) (h : (ofB F T hf ht n).2.2 = true) : 0 ≤ (ofB F T hf ht n).1 ∧ (ofB F T hf ht n).1 ≤ (ofB F T hf ht n).2.1 ∧ (ofB F T hf ht n).2.1 < n ∧ (hf = true → (ofB F T hf ht n).1 = F) ∧ (hf = true → ht = true → (ofB F T hf ht n).2.1 ≤ T) ∧ (hf = false → (ofB F T hf ht n).2.1 = n - 1 ∧ (ofB F T hf ht n).2.1 - (ofB F T hf ht n).1 < T) := by
  revert h
  unfold ofB
  cases hf <;> cases ht
  all_goals
    (repeat' split)
    all_goals simp_all
    all_goals omega
theorem of_no (F T : Int) (hf ht : Bool) (n : Int) (h : (ofB F T hf ht n).2.2 = false) : (ofB F T hf ht n).1 = 0 ∧ (ofB F T hf ht n).2.1 = 0 := by
  revert h
  unfold ofB
  (repeat' split) <;> simp
theorem of_at (F T : Int) (hf ht : Bool) (n k : Int) (hk : 0 ≤ k) (hn : k < n) : at_ F T hf ht k n = ((ofB F T hf ht n).2.2 && decide ((ofB F T hf ht n).1 ≤ k) && decide (k ≤ (ofB F T hf ht n).2.1)) := by
  have q0 : decide (k < 0) = false := by simp; omega
  have q1 : decide (n ≤ k) = false := by simp; omega
  unfold at_ ofB
  rw [q0, q1, Bool.eq_iff_iff]
  cases hf <;> cases ht
  all_goals
    (repeat' split)
    all_goals simp_all
    all_goals omega
theorem dig2 : Lib.decDigits 2 = [50] := by rw [Lib.decDigits, dif_pos (by omega)]; rfl
set_option maxRecDepth 100000 in
theorem print_two (F : Int) (w : World) : Calls Tryd.prog 14 #[.agg #[.int .i64 F, .int .i64 2, .bool false, .bool true]] w fun e w' => e = .returned (.string (strOf [98, 121, 116, 101, 115, 61, 45, 50])) ∧ Below w.heap.size w w' := by
  have ha1 := str_add (P := Tryd.prog) [98, 121, 116, 101, 115, 61] [45]
  have hcon := fun w => Tryd.strconv_FormatInt_10_small 2 (by omega) w
  rw [dig2] at hcon
  have HC := hid hcon
  clear hcon
  have a1 : ∀ w, (Op.stringOp .add ⟨#[98, 121, 116, 101, 115, 61]⟩ ⟨#[45]⟩).run Tryd.prog w = .ok (.string (strOf [98, 121, 116, 101, 115, 61, 45])) w := fun w => str_add (P := Tryd.prog) [98, 121, 116, 101, 115, 61] [45] w (by decide)
  have a2 : ∀ w, (Op.stringOp .add (strOf [98, 121, 116, 101, 115, 61, 45]) (strOf [50])).run Tryd.prog w = .ok (.string (strOf [98, 121, 116, 101, 115, 61, 45, 50])) w := fun w => str_add (P := Tryd.prog) [98, 121, 116, 101, 115, 61, 45] [50] w (by decide)
  clear ha1
  obtain ⟨X, hX⟩ : ∃ X, X = strOf [98, 121, 116, 101, 115, 61, 45] := ⟨_, rfl⟩
  obtain ⟨Y, hY⟩ : ∃ X, X = strOf [98, 121, 116, 101, 115, 61, 45, 50] := ⟨_, rfl⟩
  obtain ⟨Z, hZ⟩ : ∃ X, X = strOf [50] := ⟨_, rfl⟩
  rw [← hX] at a1 a2
  rw [← hY, ← hZ] at a2
  rw [← hY]
  have HZ := hid hZ
  clear hX hY hZ
  go_enter Tryd.func14, Tryd.ntmps14
  go_wp2_with fail
  refine (HC.out _).mono ?_
  rintro e w1 ⟨rfl, rfl⟩
  rw [show (⟨([50] : List UInt8).toArray⟩ : ByteArray) = Z from HZ.out.symm]
  go_wp2_with fail
  go_ret
  exact ⟨rfl, (Below.refl _ _).alloc (Nat.le_refl _) _⟩
set_option maxRecDepth 100000 in
set_option maxHeartbeats 1000000 in
theorem awake_any (w : World) : Calls Tryd.prog 9 #[] w fun e w' => e = .returned (.bool true) ∧ Below w.heap.size w w' := by
  have HS : Hid (says [98, 121, 116, 101, 115, 61, 45, 50] = (0, 2, false, true, true)) := by show _ = _; decide
  have HO : Hid (ofB 0 2 false true 5 = (3, 4, true)) := by show _ = _; decide
  have e1 : ((strOf [98, 121, 116, 101, 115, 61, 45, 50]).toList == [98, 121, 116, 101, 115, 61, 45, 50]) = true := by rw [strOf, ByteArray.toList_mk]; decide
  go_enter Tryd.func9, Tryd.ntmps9
  go_wp2_with fail
  refine (SpnC.parse_any (strOf [98, 121, 116, 101, 115, 61, 45, 50]) _ (by decide)).mono ?_
  rintro e w1 ⟨rfl, hb1⟩
  rw [show says (strOf [98, 121, 116, 101, 115, 61, 45, 50]).data.toList = (0, 2, false, true, true) from HS.out]
  go_wp2_with fail
  refine (of_any 0 2 false true 5 _ (by omega) (by omega) (by omega)).mono ?_
  rintro e w2 ⟨rfl, hb2⟩
  rw [HO.out]
  have hT : SpnC.T4 w2 w1.heap.size (.int .i64 0) (.int .i64 2) (.bool false) (.bool true) := SpnC.T4.below (heap_alloc_new w1 _) hb2
  obtain ⟨⟨c0, c1, c2, c3⟩, f0, f1, f2, f3⟩ := hT.facts
  clear hT f0 f1 f2 f3
  go_wp2_with fail
  refine (print_two 0 _).mono ?_
  rintro e w3 ⟨rfl, hb3⟩
  go_wp2_with fail
  go_ret
  exact ⟨rfl, bel ((hb1.alloc hb1.size _).trans (hb2.mono (by have := hb1.size; simp; omega))) hb3⟩
end Go.Proofs.YtiencfgmdikepaaDoor.SpnE
