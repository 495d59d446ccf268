/- Contract of the document's own In: the same, for every type and every number. -/
import Derived.Test.YtbkobobnbdblbaaGrpB
namespace Go.Proofs.Ytbkobobnbdblbaa.GrpD
open Go.RowKit Go.Proofs.Ytbkobobnbdblbaa.Base Go.Proofs.Ytbkobobnbdblbaa.Base2 Go.Proofs.Ytbkobobnbdblbaa.GrpP Go.Proofs.Ytbkobobnbdblbaa.GrpA Go.Proofs.Ytbkobobnbdblbaa.GrpB

def scells (l : List (List UInt8)) : List Value := l.map fun x => Value.string (strOf x)
theorem rds_strs (w : World) (l : List (List UInt8)) (t : TypeId) (mk : Nat × Nat) (B n : Nat) (hB : w.heap.size = B) (hn : l.length = n) : Rds (w.alloc (.cells (scells l).toArray t mk)) (some ⟨B, 0, none⟩) n (l.map fun x => Value.string (strOf x)) := by
  subst hB
  refine Rds.of_spot (by simpa using hn) (by simp) (fun j hj => ?_)
  rw [Nat.zero_add, World.cell?_alloc_mark]
  have hj' : j < l.length := by simpa using hj
  simp [scells, hj']
set_option maxRecDepth 100000 in
set_option maxHeartbeats 4000000 in
theorem ref_0 (T S : ByteArray) (sa : Option Addr) (sn sc : Nat) (w : World) (hT : T.size ≤ 140737488351232) (hS : S.size ≤ 140737488351232) :
    Calls Try.prog 9 #[.int .i64 0, .agg #[.string T, .string S, .slice sa sn sc]] w fun e w' => e = .returned (.bool (rB 0 T.data.toList S.data.toList)) ∧ Below w.heap.size w w' := by
  have a1 : ∀ w, (Op.stringOp .add T ⟨#[47]⟩).run Try.prog w = .ok (.string (strOf (T.data.toList ++ [47]))) w := fun w => str_add' T ⟨#[47]⟩ w (by show T.size + 1 ≤ _; omega)
  have a2 : ∀ w, (Op.stringOp .add (strOf (T.data.toList ++ [47])) S).run Try.prog w = .ok (.string (strOf (ess T.data.toList S.data.toList))) w := fun w => by
    have := str_add' (P := Try.prog) (strOf (T.data.toList ++ [47])) S w (by rw [size_strOf, List.length_append, dlen]; simp; omega)
    rw [this]
    unfold ess
    rw [show (strOf (T.data.toList ++ [47])).data.toList = T.data.toList ++ [47] from rfl, List.append_assoc]
    rfl
  obtain ⟨X, hX⟩ : ∃ X, X = strOf (T.data.toList ++ [47]) := ⟨_, rfl⟩
  rw [← hX] at a1 a2
  clear hX
  obtain ⟨E, hE⟩ : ∃ E, E = ess T.data.toList S.data.toList := ⟨_, rfl⟩
  rw [← hE] at a2
  obtain ⟨b0, hb0⟩ : ∃ b, (T.data.toList == [105, 109, 97, 103, 101]) = b := ⟨_, rfl⟩
  have q0 := (beq_data T [105, 109, 97, 103, 101]).trans hb0
  have HV : Hid (rB 0 T.data.toList S.data.toList = (b0)) := by
    show _ = _
    unfold rB
    rw [if_pos rfl]
    simp only [hb0]
  clear hE hb0
  have hcase : (b0 = true) ∨ (b0 = false) := by clear HV; cases b0 <;> simp
  rcases hcase with rfl | rfl
  · go_enter Try.func9, Try.ntmps9
    go_wp2_with fail
    go_ret
    rw [HV.out]
    refine ⟨by first | rfl | simp, ?_⟩
    repeat (refine Below.alloc ?_ (by simp <;> omega) _)
    exact Below.refl _ _
  · go_enter Try.func9, Try.ntmps9
    go_wp2_with fail
    go_ret
    rw [HV.out]
    refine ⟨by first | rfl | simp, ?_⟩
    repeat (refine Below.alloc ?_ (by simp <;> omega) _)
    exact Below.refl _ _
set_option maxRecDepth 100000 in
set_option maxHeartbeats 4000000 in
theorem ref_1 (T S : ByteArray) (sa : Option Addr) (sn sc : Nat) (w : World) (hT : T.size ≤ 140737488351232) (hS : S.size ≤ 140737488351232) :
    Calls Try.prog 9 #[.int .i64 1, .agg #[.string T, .string S, .slice sa sn sc]] w fun e w' => e = .returned (.bool (rB 1 T.data.toList S.data.toList)) ∧ Below w.heap.size w w' := by
  have a1 : ∀ w, (Op.stringOp .add T ⟨#[47]⟩).run Try.prog w = .ok (.string (strOf (T.data.toList ++ [47]))) w := fun w => str_add' T ⟨#[47]⟩ w (by show T.size + 1 ≤ _; omega)
  have a2 : ∀ w, (Op.stringOp .add (strOf (T.data.toList ++ [47])) S).run Try.prog w = .ok (.string (strOf (ess T.data.toList S.data.toList))) w := fun w => by
    have := str_add' (P := Try.prog) (strOf (T.data.toList ++ [47])) S w (by rw [size_strOf, List.length_append, dlen]; simp; omega)
    rw [this]
    unfold ess
    rw [show (strOf (T.data.toList ++ [47])).data.toList = T.data.toList ++ [47] from rfl, List.append_assoc]
    rfl
  obtain ⟨X, hX⟩ : ∃ X, X = strOf (T.data.toList ++ [47]) := ⟨_, rfl⟩
  rw [← hX] at a1 a2
  clear hX
  obtain ⟨E, hE⟩ : ∃ E, E = ess T.data.toList S.data.toList := ⟨_, rfl⟩
  rw [← hE] at a2
  obtain ⟨b0, hb0⟩ : ∃ b, (T.data.toList == [97, 117, 100, 105, 111]) = b := ⟨_, rfl⟩
  have q0 := (beq_data T [97, 117, 100, 105, 111]).trans hb0
  obtain ⟨b1, hb1⟩ : ∃ b, (T.data.toList == [118, 105, 100, 101, 111]) = b := ⟨_, rfl⟩
  have q1 := (beq_data T [118, 105, 100, 101, 111]).trans hb1
  obtain ⟨b2, hb2⟩ : ∃ b, (E == [97, 112, 112, 108, 105, 99, 97, 116, 105, 111, 110, 47, 111, 103, 103]) = b := ⟨_, rfl⟩
  have q2 := (beq_str E [97, 112, 112, 108, 105, 99, 97, 116, 105, 111, 110, 47, 111, 103, 103]).trans hb2
  have HV : Hid (rB 1 T.data.toList S.data.toList = (b0 || b1 || b2)) := by
    show _ = _
    unfold rB
    rw [if_neg (by decide), if_pos rfl, ← hE]
    simp only [hb0, hb1, hb2]
  clear hE hb0 hb1 hb2
  have hcase : (b0 = true) ∨ (b0 = false ∧ b1 = true) ∨ (b0 = false ∧ b1 = false) := by clear HV; cases b0 <;> cases b1 <;> cases b2 <;> simp
  rcases hcase with rfl | ⟨rfl, rfl⟩ | ⟨rfl, rfl⟩
  · go_enter Try.func9, Try.ntmps9
    go_wp2_with fail
    go_ret
    rw [HV.out]
    refine ⟨by first | rfl | simp, ?_⟩
    repeat (refine Below.alloc ?_ (by simp <;> omega) _)
    exact Below.refl _ _
  · go_enter Try.func9, Try.ntmps9
    go_wp2_with fail
    go_ret
    rw [HV.out]
    refine ⟨by first | rfl | simp, ?_⟩
    repeat (refine Below.alloc ?_ (by simp <;> omega) _)
    exact Below.refl _ _
  · go_enter Try.func9, Try.ntmps9
    go_wp2_with fail
    go_ret
    rw [HV.out]
    refine ⟨by first | rfl | simp, ?_⟩
    repeat (refine Below.alloc ?_ (by simp <;> omega) _)
    exact Below.refl _ _
set_option maxRecDepth 100000 in
set_option maxHeartbeats 4000000 in
theorem ref_2 (T S : ByteArray) (sa : Option Addr) (sn sc : Nat) (w : World) (hT : T.size ≤ 140737488351232) (hS : S.size ≤ 140737488351232) :
    Calls Try.prog 9 #[.int .i64 2, .agg #[.string T, .string S, .slice sa sn sc]] w fun e w' => e = .returned (.bool (rB 2 T.data.toList S.data.toList)) ∧ Below w.heap.size w w' := by
  have a1 : ∀ w, (Op.stringOp .add T ⟨#[47]⟩).run Try.prog w = .ok (.string (strOf (T.data.toList ++ [47]))) w := fun w => str_add' T ⟨#[47]⟩ w (by show T.size + 1 ≤ _; omega)
  have a2 : ∀ w, (Op.stringOp .add (strOf (T.data.toList ++ [47])) S).run Try.prog w = .ok (.string (strOf (ess T.data.toList S.data.toList))) w := fun w => by
    have := str_add' (P := Try.prog) (strOf (T.data.toList ++ [47])) S w (by rw [size_strOf, List.length_append, dlen]; simp; omega)
    rw [this]
    unfold ess
    rw [show (strOf (T.data.toList ++ [47])).data.toList = T.data.toList ++ [47] from rfl, List.append_assoc]
    rfl
  obtain ⟨X, hX⟩ : ∃ X, X = strOf (T.data.toList ++ [47]) := ⟨_, rfl⟩
  rw [← hX] at a1 a2
  clear hX
  obtain ⟨E, hE⟩ : ∃ E, E = ess T.data.toList S.data.toList := ⟨_, rfl⟩
  rw [← hE] at a2
  obtain ⟨b0, hb0⟩ : ∃ b, (T.data.toList == [102, 111, 110, 116]) = b := ⟨_, rfl⟩
  have q0 := (beq_data T [102, 111, 110, 116]).trans hb0
  obtain ⟨b1, hb1⟩ : ∃ b, (T.data.toList == [97, 112, 112, 108, 105, 99, 97, 116, 105, 111, 110]) = b := ⟨_, rfl⟩
  have q1 := (beq_data T [97, 112, 112, 108, 105, 99, 97, 116, 105, 111, 110]).trans hb1
  obtain ⟨b2, hb2⟩ : ∃ b, oneB S.data.toList [102, 111, 110, 116, 45] [[99, 102, 102], [111, 102, 102], [115, 102, 110, 116], [116, 116, 102], [119, 111, 102, 102]] = b := ⟨_, rfl⟩
  have H2 := hid hb2
  simp only [oneB, List.any_cons, List.any_nil, Bool.or_false, List.cons_append, List.nil_append] at hb2
  obtain ⟨b3, hb3⟩ : ∃ b, oneB S.data.toList [118, 110, 100, 46, 109, 115, 45] [[102, 111, 110, 116, 111, 98, 106, 101, 99, 116], [111, 112, 101, 110, 116, 121, 112, 101]] = b := ⟨_, rfl⟩
  have H3 := hid hb3
  simp only [oneB, List.any_cons, List.any_nil, Bool.or_false, List.cons_append, List.nil_append] at hb3
  have HV : Hid (rB 2 T.data.toList S.data.toList = (b0 || b1 && (b2 || b3))) := by
    show _ = _
    unfold rB
    rw [if_neg (by decide), if_neg (by decide), if_pos rfl]
    simp only [hb0, hb1, hb2, hb3]
  clear hE hb0 hb1 hb2 hb3
  have hcase : (b0 = true) ∨ (b0 = false ∧ b1 = false) ∨ (b0 = false ∧ b1 = true ∧ b2 = true) ∨ (b0 = false ∧ b1 = true ∧ b2 = false) := by clear HV; cases b0 <;> cases b1 <;> cases b2 <;> cases b3 <;> simp
  rcases hcase with rfl | ⟨rfl, rfl⟩ | ⟨rfl, rfl, rfl⟩ | ⟨rfl, rfl, rfl⟩
  · go_enter Try.func9, Try.ntmps9
    go_wp2_with fail
    go_ret
    rw [HV.out]
    refine ⟨by first | rfl | simp, ?_⟩
    repeat (refine Below.alloc ?_ (by simp <;> omega) _)
    exact Below.refl _ _
  · go_enter Try.func9, Try.ntmps9
    go_wp2_with fail
    go_ret
    rw [HV.out]
    refine ⟨by first | rfl | simp, ?_⟩
    repeat (refine Below.alloc ?_ (by simp <;> omega) _)
    exact Below.refl _ _
  · go_enter Try.func9, Try.ntmps9
    go_wp2_with fail
    refine (one_any S [102, 111, 110, 116, 45] _ 5 5 [[99, 102, 102], [111, 102, 102], [115, 102, 110, 116], [116, 116, 102], [119, 111, 102, 102]] _ (rds_strs _ [[99, 102, 102], [111, 102, 102], [115, 102, 110, 116], [116, 116, 102], [119, 111, 102, 102]] _ _ _ _ (by simp) rfl) (by decide) (by decide) (by decide)).mono ?_
    rintro e w9 ⟨rfl, rfl⟩
    rw [H2.out]
    go_wp2_with fail
    go_ret
    rw [HV.out]
    refine ⟨by first | rfl | simp, ?_⟩
    repeat (refine Below.alloc ?_ (by simp <;> omega) _)
    exact Below.refl _ _
  · go_enter Try.func9, Try.ntmps9
    go_wp2_with fail
    refine (one_any S [102, 111, 110, 116, 45] _ 5 5 [[99, 102, 102], [111, 102, 102], [115, 102, 110, 116], [116, 116, 102], [119, 111, 102, 102]] _ (rds_strs _ [[99, 102, 102], [111, 102, 102], [115, 102, 110, 116], [116, 116, 102], [119, 111, 102, 102]] _ _ _ _ (by simp) rfl) (by decide) (by decide) (by decide)).mono ?_
    rintro e w9 ⟨rfl, rfl⟩
    rw [H2.out]
    go_wp2_with fail
    refine (one_any S [118, 110, 100, 46, 109, 115, 45] _ 2 2 [[102, 111, 110, 116, 111, 98, 106, 101, 99, 116], [111, 112, 101, 110, 116, 121, 112, 101]] _ (rds_strs _ [[102, 111, 110, 116, 111, 98, 106, 101, 99, 116], [111, 112, 101, 110, 116, 121, 112, 101]] _ _ _ _ (by simp) rfl) (by decide) (by decide) (by decide)).mono ?_
    rintro e w9 ⟨rfl, rfl⟩
    rw [H3.out]
    go_wp2_with fail
    go_ret
    rw [HV.out]
    refine ⟨by first | rfl | simp, ?_⟩
    repeat (refine Below.alloc ?_ (by simp <;> omega) _)
    exact Below.refl _ _
set_option maxRecDepth 100000 in
set_option maxHeartbeats 4000000 in
theorem ref_3 (T S : ByteArray) (sa : Option Addr) (sn sc : Nat) (w : World) (hT : T.size ≤ 140737488351232) (hS : S.size ≤ 140737488351232) :
    Calls Try.prog 9 #[.int .i64 3, .agg #[.string T, .string S, .slice sa sn sc]] w fun e w' => e = .returned (.bool (rB 3 T.data.toList S.data.toList)) ∧ Below w.heap.size w w' := by
  have a1 : ∀ w, (Op.stringOp .add T ⟨#[47]⟩).run Try.prog w = .ok (.string (strOf (T.data.toList ++ [47]))) w := fun w => str_add' T ⟨#[47]⟩ w (by show T.size + 1 ≤ _; omega)
  have a2 : ∀ w, (Op.stringOp .add (strOf (T.data.toList ++ [47])) S).run Try.prog w = .ok (.string (strOf (ess T.data.toList S.data.toList))) w := fun w => by
    have := str_add' (P := Try.prog) (strOf (T.data.toList ++ [47])) S w (by rw [size_strOf, List.length_append, dlen]; simp; omega)
    rw [this]
    unfold ess
    rw [show (strOf (T.data.toList ++ [47])).data.toList = T.data.toList ++ [47] from rfl, List.append_assoc]
    rfl
  obtain ⟨X, hX⟩ : ∃ X, X = strOf (T.data.toList ++ [47]) := ⟨_, rfl⟩
  rw [← hX] at a1 a2
  clear hX
  obtain ⟨E, hE⟩ : ∃ E, E = ess T.data.toList S.data.toList := ⟨_, rfl⟩
  rw [← hE] at a2
  obtain ⟨b0, hb0⟩ : ∃ b, suf [43, 122, 105, 112] S.data.toList = b := ⟨_, rfl⟩
  have H0 := hid hb0
  obtain ⟨b1, hb1⟩ : ∃ b, (T.data.toList == [97, 112, 112, 108, 105, 99, 97, 116, 105, 111, 110]) = b := ⟨_, rfl⟩
  have q1 := (beq_data T [97, 112, 112, 108, 105, 99, 97, 116, 105, 111, 110]).trans hb1
  obtain ⟨b2, hb2⟩ : ∃ b, (S.data.toList == [122, 105, 112]) = b := ⟨_, rfl⟩
  have q2 := (beq_data S [122, 105, 112]).trans hb2
  have HV : Hid (rB 3 T.data.toList S.data.toList = (b0 || b1 && b2)) := by
    show _ = _
    unfold rB
    rw [if_neg (by decide), if_neg (by decide), if_neg (by decide), if_pos rfl]
    simp only [hb0, hb1, hb2]
  clear hE hb0 hb1 hb2
  have hcase : (b0 = true) ∨ (b0 = false ∧ b1 = false) ∨ (b0 = false ∧ b1 = true) := by clear HV; cases b0 <;> cases b1 <;> cases b2 <;> simp
  rcases hcase with rfl | ⟨rfl, rfl⟩ | ⟨rfl, rfl⟩
  · go_enter Try.func9, Try.ntmps9
    go_wp2_with fail
    refine (ends_any S [43, 122, 105, 112] _ hS (by decide)).mono ?_
    rintro e w9 ⟨rfl, rfl⟩
    rw [H0.out]
    go_wp2_with fail
    go_ret
    rw [HV.out]
    refine ⟨by first | rfl | simp, ?_⟩
    repeat (refine Below.alloc ?_ (by simp <;> omega) _)
    exact Below.refl _ _
  · go_enter Try.func9, Try.ntmps9
    go_wp2_with fail
    refine (ends_any S [43, 122, 105, 112] _ hS (by decide)).mono ?_
    rintro e w9 ⟨rfl, rfl⟩
    rw [H0.out]
    go_wp2_with fail
    go_ret
    rw [HV.out]
    refine ⟨by first | rfl | simp, ?_⟩
    repeat (refine Below.alloc ?_ (by simp <;> omega) _)
    exact Below.refl _ _
  · go_enter Try.func9, Try.ntmps9
    go_wp2_with fail
    refine (ends_any S [43, 122, 105, 112] _ hS (by decide)).mono ?_
    rintro e w9 ⟨rfl, rfl⟩
    rw [H0.out]
    go_wp2_with fail
    go_ret
    rw [HV.out]
    refine ⟨by first | rfl | simp, ?_⟩
    repeat (refine Below.alloc ?_ (by simp <;> omega) _)
    exact Below.refl _ _
set_option maxRecDepth 100000 in
set_option maxHeartbeats 4000000 in
theorem ref_4 (T S : ByteArray) (sa : Option Addr) (sn sc : Nat) (w : World) (hT : T.size ≤ 140737488351232) (hS : S.size ≤ 140737488351232) :
    Calls Try.prog 9 #[.int .i64 4, .agg #[.string T, .string S, .slice sa sn sc]] w fun e w' => e = .returned (.bool (rB 4 T.data.toList S.data.toList)) ∧ Below w.heap.size w w' := by
  have a1 : ∀ w, (Op.stringOp .add T ⟨#[47]⟩).run Try.prog w = .ok (.string (strOf (T.data.toList ++ [47]))) w := fun w => str_add' T ⟨#[47]⟩ w (by show T.size + 1 ≤ _; omega)
  have a2 : ∀ w, (Op.stringOp .add (strOf (T.data.toList ++ [47])) S).run Try.prog w = .ok (.string (strOf (ess T.data.toList S.data.toList))) w := fun w => by
    have := str_add' (P := Try.prog) (strOf (T.data.toList ++ [47])) S w (by rw [size_strOf, List.length_append, dlen]; simp; omega)
    rw [this]
    unfold ess
    rw [show (strOf (T.data.toList ++ [47])).data.toList = T.data.toList ++ [47] from rfl, List.append_assoc]
    rfl
  obtain ⟨X, hX⟩ : ∃ X, X = strOf (T.data.toList ++ [47]) := ⟨_, rfl⟩
  rw [← hX] at a1 a2
  clear hX
  obtain ⟨E, hE⟩ : ∃ E, E = ess T.data.toList S.data.toList := ⟨_, rfl⟩
  rw [← hE] at a2
  obtain ⟨b0, hb0⟩ : ∃ b, (T.data.toList == [97, 112, 112, 108, 105, 99, 97, 116, 105, 111, 110]) = b := ⟨_, rfl⟩
  have q0 := (beq_data T [97, 112, 112, 108, 105, 99, 97, 116, 105, 111, 110]).trans hb0
  obtain ⟨b1, hb1⟩ : ∃ b, oneB S.data.toList [] [[120, 45, 114, 97, 114, 45, 99, 111, 109, 112, 114, 101, 115, 115, 101, 100], [122, 105, 112], [120, 45, 103, 122, 105, 112]] = b := ⟨_, rfl⟩
  have H1 := hid hb1
  simp only [oneB, List.any_cons, List.any_nil, Bool.or_false, List.cons_append, List.nil_append] at hb1
  have HV : Hid (rB 4 T.data.toList S.data.toList = (b0 && b1)) := by
    show _ = _
    unfold rB
    rw [if_neg (by decide), if_neg (by decide), if_neg (by decide), if_neg (by decide), if_pos rfl]
    simp only [hb0, hb1]
  clear hE hb0 hb1
  have hcase : (b0 = false) ∨ (b0 = true) := by clear HV; cases b0 <;> cases b1 <;> simp
  rcases hcase with rfl | rfl
  · go_enter Try.func9, Try.ntmps9
    go_wp2_with fail
    go_ret
    rw [HV.out]
    refine ⟨by first | rfl | simp, ?_⟩
    repeat (refine Below.alloc ?_ (by simp <;> omega) _)
    exact Below.refl _ _
  · go_enter Try.func9, Try.ntmps9
    go_wp2_with fail
    refine (one_any S [] _ 3 3 [[120, 45, 114, 97, 114, 45, 99, 111, 109, 112, 114, 101, 115, 115, 101, 100], [122, 105, 112], [120, 45, 103, 122, 105, 112]] _ (rds_strs _ [[120, 45, 114, 97, 114, 45, 99, 111, 109, 112, 114, 101, 115, 115, 101, 100], [122, 105, 112], [120, 45, 103, 122, 105, 112]] _ _ _ _ (by simp) rfl) (by decide) (by decide) (by decide)).mono ?_
    rintro e w9 ⟨rfl, rfl⟩
    rw [H1.out]
    go_wp2_with fail
    go_ret
    rw [HV.out]
    refine ⟨by first | rfl | simp, ?_⟩
    repeat (refine Below.alloc ?_ (by simp <;> omega) _)
    exact Below.refl _ _
set_option maxRecDepth 100000 in
set_option maxHeartbeats 4000000 in
theorem ref_5 (T S : ByteArray) (sa : Option Addr) (sn sc : Nat) (w : World) (hT : T.size ≤ 140737488351232) (hS : S.size ≤ 140737488351232) :
    Calls Try.prog 9 #[.int .i64 5, .agg #[.string T, .string S, .slice sa sn sc]] w fun e w' => e = .returned (.bool (rB 5 T.data.toList S.data.toList)) ∧ Below w.heap.size w w' := by
  have a1 : ∀ w, (Op.stringOp .add T ⟨#[47]⟩).run Try.prog w = .ok (.string (strOf (T.data.toList ++ [47]))) w := fun w => str_add' T ⟨#[47]⟩ w (by show T.size + 1 ≤ _; omega)
  have a2 : ∀ w, (Op.stringOp .add (strOf (T.data.toList ++ [47])) S).run Try.prog w = .ok (.string (strOf (ess T.data.toList S.data.toList))) w := fun w => by
    have := str_add' (P := Try.prog) (strOf (T.data.toList ++ [47])) S w (by rw [size_strOf, List.length_append, dlen]; simp; omega)
    rw [this]
    unfold ess
    rw [show (strOf (T.data.toList ++ [47])).data.toList = T.data.toList ++ [47] from rfl, List.append_assoc]
    rfl
  obtain ⟨X, hX⟩ : ∃ X, X = strOf (T.data.toList ++ [47]) := ⟨_, rfl⟩
  rw [← hX] at a1 a2
  clear hX
  obtain ⟨E, hE⟩ : ∃ E, E = ess T.data.toList S.data.toList := ⟨_, rfl⟩
  rw [← hE] at a2
  obtain ⟨b0, hb0⟩ : ∃ b, suf [43, 120, 109, 108] S.data.toList = b := ⟨_, rfl⟩
  have H0 := hid hb0
  obtain ⟨b1, hb1⟩ : ∃ b, (S.data.toList == [120, 109, 108]) = b := ⟨_, rfl⟩
  have q1 := (beq_data S [120, 109, 108]).trans hb1
  obtain ⟨b2, hb2⟩ : ∃ b, (T.data.toList == [116, 101, 120, 116]) = b := ⟨_, rfl⟩
  have q2 := (beq_data T [116, 101, 120, 116]).trans hb2
  obtain ⟨b3, hb3⟩ : ∃ b, (T.data.toList == [97, 112, 112, 108, 105, 99, 97, 116, 105, 111, 110]) = b := ⟨_, rfl⟩
  have q3 := (beq_data T [97, 112, 112, 108, 105, 99, 97, 116, 105, 111, 110]).trans hb3
  have HV : Hid (rB 5 T.data.toList S.data.toList = (b0 || b1 && (b2 || b3))) := by
    show _ = _
    unfold rB
    rw [if_neg (by decide), if_neg (by decide), if_neg (by decide), if_neg (by decide), if_neg (by decide), if_pos rfl]
    simp only [hb0, hb1, hb2, hb3]
  clear hE hb0 hb1 hb2 hb3
  have hcase : (b0 = true) ∨ (b0 = false ∧ b1 = false) ∨ (b0 = false ∧ b1 = true ∧ b2 = true) ∨ (b0 = false ∧ b1 = true ∧ b2 = false) := by clear HV; cases b0 <;> cases b1 <;> cases b2 <;> cases b3 <;> simp
  rcases hcase with rfl | ⟨rfl, rfl⟩ | ⟨rfl, rfl, rfl⟩ | ⟨rfl, rfl, rfl⟩
  · go_enter Try.func9, Try.ntmps9
    go_wp2_with fail
    refine (ends_any S [43, 120, 109, 108] _ hS (by decide)).mono ?_
    rintro e w9 ⟨rfl, rfl⟩
    rw [H0.out]
    go_wp2_with fail
    go_ret
    rw [HV.out]
    refine ⟨by first | rfl | simp, ?_⟩
    repeat (refine Below.alloc ?_ (by simp <;> omega) _)
    exact Below.refl _ _
  · go_enter Try.func9, Try.ntmps9
    go_wp2_with fail
    refine (ends_any S [43, 120, 109, 108] _ hS (by decide)).mono ?_
    rintro e w9 ⟨rfl, rfl⟩
    rw [H0.out]
    go_wp2_with fail
    go_ret
    rw [HV.out]
    refine ⟨by first | rfl | simp, ?_⟩
    repeat (refine Below.alloc ?_ (by simp <;> omega) _)
    exact Below.refl _ _
  · go_enter Try.func9, Try.ntmps9
    go_wp2_with fail
    refine (ends_any S [43, 120, 109, 108] _ hS (by decide)).mono ?_
    rintro e w9 ⟨rfl, rfl⟩
    rw [H0.out]
    go_wp2_with fail
    go_ret
    rw [HV.out]
    refine ⟨by first | rfl | simp, ?_⟩
    repeat (refine Below.alloc ?_ (by simp <;> omega) _)
    exact Below.refl _ _
  · go_enter Try.func9, Try.ntmps9
    go_wp2_with fail
    refine (ends_any S [43, 120, 109, 108] _ hS (by decide)).mono ?_
    rintro e w9 ⟨rfl, rfl⟩
    rw [H0.out]
    go_wp2_with fail
    go_ret
    rw [HV.out]
    refine ⟨by first | rfl | simp, ?_⟩
    repeat (refine Below.alloc ?_ (by simp <;> omega) _)
    exact Below.refl _ _
set_option maxRecDepth 100000 in
set_option maxHeartbeats 4000000 in
theorem ref_8 (T S : ByteArray) (sa : Option Addr) (sn sc : Nat) (w : World) (hT : T.size ≤ 140737488351232) (hS : S.size ≤ 140737488351232) :
    Calls Try.prog 9 #[.int .i64 8, .agg #[.string T, .string S, .slice sa sn sc]] w fun e w' => e = .returned (.bool (rB 8 T.data.toList S.data.toList)) ∧ Below w.heap.size w w' := by
  have a1 : ∀ w, (Op.stringOp .add T ⟨#[47]⟩).run Try.prog w = .ok (.string (strOf (T.data.toList ++ [47]))) w := fun w => str_add' T ⟨#[47]⟩ w (by show T.size + 1 ≤ _; omega)
  have a2 : ∀ w, (Op.stringOp .add (strOf (T.data.toList ++ [47])) S).run Try.prog w = .ok (.string (strOf (ess T.data.toList S.data.toList))) w := fun w => by
    have := str_add' (P := Try.prog) (strOf (T.data.toList ++ [47])) S w (by rw [size_strOf, List.length_append, dlen]; simp; omega)
    rw [this]
    unfold ess
    rw [show (strOf (T.data.toList ++ [47])).data.toList = T.data.toList ++ [47] from rfl, List.append_assoc]
    rfl
  obtain ⟨X, hX⟩ : ∃ X, X = strOf (T.data.toList ++ [47]) := ⟨_, rfl⟩
  rw [← hX] at a1 a2
  clear hX
  obtain ⟨E, hE⟩ : ∃ E, E = ess T.data.toList S.data.toList := ⟨_, rfl⟩
  rw [← hE] at a2
  obtain ⟨b0, hb0⟩ : ∃ b, suf [43, 106, 115, 111, 110] S.data.toList = b := ⟨_, rfl⟩
  have H0 := hid hb0
  obtain ⟨b1, hb1⟩ : ∃ b, (S.data.toList == [106, 115, 111, 110]) = b := ⟨_, rfl⟩
  have q1 := (beq_data S [106, 115, 111, 110]).trans hb1
  obtain ⟨b2, hb2⟩ : ∃ b, (T.data.toList == [116, 101, 120, 116]) = b := ⟨_, rfl⟩
  have q2 := (beq_data T [116, 101, 120, 116]).trans hb2
  obtain ⟨b3, hb3⟩ : ∃ b, (T.data.toList == [97, 112, 112, 108, 105, 99, 97, 116, 105, 111, 110]) = b := ⟨_, rfl⟩
  have q3 := (beq_data T [97, 112, 112, 108, 105, 99, 97, 116, 105, 111, 110]).trans hb3
  have HV : Hid (rB 8 T.data.toList S.data.toList = (b0 || b1 && (b2 || b3))) := by
    show _ = _
    unfold rB
    rw [if_neg (by decide), if_neg (by decide), if_neg (by decide), if_neg (by decide), if_neg (by decide), if_neg (by decide), if_neg (by decide), if_neg (by decide), if_pos rfl]
    simp only [hb0, hb1, hb2, hb3]
  clear hE hb0 hb1 hb2 hb3
  have hcase : (b0 = true) ∨ (b0 = false ∧ b1 = false) ∨ (b0 = false ∧ b1 = true ∧ b2 = true) ∨ (b0 = false ∧ b1 = true ∧ b2 = false) := by clear HV; cases b0 <;> cases b1 <;> cases b2 <;> cases b3 <;> simp
  rcases hcase with rfl | ⟨rfl, rfl⟩ | ⟨rfl, rfl, rfl⟩ | ⟨rfl, rfl, rfl⟩
  · go_enter Try.func9, Try.ntmps9
    go_wp2_with fail
    refine (ends_any S [43, 106, 115, 111, 110] _ hS (by decide)).mono ?_
    rintro e w9 ⟨rfl, rfl⟩
    rw [H0.out]
    go_wp2_with fail
    go_ret
    rw [HV.out]
    refine ⟨by first | rfl | simp, ?_⟩
    repeat (refine Below.alloc ?_ (by simp <;> omega) _)
    exact Below.refl _ _
  · go_enter Try.func9, Try.ntmps9
    go_wp2_with fail
    refine (ends_any S [43, 106, 115, 111, 110] _ hS (by decide)).mono ?_
    rintro e w9 ⟨rfl, rfl⟩
    rw [H0.out]
    go_wp2_with fail
    go_ret
    rw [HV.out]
    refine ⟨by first | rfl | simp, ?_⟩
    repeat (refine Below.alloc ?_ (by simp <;> omega) _)
    exact Below.refl _ _
  · go_enter Try.func9, Try.ntmps9
    go_wp2_with fail
    refine (ends_any S [43, 106, 115, 111, 110] _ hS (by decide)).mono ?_
    rintro e w9 ⟨rfl, rfl⟩
    rw [H0.out]
    go_wp2_with fail
    go_ret
    rw [HV.out]
    refine ⟨by first | rfl | simp, ?_⟩
    repeat (refine Below.alloc ?_ (by simp <;> omega) _)
    exact Below.refl _ _
  · go_enter Try.func9, Try.ntmps9
    go_wp2_with fail
    refine (ends_any S [43, 106, 115, 111, 110] _ hS (by decide)).mono ?_
    rintro e w9 ⟨rfl, rfl⟩
    rw [H0.out]
    go_wp2_with fail
    go_ret
    rw [HV.out]
    refine ⟨by first | rfl | simp, ?_⟩
    repeat (refine Below.alloc ?_ (by simp <;> omega) _)
    exact Below.refl _ _
set_option maxRecDepth 100000 in
set_option maxHeartbeats 4000000 in
theorem ref_6 (T S : ByteArray) (sa : Option Addr) (sn sc : Nat) (w : World) (hT : T.size ≤ 140737488351232) (hS : S.size ≤ 140737488351232) :
    Calls Try.prog 9 #[.int .i64 6, .agg #[.string T, .string S, .slice sa sn sc]] w fun e w' => e = .returned (.bool (rB 6 T.data.toList S.data.toList)) ∧ Below w.heap.size w w' := by
  have a1 : ∀ w, (Op.stringOp .add T ⟨#[47]⟩).run Try.prog w = .ok (.string (strOf (T.data.toList ++ [47]))) w := fun w => str_add' T ⟨#[47]⟩ w (by show T.size + 1 ≤ _; omega)
  have a2 : ∀ w, (Op.stringOp .add (strOf (T.data.toList ++ [47])) S).run Try.prog w = .ok (.string (strOf (ess T.data.toList S.data.toList))) w := fun w => by
    have := str_add' (P := Try.prog) (strOf (T.data.toList ++ [47])) S w (by rw [size_strOf, List.length_append, dlen]; simp; omega)
    rw [this]
    unfold ess
    rw [show (strOf (T.data.toList ++ [47])).data.toList = T.data.toList ++ [47] from rfl, List.append_assoc]
    rfl
  obtain ⟨X, hX⟩ : ∃ X, X = strOf (T.data.toList ++ [47]) := ⟨_, rfl⟩
  rw [← hX] at a1 a2
  clear hX
  obtain ⟨E, hE⟩ : ∃ E, E = ess T.data.toList S.data.toList := ⟨_, rfl⟩
  rw [← hE] at a2
  obtain ⟨b0, hb0⟩ : ∃ b, (T.data.toList == [116, 101, 120, 116]) = b := ⟨_, rfl⟩
  have q0 := (beq_data T [116, 101, 120, 116]).trans hb0
  obtain ⟨b1, hb1⟩ : ∃ b, (S.data.toList == [104, 116, 109, 108]) = b := ⟨_, rfl⟩
  have q1 := (beq_data S [104, 116, 109, 108]).trans hb1
  have HV : Hid (rB 6 T.data.toList S.data.toList = (b0 && b1)) := by
    show _ = _
    unfold rB
    rw [if_neg (by decide), if_neg (by decide), if_neg (by decide), if_neg (by decide), if_neg (by decide), if_neg (by decide), if_pos rfl]
    simp only [hb0, hb1]
  clear hE hb0 hb1
  have hcase : (b0 = false) ∨ (b0 = true) := by clear HV; cases b0 <;> cases b1 <;> simp
  rcases hcase with rfl | rfl
  · go_enter Try.func9, Try.ntmps9
    go_wp2_with fail
    go_ret
    rw [HV.out]
    refine ⟨by first | rfl | simp, ?_⟩
    repeat (refine Below.alloc ?_ (by simp <;> omega) _)
    exact Below.refl _ _
  · go_enter Try.func9, Try.ntmps9
    go_wp2_with fail
    go_ret
    rw [HV.out]
    refine ⟨by first | rfl | simp, ?_⟩
    repeat (refine Below.alloc ?_ (by simp <;> omega) _)
    exact Below.refl _ _
set_option maxRecDepth 100000 in
set_option maxHeartbeats 4000000 in
theorem ref_9 (T S : ByteArray) (sa : Option Addr) (sn sc : Nat) (w : World) (hT : T.size ≤ 140737488351232) (hS : S.size ≤ 140737488351232) :
    Calls Try.prog 9 #[.int .i64 9, .agg #[.string T, .string S, .slice sa sn sc]] w fun e w' => e = .returned (.bool (rB 9 T.data.toList S.data.toList)) ∧ Below w.heap.size w w' := by
  have a1 : ∀ w, (Op.stringOp .add T ⟨#[47]⟩).run Try.prog w = .ok (.string (strOf (T.data.toList ++ [47]))) w := fun w => str_add' T ⟨#[47]⟩ w (by show T.size + 1 ≤ _; omega)
  have a2 : ∀ w, (Op.stringOp .add (strOf (T.data.toList ++ [47])) S).run Try.prog w = .ok (.string (strOf (ess T.data.toList S.data.toList))) w := fun w => by
    have := str_add' (P := Try.prog) (strOf (T.data.toList ++ [47])) S w (by rw [size_strOf, List.length_append, dlen]; simp; omega)
    rw [this]
    unfold ess
    rw [show (strOf (T.data.toList ++ [47])).data.toList = T.data.toList ++ [47] from rfl, List.append_assoc]
    rfl
  obtain ⟨X, hX⟩ : ∃ X, X = strOf (T.data.toList ++ [47]) := ⟨_, rfl⟩
  rw [← hX] at a1 a2
  clear hX
  obtain ⟨E, hE⟩ : ∃ E, E = ess T.data.toList S.data.toList := ⟨_, rfl⟩
  rw [← hE] at a2
  obtain ⟨b0, hb0⟩ : ∃ b, oneB S.data.toList [] [[101, 99, 109, 97, 115, 99, 114, 105, 112, 116], [106, 97, 118, 97, 115, 99, 114, 105, 112, 116]] = b := ⟨_, rfl⟩
  have H0 := hid hb0
  simp only [oneB, List.any_cons, List.any_nil, Bool.or_false, List.cons_append, List.nil_append] at hb0
  obtain ⟨b1, hb1⟩ : ∃ b, oneB S.data.toList [120, 45] [[101, 99, 109, 97, 115, 99, 114, 105, 112, 116], [106, 97, 118, 97, 115, 99, 114, 105, 112, 116]] = b := ⟨_, rfl⟩
  have H1 := hid hb1
  simp only [oneB, List.any_cons, List.any_nil, Bool.or_false, List.cons_append, List.nil_append] at hb1
  obtain ⟨b2, hb2⟩ : ∃ b, (T.data.toList == [97, 112, 112, 108, 105, 99, 97, 116, 105, 111, 110]) = b := ⟨_, rfl⟩
  have q2 := (beq_data T [97, 112, 112, 108, 105, 99, 97, 116, 105, 111, 110]).trans hb2
  obtain ⟨b3, hb3⟩ : ∃ b, (T.data.toList == [116, 101, 120, 116]) = b := ⟨_, rfl⟩
  have q3 := (beq_data T [116, 101, 120, 116]).trans hb3
  obtain ⟨b4, hb4⟩ : ∃ b, oneB S.data.toList [106, 97, 118, 97, 115, 99, 114, 105, 112, 116, 49, 46] [[48], [49], [50], [51], [52], [53]] = b := ⟨_, rfl⟩
  have H4 := hid hb4
  simp only [oneB, List.any_cons, List.any_nil, Bool.or_false, List.cons_append, List.nil_append] at hb4
  obtain ⟨b5, hb5⟩ : ∃ b, oneB S.data.toList [] [[106, 115, 99, 114, 105, 112, 116], [108, 105, 118, 101, 115, 99, 114, 105, 112, 116]] = b := ⟨_, rfl⟩
  have H5 := hid hb5
  simp only [oneB, List.any_cons, List.any_nil, Bool.or_false, List.cons_append, List.nil_append] at hb5
  have HV : Hid (rB 9 T.data.toList S.data.toList = (if b2 = true then (b0 || b1) else b3 && (b0 || b1 || b4 || b5))) := by
    show _ = _
    unfold rB
    rw [if_neg (by decide), if_neg (by decide), if_neg (by decide), if_neg (by decide), if_neg (by decide), if_neg (by decide), if_neg (by decide), if_neg (by decide), if_neg (by decide), if_pos rfl]
    simp only [hb0, hb1, hb2, hb3, hb4, hb5]
  clear hE hb0 hb1 hb2 hb3 hb4 hb5
  have hcase : (b0 = true ∧ b2 = true) ∨ (b0 = false ∧ b2 = true) ∨ (b0 = true ∧ b2 = false ∧ b3 = false) ∨ (b0 = true ∧ b2 = false ∧ b3 = true) ∨ (b0 = false ∧ b1 = true ∧ b2 = false ∧ b3 = false) ∨ (b0 = false ∧ b1 = true ∧ b2 = false ∧ b3 = true) ∨ (b0 = false ∧ b1 = false ∧ b2 = false ∧ b3 = false) ∨ (b0 = false ∧ b1 = false ∧ b2 = false ∧ b3 = true ∧ b4 = true) ∨ (b0 = false ∧ b1 = false ∧ b2 = false ∧ b3 = true ∧ b4 = false) := by clear HV; cases b0 <;> cases b1 <;> cases b2 <;> cases b3 <;> cases b4 <;> cases b5 <;> simp
  rcases hcase with ⟨rfl, rfl⟩ | ⟨rfl, rfl⟩ | ⟨rfl, rfl, rfl⟩ | ⟨rfl, rfl, rfl⟩ | ⟨rfl, rfl, rfl, rfl⟩ | ⟨rfl, rfl, rfl, rfl⟩ | ⟨rfl, rfl, rfl, rfl⟩ | ⟨rfl, rfl, rfl, rfl, rfl⟩ | ⟨rfl, rfl, rfl, rfl, rfl⟩
  · go_enter Try.func9, Try.ntmps9
    go_wp2_with fail
    refine (one_any S [] _ 2 2 [[101, 99, 109, 97, 115, 99, 114, 105, 112, 116], [106, 97, 118, 97, 115, 99, 114, 105, 112, 116]] _ (rds_strs _ [[101, 99, 109, 97, 115, 99, 114, 105, 112, 116], [106, 97, 118, 97, 115, 99, 114, 105, 112, 116]] _ _ _ _ (by simp) rfl) (by decide) (by decide) (by decide)).mono ?_
    rintro e w9 ⟨rfl, rfl⟩
    rw [H0.out]
    go_wp2_with fail
    go_ret
    rw [HV.out]
    refine ⟨by first | rfl | simp, ?_⟩
    repeat (refine Below.alloc ?_ (by simp <;> omega) _)
    exact Below.refl _ _
  · go_enter Try.func9, Try.ntmps9
    go_wp2_with fail
    refine (one_any S [] _ 2 2 [[101, 99, 109, 97, 115, 99, 114, 105, 112, 116], [106, 97, 118, 97, 115, 99, 114, 105, 112, 116]] _ (rds_strs _ [[101, 99, 109, 97, 115, 99, 114, 105, 112, 116], [106, 97, 118, 97, 115, 99, 114, 105, 112, 116]] _ _ _ _ (by simp) rfl) (by decide) (by decide) (by decide)).mono ?_
    rintro e w9 ⟨rfl, rfl⟩
    rw [H0.out]
    go_wp2_with fail
    refine (one_any S [120, 45] _ 2 2 [[101, 99, 109, 97, 115, 99, 114, 105, 112, 116], [106, 97, 118, 97, 115, 99, 114, 105, 112, 116]] _ (rds_strs _ [[101, 99, 109, 97, 115, 99, 114, 105, 112, 116], [106, 97, 118, 97, 115, 99, 114, 105, 112, 116]] _ _ _ _ (by simp) rfl) (by decide) (by decide) (by decide)).mono ?_
    rintro e w9 ⟨rfl, rfl⟩
    rw [H1.out]
    go_wp2_with fail
    go_ret
    rw [HV.out]
    refine ⟨by first | rfl | simp, ?_⟩
    repeat (refine Below.alloc ?_ (by simp <;> omega) _)
    exact Below.refl _ _
  · go_enter Try.func9, Try.ntmps9
    go_wp2_with fail
    refine (one_any S [] _ 2 2 [[101, 99, 109, 97, 115, 99, 114, 105, 112, 116], [106, 97, 118, 97, 115, 99, 114, 105, 112, 116]] _ (rds_strs _ [[101, 99, 109, 97, 115, 99, 114, 105, 112, 116], [106, 97, 118, 97, 115, 99, 114, 105, 112, 116]] _ _ _ _ (by simp) rfl) (by decide) (by decide) (by decide)).mono ?_
    rintro e w9 ⟨rfl, rfl⟩
    rw [H0.out]
    go_wp2_with fail
    go_ret
    rw [HV.out]
    refine ⟨by first | rfl | simp, ?_⟩
    repeat (refine Below.alloc ?_ (by simp <;> omega) _)
    exact Below.refl _ _
  · go_enter Try.func9, Try.ntmps9
    go_wp2_with fail
    refine (one_any S [] _ 2 2 [[101, 99, 109, 97, 115, 99, 114, 105, 112, 116], [106, 97, 118, 97, 115, 99, 114, 105, 112, 116]] _ (rds_strs _ [[101, 99, 109, 97, 115, 99, 114, 105, 112, 116], [106, 97, 118, 97, 115, 99, 114, 105, 112, 116]] _ _ _ _ (by simp) rfl) (by decide) (by decide) (by decide)).mono ?_
    rintro e w9 ⟨rfl, rfl⟩
    rw [H0.out]
    go_wp2_with fail
    go_ret
    rw [HV.out]
    refine ⟨by first | rfl | simp, ?_⟩
    repeat (refine Below.alloc ?_ (by simp <;> omega) _)
    exact Below.refl _ _
  · go_enter Try.func9, Try.ntmps9
    go_wp2_with fail
    refine (one_any S [] _ 2 2 [[101, 99, 109, 97, 115, 99, 114, 105, 112, 116], [106, 97, 118, 97, 115, 99, 114, 105, 112, 116]] _ (rds_strs _ [[101, 99, 109, 97, 115, 99, 114, 105, 112, 116], [106, 97, 118, 97, 115, 99, 114, 105, 112, 116]] _ _ _ _ (by simp) rfl) (by decide) (by decide) (by decide)).mono ?_
    rintro e w9 ⟨rfl, rfl⟩
    rw [H0.out]
    go_wp2_with fail
    refine (one_any S [120, 45] _ 2 2 [[101, 99, 109, 97, 115, 99, 114, 105, 112, 116], [106, 97, 118, 97, 115, 99, 114, 105, 112, 116]] _ (rds_strs _ [[101, 99, 109, 97, 115, 99, 114, 105, 112, 116], [106, 97, 118, 97, 115, 99, 114, 105, 112, 116]] _ _ _ _ (by simp) rfl) (by decide) (by decide) (by decide)).mono ?_
    rintro e w9 ⟨rfl, rfl⟩
    rw [H1.out]
    go_wp2_with fail
    go_ret
    rw [HV.out]
    refine ⟨by first | rfl | simp, ?_⟩
    repeat (refine Below.alloc ?_ (by simp <;> omega) _)
    exact Below.refl _ _
  · go_enter Try.func9, Try.ntmps9
    go_wp2_with fail
    refine (one_any S [] _ 2 2 [[101, 99, 109, 97, 115, 99, 114, 105, 112, 116], [106, 97, 118, 97, 115, 99, 114, 105, 112, 116]] _ (rds_strs _ [[101, 99, 109, 97, 115, 99, 114, 105, 112, 116], [106, 97, 118, 97, 115, 99, 114, 105, 112, 116]] _ _ _ _ (by simp) rfl) (by decide) (by decide) (by decide)).mono ?_
    rintro e w9 ⟨rfl, rfl⟩
    rw [H0.out]
    go_wp2_with fail
    refine (one_any S [120, 45] _ 2 2 [[101, 99, 109, 97, 115, 99, 114, 105, 112, 116], [106, 97, 118, 97, 115, 99, 114, 105, 112, 116]] _ (rds_strs _ [[101, 99, 109, 97, 115, 99, 114, 105, 112, 116], [106, 97, 118, 97, 115, 99, 114, 105, 112, 116]] _ _ _ _ (by simp) rfl) (by decide) (by decide) (by decide)).mono ?_
    rintro e w9 ⟨rfl, rfl⟩
    rw [H1.out]
    go_wp2_with fail
    go_ret
    rw [HV.out]
    refine ⟨by first | rfl | simp, ?_⟩
    repeat (refine Below.alloc ?_ (by simp <;> omega) _)
    exact Below.refl _ _
  · go_enter Try.func9, Try.ntmps9
    go_wp2_with fail
    refine (one_any S [] _ 2 2 [[101, 99, 109, 97, 115, 99, 114, 105, 112, 116], [106, 97, 118, 97, 115, 99, 114, 105, 112, 116]] _ (rds_strs _ [[101, 99, 109, 97, 115, 99, 114, 105, 112, 116], [106, 97, 118, 97, 115, 99, 114, 105, 112, 116]] _ _ _ _ (by simp) rfl) (by decide) (by decide) (by decide)).mono ?_
    rintro e w9 ⟨rfl, rfl⟩
    rw [H0.out]
    go_wp2_with fail
    refine (one_any S [120, 45] _ 2 2 [[101, 99, 109, 97, 115, 99, 114, 105, 112, 116], [106, 97, 118, 97, 115, 99, 114, 105, 112, 116]] _ (rds_strs _ [[101, 99, 109, 97, 115, 99, 114, 105, 112, 116], [106, 97, 118, 97, 115, 99, 114, 105, 112, 116]] _ _ _ _ (by simp) rfl) (by decide) (by decide) (by decide)).mono ?_
    rintro e w9 ⟨rfl, rfl⟩
    rw [H1.out]
    go_wp2_with fail
    go_ret
    rw [HV.out]
    refine ⟨by first | rfl | simp, ?_⟩
    repeat (refine Below.alloc ?_ (by simp <;> omega) _)
    exact Below.refl _ _
  · go_enter Try.func9, Try.ntmps9
    go_wp2_with fail
    refine (one_any S [] _ 2 2 [[101, 99, 109, 97, 115, 99, 114, 105, 112, 116], [106, 97, 118, 97, 115, 99, 114, 105, 112, 116]] _ (rds_strs _ [[101, 99, 109, 97, 115, 99, 114, 105, 112, 116], [106, 97, 118, 97, 115, 99, 114, 105, 112, 116]] _ _ _ _ (by simp) rfl) (by decide) (by decide) (by decide)).mono ?_
    rintro e w9 ⟨rfl, rfl⟩
    rw [H0.out]
    go_wp2_with fail
    refine (one_any S [120, 45] _ 2 2 [[101, 99, 109, 97, 115, 99, 114, 105, 112, 116], [106, 97, 118, 97, 115, 99, 114, 105, 112, 116]] _ (rds_strs _ [[101, 99, 109, 97, 115, 99, 114, 105, 112, 116], [106, 97, 118, 97, 115, 99, 114, 105, 112, 116]] _ _ _ _ (by simp) rfl) (by decide) (by decide) (by decide)).mono ?_
    rintro e w9 ⟨rfl, rfl⟩
    rw [H1.out]
    go_wp2_with fail
    refine (one_any S [106, 97, 118, 97, 115, 99, 114, 105, 112, 116, 49, 46] _ 6 6 [[48], [49], [50], [51], [52], [53]] _ (rds_strs _ [[48], [49], [50], [51], [52], [53]] _ _ _ _ (by simp) rfl) (by decide) (by decide) (by decide)).mono ?_
    rintro e w9 ⟨rfl, rfl⟩
    rw [H4.out]
    go_wp2_with fail
    go_ret
    rw [HV.out]
    refine ⟨by first | rfl | simp, ?_⟩
    repeat (refine Below.alloc ?_ (by simp <;> omega) _)
    exact Below.refl _ _
  · go_enter Try.func9, Try.ntmps9
    go_wp2_with fail
    refine (one_any S [] _ 2 2 [[101, 99, 109, 97, 115, 99, 114, 105, 112, 116], [106, 97, 118, 97, 115, 99, 114, 105, 112, 116]] _ (rds_strs _ [[101, 99, 109, 97, 115, 99, 114, 105, 112, 116], [106, 97, 118, 97, 115, 99, 114, 105, 112, 116]] _ _ _ _ (by simp) rfl) (by decide) (by decide) (by decide)).mono ?_
    rintro e w9 ⟨rfl, rfl⟩
    rw [H0.out]
    go_wp2_with fail
    refine (one_any S [120, 45] _ 2 2 [[101, 99, 109, 97, 115, 99, 114, 105, 112, 116], [106, 97, 118, 97, 115, 99, 114, 105, 112, 116]] _ (rds_strs _ [[101, 99, 109, 97, 115, 99, 114, 105, 112, 116], [106, 97, 118, 97, 115, 99, 114, 105, 112, 116]] _ _ _ _ (by simp) rfl) (by decide) (by decide) (by decide)).mono ?_
    rintro e w9 ⟨rfl, rfl⟩
    rw [H1.out]
    go_wp2_with fail
    refine (one_any S [106, 97, 118, 97, 115, 99, 114, 105, 112, 116, 49, 46] _ 6 6 [[48], [49], [50], [51], [52], [53]] _ (rds_strs _ [[48], [49], [50], [51], [52], [53]] _ _ _ _ (by simp) rfl) (by decide) (by decide) (by decide)).mono ?_
    rintro e w9 ⟨rfl, rfl⟩
    rw [H4.out]
    go_wp2_with fail
    refine (one_any S [] _ 2 2 [[106, 115, 99, 114, 105, 112, 116], [108, 105, 118, 101, 115, 99, 114, 105, 112, 116]] _ (rds_strs _ [[106, 115, 99, 114, 105, 112, 116], [108, 105, 118, 101, 115, 99, 114, 105, 112, 116]] _ _ _ _ (by simp) rfl) (by decide) (by decide) (by decide)).mono ?_
    rintro e w9 ⟨rfl, rfl⟩
    rw [H5.out]
    go_wp2_with fail
    go_ret
    rw [HV.out]
    refine ⟨by first | rfl | simp, ?_⟩
    repeat (refine Below.alloc ?_ (by simp <;> omega) _)
    exact Below.refl _ _
set_option maxRecDepth 100000 in
set_option maxHeartbeats 4000000 in
theorem ref_7 (T S : ByteArray) (sa : Option Addr) (sn sc : Nat) (w : World) (hT : T.size ≤ 140737488351232) (hS : S.size ≤ 140737488351232) :
    Calls Try.prog 9 #[.int .i64 7, .agg #[.string T, .string S, .slice sa sn sc]] w fun e w' => e = .returned (.bool (rB 7 T.data.toList S.data.toList)) ∧ Below w.heap.size w w' := by
  have a1 : ∀ w, (Op.stringOp .add T ⟨#[47]⟩).run Try.prog w = .ok (.string (strOf (T.data.toList ++ [47]))) w := fun w => str_add' T ⟨#[47]⟩ w (by show T.size + 1 ≤ _; omega)
  have a2 : ∀ w, (Op.stringOp .add (strOf (T.data.toList ++ [47])) S).run Try.prog w = .ok (.string (strOf (ess T.data.toList S.data.toList))) w := fun w => by
    have := str_add' (P := Try.prog) (strOf (T.data.toList ++ [47])) S w (by rw [size_strOf, List.length_append, dlen]; simp; omega)
    rw [this]
    unfold ess
    rw [show (strOf (T.data.toList ++ [47])).data.toList = T.data.toList ++ [47] from rfl, List.append_assoc]
    rfl
  obtain ⟨X, hX⟩ : ∃ X, X = strOf (T.data.toList ++ [47]) := ⟨_, rfl⟩
  rw [← hX] at a1 a2
  clear hX
  obtain ⟨E, hE⟩ : ∃ E, E = ess T.data.toList S.data.toList := ⟨_, rfl⟩
  rw [← hE] at a2
  obtain ⟨b2, hb2⟩ : ∃ b, (E == [97, 112, 112, 108, 105, 99, 97, 116, 105, 111, 110, 47, 112, 100, 102]) = b := ⟨_, rfl⟩
  have q2 := (beq_str E [97, 112, 112, 108, 105, 99, 97, 116, 105, 111, 110, 47, 112, 100, 102]).trans hb2
  obtain ⟨b0, hb0⟩ : ∃ b, rB 5 T.data.toList S.data.toList = b := ⟨_, rfl⟩
  obtain ⟨b1, hb1⟩ : ∃ b, rB 6 T.data.toList S.data.toList = b := ⟨_, rfl⟩
  have HV : Hid (rB 7 T.data.toList S.data.toList = (b0 || b1 || b2)) := by
    show _ = _
    rw [← hb0, ← hb1, ← hb2, hE]
    unfold rB
    rw [if_neg (by decide), if_neg (by decide), if_neg (by decide), if_neg (by decide), if_neg (by decide), if_neg (by decide), if_neg (by decide), if_pos rfl, if_neg (by decide), if_neg (by decide), if_neg (by decide), if_neg (by decide), if_neg (by decide), if_pos rfl, if_neg (by decide), if_neg (by decide), if_neg (by decide), if_neg (by decide), if_neg (by decide), if_neg (by decide), if_pos rfl]
  have H0 := hid hb0
  have H1 := hid hb1
  clear hb0 hb1 hb2 hE
  cases b0
  · cases b1
    · go_enter Try.func9, Try.ntmps9
      go_wp2_with fail
      refine (ref_5 T S _ _ _ _ hT hS).mono ?_
      rintro e w1 ⟨rfl, hb5⟩
      rw [H0.out]
      obtain ⟨hM, hB⟩ := boxed hb5
      clear hb5
      obtain ⟨c0, c1, c2⟩ := hM.facts
      go_wp2_with fail
      refine (ref_6 T S _ _ _ _ hT hS).mono ?_
      rintro e w2 ⟨rfl, hb6⟩
      rw [H1.out]
      have hB2 := bel hB hb6
      clear hb6 hM hB c0 c1 c2
      go_wp2_with fail
      go_ret
      rw [HV.out]
      exact ⟨by first | rfl | simp, hB2⟩
    · go_enter Try.func9, Try.ntmps9
      go_wp2_with fail
      refine (ref_5 T S _ _ _ _ hT hS).mono ?_
      rintro e w1 ⟨rfl, hb5⟩
      rw [H0.out]
      obtain ⟨hM, hB⟩ := boxed hb5
      clear hb5
      obtain ⟨c0, c1, c2⟩ := hM.facts
      go_wp2_with fail
      refine (ref_6 T S _ _ _ _ hT hS).mono ?_
      rintro e w2 ⟨rfl, hb6⟩
      rw [H1.out]
      have hB2 := bel hB hb6
      clear hb6 hM hB c0 c1 c2
      go_wp2_with fail
      go_ret
      rw [HV.out]
      exact ⟨by simp, hB2⟩
  · go_enter Try.func9, Try.ntmps9
    go_wp2_with fail
    refine (ref_5 T S _ _ _ _ hT hS).mono ?_
    rintro e w1 ⟨rfl, hb5⟩
    rw [H0.out]
    obtain ⟨hM, hB⟩ := boxed hb5
    clear hb5
    obtain ⟨c0, c1, c2⟩ := hM.facts
    go_wp2_with fail
    go_ret
    rw [HV.out]
    exact ⟨by simp, hB⟩
theorem rB_out (g : Int) (T S : List UInt8) (h : g < 0 ∨ 9 < g) : rB g T S = false := by
  unfold rB
  rw [if_neg (by omega), if_neg (by omega), if_neg (by omega), if_neg (by omega), if_neg (by omega), if_neg (by omega), if_neg (by omega), if_neg (by omega), if_neg (by omega), if_neg (by omega)]
set_option maxRecDepth 100000 in
set_option maxHeartbeats 4000000 in
theorem ref_out (g : Int) (h : g < 0 ∨ 9 < g) (T S : ByteArray) (sa : Option Addr) (sn sc : Nat) (w : World) (hT : T.size ≤ 140737488351232) (hS : S.size ≤ 140737488351232) :
    Calls Try.prog 9 #[.int .i64 g, .agg #[.string T, .string S, .slice sa sn sc]] w fun e w' => e = .returned (.bool (rB g T.data.toList S.data.toList)) ∧ Below w.heap.size w w' := by
  have a1 : ∀ w, (Op.stringOp .add T ⟨#[47]⟩).run Try.prog w = .ok (.string (strOf (T.data.toList ++ [47]))) w := fun w => str_add' T ⟨#[47]⟩ w (by show T.size + 1 ≤ _; omega)
  have a2 : ∀ w, (Op.stringOp .add (strOf (T.data.toList ++ [47])) S).run Try.prog w = .ok (.string (strOf (ess T.data.toList S.data.toList))) w := fun w => by
    have := str_add' (P := Try.prog) (strOf (T.data.toList ++ [47])) S w (by rw [size_strOf, List.length_append, dlen]; simp; omega)
    rw [this]
    unfold ess
    rw [show (strOf (T.data.toList ++ [47])).data.toList = T.data.toList ++ [47] from rfl, List.append_assoc]
    rfl
  obtain ⟨X, hX⟩ : ∃ X, X = strOf (T.data.toList ++ [47]) := ⟨_, rfl⟩
  rw [← hX] at a1 a2
  clear hX
  obtain ⟨E, hE⟩ : ∃ E, E = ess T.data.toList S.data.toList := ⟨_, rfl⟩
  rw [← hE] at a2
  have HV := hid (rB_out g T.data.toList S.data.toList h)
  have e0 : (g == 0) = false := by simp; omega
  have e1 : (g == 1) = false := by simp; omega
  have e2 : (g == 2) = false := by simp; omega
  have e3 : (g == 3) = false := by simp; omega
  have e4 : (g == 4) = false := by simp; omega
  have e5 : (g == 5) = false := by simp; omega
  have e6 : (g == 6) = false := by simp; omega
  have e7 : (g == 7) = false := by simp; omega
  have e8 : (g == 8) = false := by simp; omega
  have e9 : (g == 9) = false := by simp; omega
  clear h hE
  go_enter Try.func9, Try.ntmps9
  go_wp2
  go_ret
  rw [HV.out]
  exact ⟨rfl, flat _ _⟩
theorem ref_any (g : Int) (T S : ByteArray) (sa : Option Addr) (sn sc : Nat) (w : World) (hT : T.size ≤ 140737488351232) (hS : S.size ≤ 140737488351232) :
    Calls Try.prog 9 #[.int .i64 g, .agg #[.string T, .string S, .slice sa sn sc]] w fun e w' => e = .returned (.bool (gB g T.data.toList S.data.toList)) ∧ Below w.heap.size w w' := by
  rw [← rB_eq]
  have hcase : g < 0 ∨ 9 < g ∨ g = 0 ∨ g = 1 ∨ g = 2 ∨ g = 3 ∨ g = 4 ∨ g = 5 ∨ g = 6 ∨ g = 7 ∨ g = 8 ∨ g = 9 := by omega
  rcases hcase with h | h | rfl | rfl | rfl | rfl | rfl | rfl | rfl | rfl | rfl | rfl
  · exact ref_out g (.inl h) T S sa sn sc w hT hS
  · exact ref_out g (.inr h) T S sa sn sc w hT hS
  · exact ref_0 T S sa sn sc w hT hS
  · exact ref_1 T S sa sn sc w hT hS
  · exact ref_2 T S sa sn sc w hT hS
  · exact ref_3 T S sa sn sc w hT hS
  · exact ref_4 T S sa sn sc w hT hS
  · exact ref_5 T S sa sn sc w hT hS
  · exact ref_6 T S sa sn sc w hT hS
  · exact ref_7 T S sa sn sc w hT hS
  · exact ref_8 T S sa sn sc w hT hS
  · exact ref_9 T S sa sn sc w hT hS
end Go.Proofs.Ytbkobobnbdblbaa.GrpD
