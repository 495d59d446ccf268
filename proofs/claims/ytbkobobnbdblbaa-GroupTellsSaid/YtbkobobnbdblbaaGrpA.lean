/- Contracts of mime.Essence, of group's own lists, of strings.HasSuffix, and of the document's own one and ends. -/
import Derived.Test.YtbkobobnbdblbaaGrpP
import Derived.Test.YtbkobobnbdblbaaShelf
namespace Go.Proofs.Ytbkobobnbdblbaa.GrpA
open Go.RowKit Go.Proofs.Ytbkobobnbdblbaa.Base Go.Proofs.Ytbkobobnbdblbaa.Base2 Go.Proofs.Ytbkobobnbdblbaa.GrpP

theorem pick7 (b0 b1 b2 b3 b4 b5 b6 : Bool) : (b0 = true) ∨ (b0 = false ∧ b1 = true) ∨ (b0 = false ∧ b1 = false ∧ b2 = true) ∨ (b0 = false ∧ b1 = false ∧ b2 = false ∧ b3 = true) ∨ (b0 = false ∧ b1 = false ∧ b2 = false ∧ b3 = false ∧ b4 = true) ∨ (b0 = false ∧ b1 = false ∧ b2 = false ∧ b3 = false ∧ b4 = false ∧ b5 = true) ∨ (b0 = false ∧ b1 = false ∧ b2 = false ∧ b3 = false ∧ b4 = false ∧ b5 = false ∧ b6 = true) ∨ (b0 = false ∧ b1 = false ∧ b2 = false ∧ b3 = false ∧ b4 = false ∧ b5 = false ∧ b6 = false) := by
  cases b0 with
  | true => exact (.inl rfl)
  | false =>
    cases b1 with
    | true => exact (.inr (.inl ⟨rfl, rfl⟩))
    | false =>
      cases b2 with
      | true => exact (.inr (.inr (.inl ⟨rfl, rfl, rfl⟩)))
      | false =>
        cases b3 with
        | true => exact (.inr (.inr (.inr (.inl ⟨rfl, rfl, rfl, rfl⟩))))
        | false =>
          cases b4 with
          | true => exact (.inr (.inr (.inr (.inr (.inl ⟨rfl, rfl, rfl, rfl, rfl⟩)))))
          | false =>
            cases b5 with
            | true => exact (.inr (.inr (.inr (.inr (.inr (.inl ⟨rfl, rfl, rfl, rfl, rfl, rfl⟩))))))
            | false =>
              cases b6 with
              | true => exact (.inr (.inr (.inr (.inr (.inr (.inr (.inl ⟨rfl, rfl, rfl, rfl, rfl, rfl, rfl⟩)))))))
              | false =>
                exact (.inr (.inr (.inr (.inr (.inr (.inr (.inr ⟨rfl, rfl, rfl, rfl, rfl, rfl, rfl⟩)))))))
theorem pick16 (b0 b1 b2 b3 b4 b5 b6 b7 b8 b9 b10 b11 b12 b13 b14 b15 : Bool) : (b0 = true) ∨ (b0 = false ∧ b1 = true) ∨ (b0 = false ∧ b1 = false ∧ b2 = true) ∨ (b0 = false ∧ b1 = false ∧ b2 = false ∧ b3 = true) ∨ (b0 = false ∧ b1 = false ∧ b2 = false ∧ b3 = false ∧ b4 = true) ∨ (b0 = false ∧ b1 = false ∧ b2 = false ∧ b3 = false ∧ b4 = false ∧ b5 = true) ∨ (b0 = false ∧ b1 = false ∧ b2 = false ∧ b3 = false ∧ b4 = false ∧ b5 = false ∧ b6 = true) ∨ (b0 = false ∧ b1 = false ∧ b2 = false ∧ b3 = false ∧ b4 = false ∧ b5 = false ∧ b6 = false ∧ b7 = true) ∨ (b0 = false ∧ b1 = false ∧ b2 = false ∧ b3 = false ∧ b4 = false ∧ b5 = false ∧ b6 = false ∧ b7 = false ∧ b8 = true) ∨ (b0 = false ∧ b1 = false ∧ b2 = false ∧ b3 = false ∧ b4 = false ∧ b5 = false ∧ b6 = false ∧ b7 = false ∧ b8 = false ∧ b9 = true) ∨ (b0 = false ∧ b1 = false ∧ b2 = false ∧ b3 = false ∧ b4 = false ∧ b5 = false ∧ b6 = false ∧ b7 = false ∧ b8 = false ∧ b9 = false ∧ b10 = true) ∨ (b0 = false ∧ b1 = false ∧ b2 = false ∧ b3 = false ∧ b4 = false ∧ b5 = false ∧ b6 = false ∧ b7 = false ∧ b8 = false ∧ b9 = false ∧ b10 = false ∧ b11 = true) ∨ (b0 = false ∧ b1 = false ∧ b2 = false ∧ b3 = false ∧ b4 = false ∧ b5 = false ∧ b6 = false ∧ b7 = false ∧ b8 = false ∧ b9 = false ∧ b10 = false ∧ b11 = false ∧ b12 = true) ∨ (b0 = false ∧ b1 = false ∧ b2 = false ∧ b3 = false ∧ b4 = false ∧ b5 = false ∧ b6 = false ∧ b7 = false ∧ b8 = false ∧ b9 = false ∧ b10 = false ∧ b11 = false ∧ b12 = false ∧ b13 = true) ∨ (b0 = false ∧ b1 = false ∧ b2 = false ∧ b3 = false ∧ b4 = false ∧ b5 = false ∧ b6 = false ∧ b7 = false ∧ b8 = false ∧ b9 = false ∧ b10 = false ∧ b11 = false ∧ b12 = false ∧ b13 = false ∧ b14 = true) ∨ (b0 = false ∧ b1 = false ∧ b2 = false ∧ b3 = false ∧ b4 = false ∧ b5 = false ∧ b6 = false ∧ b7 = false ∧ b8 = false ∧ b9 = false ∧ b10 = false ∧ b11 = false ∧ b12 = false ∧ b13 = false ∧ b14 = false ∧ b15 = true) ∨ (b0 = false ∧ b1 = false ∧ b2 = false ∧ b3 = false ∧ b4 = false ∧ b5 = false ∧ b6 = false ∧ b7 = false ∧ b8 = false ∧ b9 = false ∧ b10 = false ∧ b11 = false ∧ b12 = false ∧ b13 = false ∧ b14 = false ∧ b15 = false) := by
  cases b0 with
  | true => exact (.inl rfl)
  | false =>
    cases b1 with
    | true => exact (.inr (.inl ⟨rfl, rfl⟩))
    | false =>
      cases b2 with
      | true => exact (.inr (.inr (.inl ⟨rfl, rfl, rfl⟩)))
      | false =>
        cases b3 with
        | true => exact (.inr (.inr (.inr (.inl ⟨rfl, rfl, rfl, rfl⟩))))
        | false =>
          cases b4 with
          | true => exact (.inr (.inr (.inr (.inr (.inl ⟨rfl, rfl, rfl, rfl, rfl⟩)))))
          | false =>
            cases b5 with
            | true => exact (.inr (.inr (.inr (.inr (.inr (.inl ⟨rfl, rfl, rfl, rfl, rfl, rfl⟩))))))
            | false =>
              cases b6 with
              | true => exact (.inr (.inr (.inr (.inr (.inr (.inr (.inl ⟨rfl, rfl, rfl, rfl, rfl, rfl, rfl⟩)))))))
              | false =>
                cases b7 with
                | true => exact (.inr (.inr (.inr (.inr (.inr (.inr (.inr (.inl ⟨rfl, rfl, rfl, rfl, rfl, rfl, rfl, rfl⟩))))))))
                | false =>
                  cases b8 with
                  | true => exact (.inr (.inr (.inr (.inr (.inr (.inr (.inr (.inr (.inl ⟨rfl, rfl, rfl, rfl, rfl, rfl, rfl, rfl, rfl⟩)))))))))
                  | false =>
                    cases b9 with
                    | true => exact (.inr (.inr (.inr (.inr (.inr (.inr (.inr (.inr (.inr (.inl ⟨rfl, rfl, rfl, rfl, rfl, rfl, rfl, rfl, rfl, rfl⟩))))))))))
                    | false =>
                      cases b10 with
                      | true => exact (.inr (.inr (.inr (.inr (.inr (.inr (.inr (.inr (.inr (.inr (.inl ⟨rfl, rfl, rfl, rfl, rfl, rfl, rfl, rfl, rfl, rfl, rfl⟩)))))))))))
                      | false =>
                        cases b11 with
                        | true => exact (.inr (.inr (.inr (.inr (.inr (.inr (.inr (.inr (.inr (.inr (.inr (.inl ⟨rfl, rfl, rfl, rfl, rfl, rfl, rfl, rfl, rfl, rfl, rfl, rfl⟩))))))))))))
                        | false =>
                          cases b12 with
                          | true => exact (.inr (.inr (.inr (.inr (.inr (.inr (.inr (.inr (.inr (.inr (.inr (.inr (.inl ⟨rfl, rfl, rfl, rfl, rfl, rfl, rfl, rfl, rfl, rfl, rfl, rfl, rfl⟩)))))))))))))
                          | false =>
                            cases b13 with
                            | true => exact (.inr (.inr (.inr (.inr (.inr (.inr (.inr (.inr (.inr (.inr (.inr (.inr (.inr (.inl ⟨rfl, rfl, rfl, rfl, rfl, rfl, rfl, rfl, rfl, rfl, rfl, rfl, rfl, rfl⟩))))))))))))))
                            | false =>
                              cases b14 with
                              | true => exact (.inr (.inr (.inr (.inr (.inr (.inr (.inr (.inr (.inr (.inr (.inr (.inr (.inr (.inr (.inl ⟨rfl, rfl, rfl, rfl, rfl, rfl, rfl, rfl, rfl, rfl, rfl, rfl, rfl, rfl, rfl⟩)))))))))))))))
                              | false =>
                                cases b15 with
                                | true => exact (.inr (.inr (.inr (.inr (.inr (.inr (.inr (.inr (.inr (.inr (.inr (.inr (.inr (.inr (.inr (.inl ⟨rfl, rfl, rfl, rfl, rfl, rfl, rfl, rfl, rfl, rfl, rfl, rfl, rfl, rfl, rfl, rfl⟩))))))))))))))))
                                | false =>
                                  exact (.inr (.inr (.inr (.inr (.inr (.inr (.inr (.inr (.inr (.inr (.inr (.inr (.inr (.inr (.inr (.inr ⟨rfl, rfl, rfl, rfl, rfl, rfl, rfl, rfl, rfl, rfl, rfl, rfl, rfl, rfl, rfl, rfl⟩))))))))))))))))
theorem dlen (s : ByteArray) : s.data.toList.length = s.size := Array.length_toList
set_option maxRecDepth 100000 in
theorem essence_any (T S : ByteArray) (v : Value) (w : World) (hT : T.size ≤ 140737488351232) (hS : S.size ≤ 140737488351232) :
    Calls Try.prog 14 #[.agg #[.string T, .string S, v]] w fun e w' => e = .returned (.string (strOf (ess T.data.toList S.data.toList))) ∧ Below w.heap.size w w' := by
  have a1 : ∀ w, (Op.stringOp .add T ⟨#[47]⟩).run Try.prog w = .ok (.string (strOf (T.data.toList ++ [47]))) w := fun w => str_add' T ⟨#[47]⟩ w (by show T.size + 1 ≤ _; omega)
  have a2 : ∀ w, (Op.stringOp .add (strOf (T.data.toList ++ [47])) S).run Try.prog w = .ok (.string (strOf (ess T.data.toList S.data.toList))) w := fun w => by
    have := str_add' (P := Try.prog) (strOf (T.data.toList ++ [47])) S w (by rw [size_strOf, List.length_append, dlen]; simp; omega)
    rw [this]
    unfold ess
    rw [show (strOf (T.data.toList ++ [47])).data.toList = T.data.toList ++ [47] from rfl, List.append_assoc]
    rfl
  obtain ⟨X, hX⟩ : ∃ X, X = strOf (T.data.toList ++ [47]) := ⟨_, rfl⟩
  rw [← hX] at a1 a2
  clear hX
  go_enter Try.func14, Try.ntmps14
  go_wp2
  go_ret
  exact ⟨rfl, (Below.refl _ _).alloc (Nat.le_refl _) _⟩
set_option maxRecDepth 100000 in
set_option maxHeartbeats 1000000 in
theorem fonts_any (L : List UInt8) (w : World) : Calls Try.prog 15 #[.string (strOf L)] w fun e w' => e = .returned (.bool (fontsB L)) ∧ w = w' := by
  have HB := fun l => hid (beq_str L l)
  have HV : Hid (fontsB L = ((L == [97, 112, 112, 108, 105, 99, 97, 116, 105, 111, 110, 47, 102, 111, 110, 116, 45, 99, 102, 102]) || (L == [97, 112, 112, 108, 105, 99, 97, 116, 105, 111, 110, 47, 102, 111, 110, 116, 45, 111, 102, 102]) || (L == [97, 112, 112, 108, 105, 99, 97, 116, 105, 111, 110, 47, 102, 111, 110, 116, 45, 115, 102, 110, 116]) || (L == [97, 112, 112, 108, 105, 99, 97, 116, 105, 111, 110, 47, 102, 111, 110, 116, 45, 116, 116, 102]) || (L == [97, 112, 112, 108, 105, 99, 97, 116, 105, 111, 110, 47, 102, 111, 110, 116, 45, 119, 111, 102, 102]) || (L == [97, 112, 112, 108, 105, 99, 97, 116, 105, 111, 110, 47, 118, 110, 100, 46, 109, 115, 45, 102, 111, 110, 116, 111, 98, 106, 101, 99, 116]) || (L == [97, 112, 112, 108, 105, 99, 97, 116, 105, 111, 110, 47, 118, 110, 100, 46, 109, 115, 45, 111, 112, 101, 110, 116, 121, 112, 101]))) := by
    show _ = _
    unfold fontsB fonts
    simp only [List.contains_cons, List.contains_nil, Bool.or_false]
    all_goals simp only [Bool.or_assoc]
  obtain ⟨b0, hb0⟩ : ∃ b, (L == [97, 112, 112, 108, 105, 99, 97, 116, 105, 111, 110, 47, 102, 111, 110, 116, 45, 99, 102, 102]) = b := ⟨_, rfl⟩
  have q0 := (HB [97, 112, 112, 108, 105, 99, 97, 116, 105, 111, 110, 47, 102, 111, 110, 116, 45, 99, 102, 102]).out.trans hb0
  rw [hb0] at HV
  clear hb0
  obtain ⟨b1, hb1⟩ : ∃ b, (L == [97, 112, 112, 108, 105, 99, 97, 116, 105, 111, 110, 47, 102, 111, 110, 116, 45, 111, 102, 102]) = b := ⟨_, rfl⟩
  have q1 := (HB [97, 112, 112, 108, 105, 99, 97, 116, 105, 111, 110, 47, 102, 111, 110, 116, 45, 111, 102, 102]).out.trans hb1
  rw [hb1] at HV
  clear hb1
  obtain ⟨b2, hb2⟩ : ∃ b, (L == [97, 112, 112, 108, 105, 99, 97, 116, 105, 111, 110, 47, 102, 111, 110, 116, 45, 115, 102, 110, 116]) = b := ⟨_, rfl⟩
  have q2 := (HB [97, 112, 112, 108, 105, 99, 97, 116, 105, 111, 110, 47, 102, 111, 110, 116, 45, 115, 102, 110, 116]).out.trans hb2
  rw [hb2] at HV
  clear hb2
  obtain ⟨b3, hb3⟩ : ∃ b, (L == [97, 112, 112, 108, 105, 99, 97, 116, 105, 111, 110, 47, 102, 111, 110, 116, 45, 116, 116, 102]) = b := ⟨_, rfl⟩
  have q3 := (HB [97, 112, 112, 108, 105, 99, 97, 116, 105, 111, 110, 47, 102, 111, 110, 116, 45, 116, 116, 102]).out.trans hb3
  rw [hb3] at HV
  clear hb3
  obtain ⟨b4, hb4⟩ : ∃ b, (L == [97, 112, 112, 108, 105, 99, 97, 116, 105, 111, 110, 47, 102, 111, 110, 116, 45, 119, 111, 102, 102]) = b := ⟨_, rfl⟩
  have q4 := (HB [97, 112, 112, 108, 105, 99, 97, 116, 105, 111, 110, 47, 102, 111, 110, 116, 45, 119, 111, 102, 102]).out.trans hb4
  rw [hb4] at HV
  clear hb4
  obtain ⟨b5, hb5⟩ : ∃ b, (L == [97, 112, 112, 108, 105, 99, 97, 116, 105, 111, 110, 47, 118, 110, 100, 46, 109, 115, 45, 102, 111, 110, 116, 111, 98, 106, 101, 99, 116]) = b := ⟨_, rfl⟩
  have q5 := (HB [97, 112, 112, 108, 105, 99, 97, 116, 105, 111, 110, 47, 118, 110, 100, 46, 109, 115, 45, 102, 111, 110, 116, 111, 98, 106, 101, 99, 116]).out.trans hb5
  rw [hb5] at HV
  clear hb5
  obtain ⟨b6, hb6⟩ : ∃ b, (L == [97, 112, 112, 108, 105, 99, 97, 116, 105, 111, 110, 47, 118, 110, 100, 46, 109, 115, 45, 111, 112, 101, 110, 116, 121, 112, 101]) = b := ⟨_, rfl⟩
  have q6 := (HB [97, 112, 112, 108, 105, 99, 97, 116, 105, 111, 110, 47, 118, 110, 100, 46, 109, 115, 45, 111, 112, 101, 110, 116, 121, 112, 101]).out.trans hb6
  rw [hb6] at HV
  clear hb6
  clear HB
  have hcase : (b0 = true) ∨ (b0 = false ∧ b1 = true) ∨ (b0 = false ∧ b1 = false ∧ b2 = true) ∨ (b0 = false ∧ b1 = false ∧ b2 = false ∧ b3 = true) ∨ (b0 = false ∧ b1 = false ∧ b2 = false ∧ b3 = false ∧ b4 = true) ∨ (b0 = false ∧ b1 = false ∧ b2 = false ∧ b3 = false ∧ b4 = false ∧ b5 = true) ∨ (b0 = false ∧ b1 = false ∧ b2 = false ∧ b3 = false ∧ b4 = false ∧ b5 = false ∧ b6 = true) ∨ (b0 = false ∧ b1 = false ∧ b2 = false ∧ b3 = false ∧ b4 = false ∧ b5 = false ∧ b6 = false) := by
    clear HV; exact pick7 b0 b1 b2 b3 b4 b5 b6
  rcases hcase with rfl | ⟨rfl, rfl⟩ | ⟨rfl, rfl, rfl⟩ | ⟨rfl, rfl, rfl, rfl⟩ | ⟨rfl, rfl, rfl, rfl, rfl⟩ | ⟨rfl, rfl, rfl, rfl, rfl, rfl⟩ | ⟨rfl, rfl, rfl, rfl, rfl, rfl, rfl⟩ | ⟨rfl, rfl, rfl, rfl, rfl, rfl, rfl⟩
  all_goals
    go_enter Try.func15, Try.ntmps15
    go_wp2
    go_ret
    rw [HV.out]
    exact ⟨by simp, rfl⟩
set_option maxRecDepth 100000 in
set_option maxHeartbeats 1000000 in
theorem archs_any (L : List UInt8) (w : World) : Calls Try.prog 17 #[.string (strOf L)] w fun e w' => e = .returned (.bool (archsB L)) ∧ w = w' := by
  have HB := fun l => hid (beq_str L l)
  have HV : Hid (archsB L = ((L == [97, 112, 112, 108, 105, 99, 97, 116, 105, 111, 110, 47, 120, 45, 114, 97, 114, 45, 99, 111, 109, 112, 114, 101, 115, 115, 101, 100]) || (L == [97, 112, 112, 108, 105, 99, 97, 116, 105, 111, 110, 47, 122, 105, 112]) || (L == [97, 112, 112, 108, 105, 99, 97, 116, 105, 111, 110, 47, 120, 45, 103, 122, 105, 112]))) := by
    show _ = _
    unfold archsB archs
    simp only [List.contains_cons, List.contains_nil, Bool.or_false]
    all_goals simp only [Bool.or_assoc]
  obtain ⟨b0, hb0⟩ : ∃ b, (L == [97, 112, 112, 108, 105, 99, 97, 116, 105, 111, 110, 47, 120, 45, 114, 97, 114, 45, 99, 111, 109, 112, 114, 101, 115, 115, 101, 100]) = b := ⟨_, rfl⟩
  have q0 := (HB [97, 112, 112, 108, 105, 99, 97, 116, 105, 111, 110, 47, 120, 45, 114, 97, 114, 45, 99, 111, 109, 112, 114, 101, 115, 115, 101, 100]).out.trans hb0
  rw [hb0] at HV
  clear hb0
  obtain ⟨b1, hb1⟩ : ∃ b, (L == [97, 112, 112, 108, 105, 99, 97, 116, 105, 111, 110, 47, 122, 105, 112]) = b := ⟨_, rfl⟩
  have q1 := (HB [97, 112, 112, 108, 105, 99, 97, 116, 105, 111, 110, 47, 122, 105, 112]).out.trans hb1
  rw [hb1] at HV
  clear hb1
  obtain ⟨b2, hb2⟩ : ∃ b, (L == [97, 112, 112, 108, 105, 99, 97, 116, 105, 111, 110, 47, 120, 45, 103, 122, 105, 112]) = b := ⟨_, rfl⟩
  have q2 := (HB [97, 112, 112, 108, 105, 99, 97, 116, 105, 111, 110, 47, 120, 45, 103, 122, 105, 112]).out.trans hb2
  rw [hb2] at HV
  clear hb2
  clear HB
  have hcase : (b0 = true) ∨ (b0 = false ∧ b1 = true) ∨ (b0 = false ∧ b1 = false ∧ b2 = true) ∨ (b0 = false ∧ b1 = false ∧ b2 = false) := by
    clear HV; cases b0 <;> cases b1 <;> cases b2 <;> simp
  rcases hcase with rfl | ⟨rfl, rfl⟩ | ⟨rfl, rfl, rfl⟩ | ⟨rfl, rfl, rfl⟩
  all_goals
    go_enter Try.func17, Try.ntmps17
    go_wp2
    go_ret
    rw [HV.out]
    exact ⟨by simp, rfl⟩
set_option maxRecDepth 100000 in
set_option maxHeartbeats 1000000 in
theorem xmls_any (L : List UInt8) (w : World) : Calls Try.prog 18 #[.string (strOf L)] w fun e w' => e = .returned (.bool (xmlsB L)) ∧ w = w' := by
  have HB := fun l => hid (beq_str L l)
  have HV : Hid (xmlsB L = ((L == [116, 101, 120, 116, 47, 120, 109, 108]) || (L == [97, 112, 112, 108, 105, 99, 97, 116, 105, 111, 110, 47, 120, 109, 108]))) := by
    show _ = _
    unfold xmlsB xmls
    simp only [List.contains_cons, List.contains_nil, Bool.or_false]
    all_goals simp only [Bool.or_assoc]
  obtain ⟨b0, hb0⟩ : ∃ b, (L == [116, 101, 120, 116, 47, 120, 109, 108]) = b := ⟨_, rfl⟩
  have q0 := (HB [116, 101, 120, 116, 47, 120, 109, 108]).out.trans hb0
  rw [hb0] at HV
  clear hb0
  obtain ⟨b1, hb1⟩ : ∃ b, (L == [97, 112, 112, 108, 105, 99, 97, 116, 105, 111, 110, 47, 120, 109, 108]) = b := ⟨_, rfl⟩
  have q1 := (HB [97, 112, 112, 108, 105, 99, 97, 116, 105, 111, 110, 47, 120, 109, 108]).out.trans hb1
  rw [hb1] at HV
  clear hb1
  clear HB
  have hcase : (b0 = true) ∨ (b0 = false ∧ b1 = true) ∨ (b0 = false ∧ b1 = false) := by
    clear HV; cases b0 <;> cases b1 <;> simp
  rcases hcase with rfl | ⟨rfl, rfl⟩ | ⟨rfl, rfl⟩
  all_goals
    go_enter Try.func18, Try.ntmps18
    go_wp2
    go_ret
    rw [HV.out]
    exact ⟨by simp, rfl⟩
set_option maxRecDepth 100000 in
set_option maxHeartbeats 1000000 in
theorem jsons_any (L : List UInt8) (w : World) : Calls Try.prog 19 #[.string (strOf L)] w fun e w' => e = .returned (.bool (jsonsB L)) ∧ w = w' := by
  have HB := fun l => hid (beq_str L l)
  have HV : Hid (jsonsB L = ((L == [97, 112, 112, 108, 105, 99, 97, 116, 105, 111, 110, 47, 106, 115, 111, 110]) || (L == [116, 101, 120, 116, 47, 106, 115, 111, 110]))) := by
    show _ = _
    unfold jsonsB jsons
    simp only [List.contains_cons, List.contains_nil, Bool.or_false]
    all_goals simp only [Bool.or_assoc]
  obtain ⟨b0, hb0⟩ : ∃ b, (L == [97, 112, 112, 108, 105, 99, 97, 116, 105, 111, 110, 47, 106, 115, 111, 110]) = b := ⟨_, rfl⟩
  have q0 := (HB [97, 112, 112, 108, 105, 99, 97, 116, 105, 111, 110, 47, 106, 115, 111, 110]).out.trans hb0
  rw [hb0] at HV
  clear hb0
  obtain ⟨b1, hb1⟩ : ∃ b, (L == [116, 101, 120, 116, 47, 106, 115, 111, 110]) = b := ⟨_, rfl⟩
  have q1 := (HB [116, 101, 120, 116, 47, 106, 115, 111, 110]).out.trans hb1
  rw [hb1] at HV
  clear hb1
  clear HB
  have hcase : (b0 = true) ∨ (b0 = false ∧ b1 = true) ∨ (b0 = false ∧ b1 = false) := by
    clear HV; cases b0 <;> cases b1 <;> simp
  rcases hcase with rfl | ⟨rfl, rfl⟩ | ⟨rfl, rfl⟩
  all_goals
    go_enter Try.func19, Try.ntmps19
    go_wp2
    go_ret
    rw [HV.out]
    exact ⟨by simp, rfl⟩
set_option maxRecDepth 100000 in
set_option maxHeartbeats 1000000 in
theorem jss_any (L : List UInt8) (w : World) : Calls Try.prog 20 #[.string (strOf L)] w fun e w' => e = .returned (.bool (jssB L)) ∧ w = w' := by
  have HB := fun l => hid (beq_str L l)
  have HV : Hid (jssB L = ((L == [97, 112, 112, 108, 105, 99, 97, 116, 105, 111, 110, 47, 101, 99, 109, 97, 115, 99, 114, 105, 112, 116]) || (L == [97, 112, 112, 108, 105, 99, 97, 116, 105, 111, 110, 47, 106, 97, 118, 97, 115, 99, 114, 105, 112, 116]) || (L == [97, 112, 112, 108, 105, 99, 97, 116, 105, 111, 110, 47, 120, 45, 101, 99, 109, 97, 115, 99, 114, 105, 112, 116]) || (L == [97, 112, 112, 108, 105, 99, 97, 116, 105, 111, 110, 47, 120, 45, 106, 97, 118, 97, 115, 99, 114, 105, 112, 116]) || (L == [116, 101, 120, 116, 47, 101, 99, 109, 97, 115, 99, 114, 105, 112, 116]) || (L == [116, 101, 120, 116, 47, 106, 97, 118, 97, 115, 99, 114, 105, 112, 116]) || (L == [116, 101, 120, 116, 47, 106, 97, 118, 97, 115, 99, 114, 105, 112, 116, 49, 46, 48]) || (L == [116, 101, 120, 116, 47, 106, 97, 118, 97, 115, 99, 114, 105, 112, 116, 49, 46, 49]) || (L == [116, 101, 120, 116, 47, 106, 97, 118, 97, 115, 99, 114, 105, 112, 116, 49, 46, 50]) || (L == [116, 101, 120, 116, 47, 106, 97, 118, 97, 115, 99, 114, 105, 112, 116, 49, 46, 51]) || (L == [116, 101, 120, 116, 47, 106, 97, 118, 97, 115, 99, 114, 105, 112, 116, 49, 46, 52]) || (L == [116, 101, 120, 116, 47, 106, 97, 118, 97, 115, 99, 114, 105, 112, 116, 49, 46, 53]) || (L == [116, 101, 120, 116, 47, 106, 115, 99, 114, 105, 112, 116]) || (L == [116, 101, 120, 116, 47, 108, 105, 118, 101, 115, 99, 114, 105, 112, 116]) || (L == [116, 101, 120, 116, 47, 120, 45, 101, 99, 109, 97, 115, 99, 114, 105, 112, 116]) || (L == [116, 101, 120, 116, 47, 120, 45, 106, 97, 118, 97, 115, 99, 114, 105, 112, 116]))) := by
    show _ = _
    unfold jssB jss
    simp only [List.contains_cons, List.contains_nil, Bool.or_false]
    all_goals simp only [Bool.or_assoc]
  obtain ⟨b0, hb0⟩ : ∃ b, (L == [97, 112, 112, 108, 105, 99, 97, 116, 105, 111, 110, 47, 101, 99, 109, 97, 115, 99, 114, 105, 112, 116]) = b := ⟨_, rfl⟩
  have q0 := (HB [97, 112, 112, 108, 105, 99, 97, 116, 105, 111, 110, 47, 101, 99, 109, 97, 115, 99, 114, 105, 112, 116]).out.trans hb0
  rw [hb0] at HV
  clear hb0
  obtain ⟨b1, hb1⟩ : ∃ b, (L == [97, 112, 112, 108, 105, 99, 97, 116, 105, 111, 110, 47, 106, 97, 118, 97, 115, 99, 114, 105, 112, 116]) = b := ⟨_, rfl⟩
  have q1 := (HB [97, 112, 112, 108, 105, 99, 97, 116, 105, 111, 110, 47, 106, 97, 118, 97, 115, 99, 114, 105, 112, 116]).out.trans hb1
  rw [hb1] at HV
  clear hb1
  obtain ⟨b2, hb2⟩ : ∃ b, (L == [97, 112, 112, 108, 105, 99, 97, 116, 105, 111, 110, 47, 120, 45, 101, 99, 109, 97, 115, 99, 114, 105, 112, 116]) = b := ⟨_, rfl⟩
  have q2 := (HB [97, 112, 112, 108, 105, 99, 97, 116, 105, 111, 110, 47, 120, 45, 101, 99, 109, 97, 115, 99, 114, 105, 112, 116]).out.trans hb2
  rw [hb2] at HV
  clear hb2
  obtain ⟨b3, hb3⟩ : ∃ b, (L == [97, 112, 112, 108, 105, 99, 97, 116, 105, 111, 110, 47, 120, 45, 106, 97, 118, 97, 115, 99, 114, 105, 112, 116]) = b := ⟨_, rfl⟩
  have q3 := (HB [97, 112, 112, 108, 105, 99, 97, 116, 105, 111, 110, 47, 120, 45, 106, 97, 118, 97, 115, 99, 114, 105, 112, 116]).out.trans hb3
  rw [hb3] at HV
  clear hb3
  obtain ⟨b4, hb4⟩ : ∃ b, (L == [116, 101, 120, 116, 47, 101, 99, 109, 97, 115, 99, 114, 105, 112, 116]) = b := ⟨_, rfl⟩
  have q4 := (HB [116, 101, 120, 116, 47, 101, 99, 109, 97, 115, 99, 114, 105, 112, 116]).out.trans hb4
  rw [hb4] at HV
  clear hb4
  obtain ⟨b5, hb5⟩ : ∃ b, (L == [116, 101, 120, 116, 47, 106, 97, 118, 97, 115, 99, 114, 105, 112, 116]) = b := ⟨_, rfl⟩
  have q5 := (HB [116, 101, 120, 116, 47, 106, 97, 118, 97, 115, 99, 114, 105, 112, 116]).out.trans hb5
  rw [hb5] at HV
  clear hb5
  obtain ⟨b6, hb6⟩ : ∃ b, (L == [116, 101, 120, 116, 47, 106, 97, 118, 97, 115, 99, 114, 105, 112, 116, 49, 46, 48]) = b := ⟨_, rfl⟩
  have q6 := (HB [116, 101, 120, 116, 47, 106, 97, 118, 97, 115, 99, 114, 105, 112, 116, 49, 46, 48]).out.trans hb6
  rw [hb6] at HV
  clear hb6
  obtain ⟨b7, hb7⟩ : ∃ b, (L == [116, 101, 120, 116, 47, 106, 97, 118, 97, 115, 99, 114, 105, 112, 116, 49, 46, 49]) = b := ⟨_, rfl⟩
  have q7 := (HB [116, 101, 120, 116, 47, 106, 97, 118, 97, 115, 99, 114, 105, 112, 116, 49, 46, 49]).out.trans hb7
  rw [hb7] at HV
  clear hb7
  obtain ⟨b8, hb8⟩ : ∃ b, (L == [116, 101, 120, 116, 47, 106, 97, 118, 97, 115, 99, 114, 105, 112, 116, 49, 46, 50]) = b := ⟨_, rfl⟩
  have q8 := (HB [116, 101, 120, 116, 47, 106, 97, 118, 97, 115, 99, 114, 105, 112, 116, 49, 46, 50]).out.trans hb8
  rw [hb8] at HV
  clear hb8
  obtain ⟨b9, hb9⟩ : ∃ b, (L == [116, 101, 120, 116, 47, 106, 97, 118, 97, 115, 99, 114, 105, 112, 116, 49, 46, 51]) = b := ⟨_, rfl⟩
  have q9 := (HB [116, 101, 120, 116, 47, 106, 97, 118, 97, 115, 99, 114, 105, 112, 116, 49, 46, 51]).out.trans hb9
  rw [hb9] at HV
  clear hb9
  obtain ⟨b10, hb10⟩ : ∃ b, (L == [116, 101, 120, 116, 47, 106, 97, 118, 97, 115, 99, 114, 105, 112, 116, 49, 46, 52]) = b := ⟨_, rfl⟩
  have q10 := (HB [116, 101, 120, 116, 47, 106, 97, 118, 97, 115, 99, 114, 105, 112, 116, 49, 46, 52]).out.trans hb10
  rw [hb10] at HV
  clear hb10
  obtain ⟨b11, hb11⟩ : ∃ b, (L == [116, 101, 120, 116, 47, 106, 97, 118, 97, 115, 99, 114, 105, 112, 116, 49, 46, 53]) = b := ⟨_, rfl⟩
  have q11 := (HB [116, 101, 120, 116, 47, 106, 97, 118, 97, 115, 99, 114, 105, 112, 116, 49, 46, 53]).out.trans hb11
  rw [hb11] at HV
  clear hb11
  obtain ⟨b12, hb12⟩ : ∃ b, (L == [116, 101, 120, 116, 47, 106, 115, 99, 114, 105, 112, 116]) = b := ⟨_, rfl⟩
  have q12 := (HB [116, 101, 120, 116, 47, 106, 115, 99, 114, 105, 112, 116]).out.trans hb12
  rw [hb12] at HV
  clear hb12
  obtain ⟨b13, hb13⟩ : ∃ b, (L == [116, 101, 120, 116, 47, 108, 105, 118, 101, 115, 99, 114, 105, 112, 116]) = b := ⟨_, rfl⟩
  have q13 := (HB [116, 101, 120, 116, 47, 108, 105, 118, 101, 115, 99, 114, 105, 112, 116]).out.trans hb13
  rw [hb13] at HV
  clear hb13
  obtain ⟨b14, hb14⟩ : ∃ b, (L == [116, 101, 120, 116, 47, 120, 45, 101, 99, 109, 97, 115, 99, 114, 105, 112, 116]) = b := ⟨_, rfl⟩
  have q14 := (HB [116, 101, 120, 116, 47, 120, 45, 101, 99, 109, 97, 115, 99, 114, 105, 112, 116]).out.trans hb14
  rw [hb14] at HV
  clear hb14
  obtain ⟨b15, hb15⟩ : ∃ b, (L == [116, 101, 120, 116, 47, 120, 45, 106, 97, 118, 97, 115, 99, 114, 105, 112, 116]) = b := ⟨_, rfl⟩
  have q15 := (HB [116, 101, 120, 116, 47, 120, 45, 106, 97, 118, 97, 115, 99, 114, 105, 112, 116]).out.trans hb15
  rw [hb15] at HV
  clear hb15
  clear HB
  have hcase : (b0 = true) ∨ (b0 = false ∧ b1 = true) ∨ (b0 = false ∧ b1 = false ∧ b2 = true) ∨ (b0 = false ∧ b1 = false ∧ b2 = false ∧ b3 = true) ∨ (b0 = false ∧ b1 = false ∧ b2 = false ∧ b3 = false ∧ b4 = true) ∨ (b0 = false ∧ b1 = false ∧ b2 = false ∧ b3 = false ∧ b4 = false ∧ b5 = true) ∨ (b0 = false ∧ b1 = false ∧ b2 = false ∧ b3 = false ∧ b4 = false ∧ b5 = false ∧ b6 = true) ∨ (b0 = false ∧ b1 = false ∧ b2 = false ∧ b3 = false ∧ b4 = false ∧ b5 = false ∧ b6 = false ∧ b7 = true) ∨ (b0 = false ∧ b1 = false ∧ b2 = false ∧ b3 = false ∧ b4 = false ∧ b5 = false ∧ b6 = false ∧ b7 = false ∧ b8 = true) ∨ (b0 = false ∧ b1 = false ∧ b2 = false ∧ b3 = false ∧ b4 = false ∧ b5 = false ∧ b6 = false ∧ b7 = false ∧ b8 = false ∧ b9 = true) ∨ (b0 = false ∧ b1 = false ∧ b2 = false ∧ b3 = false ∧ b4 = false ∧ b5 = false ∧ b6 = false ∧ b7 = false ∧ b8 = false ∧ b9 = false ∧ b10 = true) ∨ (b0 = false ∧ b1 = false ∧ b2 = false ∧ b3 = false ∧ b4 = false ∧ b5 = false ∧ b6 = false ∧ b7 = false ∧ b8 = false ∧ b9 = false ∧ b10 = false ∧ b11 = true) ∨ (b0 = false ∧ b1 = false ∧ b2 = false ∧ b3 = false ∧ b4 = false ∧ b5 = false ∧ b6 = false ∧ b7 = false ∧ b8 = false ∧ b9 = false ∧ b10 = false ∧ b11 = false ∧ b12 = true) ∨ (b0 = false ∧ b1 = false ∧ b2 = false ∧ b3 = false ∧ b4 = false ∧ b5 = false ∧ b6 = false ∧ b7 = false ∧ b8 = false ∧ b9 = false ∧ b10 = false ∧ b11 = false ∧ b12 = false ∧ b13 = true) ∨ (b0 = false ∧ b1 = false ∧ b2 = false ∧ b3 = false ∧ b4 = false ∧ b5 = false ∧ b6 = false ∧ b7 = false ∧ b8 = false ∧ b9 = false ∧ b10 = false ∧ b11 = false ∧ b12 = false ∧ b13 = false ∧ b14 = true) ∨ (b0 = false ∧ b1 = false ∧ b2 = false ∧ b3 = false ∧ b4 = false ∧ b5 = false ∧ b6 = false ∧ b7 = false ∧ b8 = false ∧ b9 = false ∧ b10 = false ∧ b11 = false ∧ b12 = false ∧ b13 = false ∧ b14 = false ∧ b15 = true) ∨ (b0 = false ∧ b1 = false ∧ b2 = false ∧ b3 = false ∧ b4 = false ∧ b5 = false ∧ b6 = false ∧ b7 = false ∧ b8 = false ∧ b9 = false ∧ b10 = false ∧ b11 = false ∧ b12 = false ∧ b13 = false ∧ b14 = false ∧ b15 = false) := by
    clear HV; exact pick16 b0 b1 b2 b3 b4 b5 b6 b7 b8 b9 b10 b11 b12 b13 b14 b15
  rcases hcase with rfl | ⟨rfl, rfl⟩ | ⟨rfl, rfl, rfl⟩ | ⟨rfl, rfl, rfl, rfl⟩ | ⟨rfl, rfl, rfl, rfl, rfl⟩ | ⟨rfl, rfl, rfl, rfl, rfl, rfl⟩ | ⟨rfl, rfl, rfl, rfl, rfl, rfl, rfl⟩ | ⟨rfl, rfl, rfl, rfl, rfl, rfl, rfl, rfl⟩ | ⟨rfl, rfl, rfl, rfl, rfl, rfl, rfl, rfl, rfl⟩ | ⟨rfl, rfl, rfl, rfl, rfl, rfl, rfl, rfl, rfl, rfl⟩ | ⟨rfl, rfl, rfl, rfl, rfl, rfl, rfl, rfl, rfl, rfl, rfl⟩ | ⟨rfl, rfl, rfl, rfl, rfl, rfl, rfl, rfl, rfl, rfl, rfl, rfl⟩ | ⟨rfl, rfl, rfl, rfl, rfl, rfl, rfl, rfl, rfl, rfl, rfl, rfl, rfl⟩ | ⟨rfl, rfl, rfl, rfl, rfl, rfl, rfl, rfl, rfl, rfl, rfl, rfl, rfl, rfl⟩ | ⟨rfl, rfl, rfl, rfl, rfl, rfl, rfl, rfl, rfl, rfl, rfl, rfl, rfl, rfl, rfl⟩ | ⟨rfl, rfl, rfl, rfl, rfl, rfl, rfl, rfl, rfl, rfl, rfl, rfl, rfl, rfl, rfl, rfl⟩ | ⟨rfl, rfl, rfl, rfl, rfl, rfl, rfl, rfl, rfl, rfl, rfl, rfl, rfl, rfl, rfl, rfl⟩
  all_goals
    go_enter Try.func20, Try.ntmps20
    go_wp2
    go_ret
    rw [HV.out]
    exact ⟨by simp, rfl⟩
theorem suffix_any (s : ByteArray) (p : List UInt8) (w : World) (hs : s.size ≤ 140737488351232) : Calls Try.prog 16 #[.string s, .string (strOf p)] w fun e w' => e = .returned (.bool (suf p s.data.toList)) ∧ w = w' :=
  (Try.strings_HasSuffix s (strOf p) w (by omega)).mono fun _ _ ⟨he, hw⟩ => ⟨he, hw.symm⟩
theorem suf_drop (p L : List UInt8) : suf p L = (decide (p.length ≤ L.length) && (L.drop (L.length - p.length) == p)) := by
  unfold suf Lib.hasSuffix
  rw [Bool.eq_iff_iff, List.isSuffixOf_iff_suffix, List.suffix_iff_eq_drop, Bool.and_eq_true, decide_eq_true_iff, beq_iff_eq]
  constructor
  · intro h
    refine ⟨?_, h.symm⟩
    rw [h, List.length_drop]
    omega
  · rintro ⟨_, h⟩
    exact h.symm
theorem ext_from (s : ByteArray) (k n : Nat) (h : n = s.size) : s.extract k n = strOf (s.data.toList.drop k) := by
  subst h
  apply ByteArray.ext
  apply Array.ext'
  rw [ByteArray.data_extract]
  simp only [strOf, Array.toList_extract, List.extract_eq_take_drop]
  rw [List.take_of_length_le]
  rw [List.length_drop, Array.length_toList]
  exact Nat.le_refl _
set_option maxRecDepth 100000 in
theorem ends_any (s : ByteArray) (p : List UInt8) (w : World) (hs : s.size ≤ 140737488351232) (hp : p.length ≤ 100) : Calls Try.prog 13 #[.string s, .string (strOf p)] w fun e w' => e = .returned (.bool (suf p s.data.toList)) ∧ w = w' := by
  have hsz := size_strOf p
  by_cases h : p.length ≤ s.size
  · have hx := ext_from s (s.size - p.length) s.size rfl
    have hI : (p.length : Int) ≤ (s.size : Int) := by omega
    have hN : ((s.size : Int) - (p.length : Int)).toNat = s.size - p.length := by omega
    obtain ⟨b, hb⟩ : ∃ b, (s.data.toList.drop (s.size - p.length) == p) = b := ⟨_, rfl⟩
    obtain ⟨M, hM⟩ : ∃ M, M = s.data.toList.drop (s.size - p.length) := ⟨_, rfl⟩
    have HV : Hid (suf p s.data.toList = b) := by
      show _ = _
      rw [suf_drop, dlen, hb, show decide (p.length ≤ s.size) = true by simpa using h, Bool.true_and]
    rw [← hM] at hx hb
    have q : ((strOf M).toList == (strOf p).toList) = b := by rw [strOf, strOf, ByteArray.toList_mk, ByteArray.toList_mk]; exact hb
    clear hb hM
    go_enter Try.func13, Try.ntmps13
    go_wp2
    all_goals
      go_ret
      rw [HV.out]
      exact ⟨rfl, rfl⟩
  · have hI : ¬ (p.length : Int) ≤ (s.size : Int) := by omega
    have HV : Hid (suf p s.data.toList = false) := by
      show _ = _
      rw [suf_drop, dlen, show decide (p.length ≤ s.size) = false by simpa using h, Bool.false_and]
    go_enter Try.func13, Try.ntmps13
    go_wp2
    all_goals
      go_ret
      rw [HV.out]
      exact ⟨rfl, rfl⟩
def oneB (S a : List UInt8) (l : List (List UInt8)) : Bool := l.any fun x => S == a ++ x
set_option maxRecDepth 100000 in
theorem one_any (s : ByteArray) (a : List UInt8) (A : Option Addr) (n cap : Nat) (l : List (List UInt8)) (w : World) (hr : Rds w A n (l.map fun x => Value.string (strOf x))) (hn : n ≤ 100) (hl : ∀ x ∈ l, x.length ≤ 100) (ha : a.length ≤ 100) :
    Calls Try.prog 12 #[.string s, .string (strOf a), .slice A n cap] w fun e w' => e = .returned (.bool (oneB s.data.toList a l)) ∧ w = w' := by
  have hln : l.length = n := by have := hr.1; simpa using this
  have HR := hid hr
  have HLN := hid hln
  have HL := hid hl
  clear hr hln hl
  go_enter Try.func12, Try.ntmps12
  go_wp2
  go_loop [10] (fun vk => ∃ k : Nat, k ≤ n ∧ vk = .int .i64 (k : Int) ∧ Hid (oneB s.data.toList a l = oneB s.data.toList a (l.drop k))) (fun vk => n - (intOf vk).toNat)
  case atStart => exact ⟨0, Nat.zero_le _, rfl, rfl⟩
  case round =>
    obtain ⟨k, hk, rfl, HQ⟩ := hrel
    by_cases hlt : k < n
    · have hlt' : k < l.length := by rw [HLN.out]; exact hlt
      obtain ⟨x, hx⟩ : ∃ x, x = l[k] := ⟨_, rfl⟩
      have hxl : x.length ≤ 100 := HL.out x (by rw [hx]; exact List.getElem_mem _)
      obtain ⟨b, off, rfl, hb, hc⟩ := HR.out.spot (by omega)
      have hcell := hc k (by simpa using hlt')
      rw [List.getElem_map, ← hx] at hcell
      have HD : Hid (l.drop k = x :: l.drop (k + 1)) := by
        show _ = _
        rw [List.drop_eq_getElem_cons hlt', hx]
      clear hx hc
      have hadd := str_add (P := Try.prog) a x w (by omega)
      obtain ⟨t, ht⟩ : ∃ t, (s.data.toList == a ++ x) = t := ⟨_, rfl⟩
      have HT := hid ht
      have q : (s.toList == (strOf (a ++ x)).toList) = t := by rw [strOf, ByteArray.toList_mk, Lib.toList_data]; exact ht
      obtain ⟨Z, hZ⟩ : ∃ Z, Z = strOf (a ++ x) := ⟨_, rfl⟩
      rw [← hZ] at hadd q
      clear hZ ht
      cases t
      · have HN : Hid (oneB s.data.toList a l = oneB s.data.toList a (l.drop (k + 1))) := by
          show _ = _
          rw [HQ.out, HD.out]
          unfold oneB
          rw [List.any_cons, HT.out, Bool.false_or]
        go_wp2
        go_round
        case rel => exact ⟨k + 1, by omega, by go_num, HN⟩
        case measure => simp [intOf]; omega
      · have HN : Hid (oneB s.data.toList a l = true) := by
          show _ = _
          rw [HQ.out, HD.out]
          unfold oneB
          rw [List.any_cons, HT.out, Bool.true_or]
        go_wp2
        go_ret
        rw [HN.out]
        exact ⟨rfl, rfl⟩
    · obtain rfl : k = n := by omega
      have HN : Hid (oneB s.data.toList a l = false) := by
        show _ = _
        rw [HQ.out, ← HLN.out, List.drop_length]
        rfl
      go_wp2
      go_ret
      rw [HN.out]
      exact ⟨rfl, rfl⟩
end Go.Proofs.Ytbkobobnbdblbaa.GrpA
