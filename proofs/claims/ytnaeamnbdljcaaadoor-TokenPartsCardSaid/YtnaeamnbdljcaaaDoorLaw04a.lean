/- The walks of the laws TokenQuotes, TokenBack and TokenParts: each returns true, whatever it is called with. -/
import Derived.Test.YtnaeamnbdljcaaaDoorTokW
import Derived.Test.YtnaeamnbdljcaaaDoorRegs
namespace Go.Proofs.YtnaeamnbdljcaaaDoor.Laws
open Go.RowKit Go.Proofs.YtnaeamnbdljcaaaDoor.Base Go.Proofs.YtnaeamnbdljcaaaDoor.Base2 Go.Proofs.YtnaeamnbdljcaaaDoor.TokP Go.Proofs.YtnaeamnbdljcaaaDoor.TokQ Go.Proofs.YtnaeamnbdljcaaaDoor.TokA Go.Proofs.YtnaeamnbdljcaaaDoor.TokT

theorem dlen (s : ByteArray) : s.data.toList.length = s.size := Array.length_toList
set_option maxHeartbeats 2000000 in
set_option maxRecDepth 100000 in
theorem TokenQuotes_any (s : ByteArray) (w : World) (_hs : s.size ≤ 140737488351232) :
    Calls Tryd.prog 4 #[.string s] w fun e w' => e = .returned (.bool true) ∧ Below w.heap.size w w' := by
  by_cases h5 : s.size ≤ 500
  · have p1 : ¬ (500 : Int) < (s.size : Int) := by omega
    obtain ⟨J, hJ⟩ : ∃ J, J = strOf ([34] ++ s.data.toList) := ⟨_, rfl⟩
    have hadd : ∀ w, (Op.stringOp .add ⟨#[34]⟩ s).run Tryd.prog w = .ok (.string J) w := fun w => by rw [hJ]; exact str_add' ⟨#[34]⟩ s w (by show 1 + s.size ≤ _; omega)
    have hJs : J.size ≤ 501 := by rw [hJ, size_strOf, List.length_append, dlen]; simp only [List.length_cons, List.length_nil]; omega
    clear hJ
    obtain ⟨X, n, hX⟩ : ∃ X n, (X, n) = qval s.data.toList := ⟨_, _, rfl⟩
    obtain ⟨Y, m, hY⟩ : ∃ X n, (X, n) = qval J.data.toList := ⟨_, _, rfl⟩
    obtain ⟨Z, hZ⟩ : ∃ Z, Z = qq s.data.toList := ⟨_, rfl⟩
    have HX := hid hX
    have HY := hid hY
    have HZ := hid hZ
    clear hX hY hZ
    go_enter Tryd.func4, Tryd.ntmps4
    go_wp2_with fail
    refine (TokW.awake_any _).mono ?_
    rintro e w1 ⟨rfl, hb1⟩
    go_wp2_with fail
    refine (quoted_any s _ (by omega)).mono ?_
    rintro e w2 ⟨rfl, hb2⟩
    rw [← HX.out]
    go_wp2_with fail
    refine (TokR.ref_quoted s _ (by omega)).mono ?_
    rintro e w3 ⟨rfl, hb3⟩
    rw [← HX.out]
    go_wp2_with fail
    refine (quoted_any J _ (by omega)).mono ?_
    rintro e w4 ⟨rfl, hb4⟩
    rw [← HY.out]
    go_wp2_with fail
    refine (TokR.ref_quoted J _ (by omega)).mono ?_
    rintro e w5 ⟨rfl, hb5⟩
    rw [← HY.out]
    go_wp2_with fail
    refine (TokS.quote_any s _ (by omega)).mono ?_
    rintro e w6 ⟨rfl, hb6⟩
    rw [← HZ.out]
    go_wp2_with fail
    refine (TokS.ref_quote s _ (by omega)).mono ?_
    rintro e w7 ⟨rfl, hb7⟩
    rw [← HZ.out]
    go_wp2_with fail
    go_ret
    exact ⟨rfl, bel (bel (bel (bel (bel (bel hb1 hb2) hb3) hb4) hb5) hb6) hb7⟩
  · have p1 : (500 : Int) < (s.size : Int) := by omega
    go_enter Tryd.func4, Tryd.ntmps4
    go_wp2_with fail
    refine (TokW.awake_any _).mono ?_
    rintro e w1 ⟨rfl, hb1⟩
    go_wp2_with fail
    refine (TokW.awake_any _).mono ?_
    rintro e w2 ⟨rfl, hb2⟩
    go_wp2_with fail
    go_ret
    exact ⟨rfl, bel hb1 hb2⟩
set_option maxHeartbeats 2000000 in
set_option maxRecDepth 100000 in
theorem TokenBack_any (s t : ByteArray) (w : World) (hs : s.size ≤ 140737488351232) (ht : t.size ≤ 140737488351232) :
    Calls Tryd.prog 5 #[.string s, .string t] w fun e w' => e = .returned (.bool true) ∧ Below w.heap.size w w' := by
  by_cases h5 : s.size + t.size ≤ 500
  · have p1 : ¬ (500 : Int) < (s.size : Int) + (t.size : Int) := by omega
    have HQL : Hid ((qq s.data.toList).length ≤ 1002) := by
      have := qq_len s.data.toList
      rw [dlen] at this
      show (qq s.data.toList).length ≤ 1002
      omega
    obtain ⟨Z, hZ⟩ : ∃ Z, Z = qq s.data.toList := ⟨_, rfl⟩
    have HV : Hid (qval (Z ++ t.data.toList) = (s.data.toList, Z.length)) := by rw [hZ]; exact qval_qq _ _
    rw [← hZ] at HQL
    have hsz : (strOf Z).size = Z.length := size_strOf Z
    obtain ⟨J, hJ⟩ : ∃ J, J = strOf (Z ++ t.data.toList) := ⟨_, rfl⟩
    have hadd : ∀ w, (Op.stringOp .add (strOf Z) t).run Tryd.prog w = .ok (.string J) w := fun w => by rw [hJ]; exact str_add' (strOf Z) t w (by rw [size_strOf]; have := HQL.out; omega)
    have HV2 : Hid (qval J.data.toList = (s.data.toList, Z.length)) := by rw [hJ]; exact HV.out
    have HJs : Hid (J.size ≤ 2000) := by
      show _ ≤ _
      rw [hJ, size_strOf, List.length_append, dlen]
      have := HQL.out
      omega
    have HZ := hid hZ
    have hback := strOf_toList s
    clear hJ hZ HV
    go_enter Tryd.func5, Tryd.ntmps5
    go_wp2_with fail
    refine (TokW.awake_any _).mono ?_
    rintro e w1 ⟨rfl, hb1⟩
    go_wp2_with fail
    refine (TokS.quote_any s _ (by omega)).mono ?_
    rintro e w2 ⟨rfl, hb2⟩
    rw [← HZ.out]
    go_wp2_with fail
    refine (quoted_any J _ (by have := HJs.out; omega)).mono ?_
    rintro e w3 ⟨rfl, hb3⟩
    rw [HV2.out]
    go_wp2_with fail
    go_ret
    exact ⟨rfl, bel (bel hb1 hb2) hb3⟩
  · have p1 : (500 : Int) < (s.size : Int) + (t.size : Int) := by omega
    go_enter Tryd.func5, Tryd.ntmps5
    go_wp2_with fail
    refine (TokW.awake_any _).mono ?_
    rintro e w1 ⟨rfl, hb1⟩
    go_wp2_with fail
    refine (TokW.awake_any _).mono ?_
    rintro e w2 ⟨rfl, hb2⟩
    go_wp2_with fail
    go_ret
    exact ⟨rfl, bel hb1 hb2⟩
def Full (s : ByteArray) : Prop := s.toList.isEmpty = false ∧ (s.toList == []) = false
theorem three (s : ByteArray) : (s.toList = [] ∧ s.data.toList.isEmpty = true ∧ isTok s.data.toList = false) ∨ (s.toList.isEmpty = false ∧ (s.toList == []) = false) ∧ s.data.toList.isEmpty = false ∧ isTok s.data.toList = true ∨ (s.toList.isEmpty = false ∧ (s.toList == []) = false) ∧ s.data.toList.isEmpty = false ∧ isTok s.data.toList = false := by
  rcases Nat.eq_zero_or_pos s.size with h0 | h0
  · have e := empty_of s h0
    exact .inl ⟨toList_eq s h0, by rw [e]; rfl, by rw [e]; rfl⟩
  · have e0 := toList_ne s h0
    have e1 : s.data.toList.isEmpty = false := by rw [← Lib.toList_data]; exact e0
    cases h : isTok s.data.toList
    · exact .inr (.inr ⟨⟨e0, toList_ne' s h0⟩, e1, rfl⟩)
    · exact .inr (.inl ⟨⟨e0, toList_ne' s h0⟩, e1, rfl⟩)
theorem emp_app (a b : List UInt8) : (a ++ b).isEmpty = (a.isEmpty && b.isEmpty) := by cases a <;> rfl
theorem one_of (J : ByteArray) : (J.data.toList.isEmpty = true → J.toList = []) ∧ (J.data.toList.isEmpty = false → J.toList.isEmpty = false ∧ (J.toList == []) = false) := by
  rw [← Lib.toList_data]
  cases J.toList <;> simp
set_option maxHeartbeats 8000000 in
set_option maxRecDepth 100000 in
theorem TokenParts_any (a b : ByteArray) (w : World) (ha : a.size ≤ 140737488351232) (hb : b.size ≤ 140737488351232) :
    Calls Tryd.prog 6 #[.string a, .string b] w fun e w' => e = .returned (.bool true) ∧ Below w.heap.size w w' := by
  by_cases h5 : a.size + b.size ≤ 500
  · have p1 : ¬ (500 : Int) < (a.size : Int) + (b.size : Int) := by omega
    obtain ⟨J, hJ⟩ : ∃ J, J = strOf (a.data.toList ++ b.data.toList) := ⟨_, rfl⟩
    have hadd : ∀ w, (Op.stringOp .add a b).run Tryd.prog w = .ok (.string J) w := fun w => by rw [hJ]; exact str_add' a b w (by omega)
    have HJs : Hid (J.size ≤ 500) := by
      show _ ≤ _
      rw [hJ, size_strOf, List.length_append, Array.length_toList, Array.length_toList]
      exact h5
    have HJ : Hid (J.data.toList = a.data.toList ++ b.data.toList) := by rw [hJ]; exact rfl
    clear hJ
    have hv := isTok_append a.data.toList b.data.toList
    have hje : J.data.toList.isEmpty = (a.data.toList.isEmpty && b.data.toList.isEmpty) := by rw [HJ.out, emp_app]
    rw [emp_app, ← HJ.out] at hv
    rcases three a with ⟨ea, za, ta⟩ | ⟨⟨ea, ea'⟩, za, ta⟩ | ⟨⟨ea, ea'⟩, za, ta⟩
    all_goals rcases three b with ⟨eb, zb, tb⟩ | ⟨⟨eb, eb'⟩, zb, tb⟩ | ⟨⟨eb, eb'⟩, zb, tb⟩
    all_goals
      rw [ta, tb, za, zb] at hv
      rw [za, zb] at hje
      simp only [Bool.or_true, Bool.or_false, Bool.and_true, Bool.and_false, Bool.not_true, Bool.not_false, Bool.true_and, Bool.false_and] at hv hje
      first | (have hj0 := (one_of J).1 hje) | (obtain ⟨hj0, hj1⟩ := (one_of J).2 hje)
      have HA := hid ta
      have HB := hid tb
      have HV := hid hv
      clear ta tb hv za zb hje
      go_enter Tryd.func6, Tryd.ntmps6
      go_wp2_with fail
      refine (TokW.awake_any _).mono ?_
      rintro e w1 ⟨rfl, hb1⟩
      go_wp2_with fail
      refine (is_any a _ (by omega)).mono ?_
      rintro e w2 ⟨rfl, rfl⟩
      rw [HA.out]
      go_wp2_with fail
      refine (is_any b _ (by omega)).mono ?_
      rintro e w2 ⟨rfl, rfl⟩
      rw [HB.out]
      go_wp2_with fail
      refine (is_any J _ (by have := HJs.out; omega)).mono ?_
      rintro e w2 ⟨rfl, rfl⟩
      rw [HV.out]
      go_wp2_with fail
      go_ret
      exact ⟨rfl, hb1⟩
  · have p1 : (500 : Int) < (a.size : Int) + (b.size : Int) := by omega
    go_enter Tryd.func6, Tryd.ntmps6
    go_wp2_with fail
    refine (TokW.awake_any _).mono ?_
    rintro e w1 ⟨rfl, hb1⟩
    go_wp2_with fail
    refine (TokW.awake_any _).mono ?_
    rintro e w2 ⟨rfl, hb2⟩
    go_wp2_with fail
    go_ret
    exact ⟨rfl, bel hb1 hb2⟩
end Go.Proofs.YtnaeamnbdljcaaaDoor.Laws
