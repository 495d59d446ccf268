/- Texts that belong together: UrlH. -/
import Derived.Test.YtmdofbccebkbiaaGreatDoorMX
import Derived.Deep.DeepCutAuto
set_option linter.unusedSimpArgs false
set_option linter.unusedVariables false
namespace Go.Proofs.YtmdofbccebkbiaaGreatDoor.UrlH
open Go.RowKit Base Base2 UrlP UrlC UrlD
def refL (f : Bool) (s0 : ByteArray) (s1 : ByteArray) (s2 : ByteArray) (s3 : ByteArray) (b4 : Bool) (z5 : Int) (b6 : Bool) (s7 : ByteArray) (A : Option Addr) (n cap : Nat) (l : List ByteArray) (b9 : Bool) (b10 : Bool) (s11 : ByteArray) (s12 : ByteArray) : List UInt8 := bareL s0 s1 s2 s3 b4 z5 b6 s7 l b9 s11 ++ (if b10 && f then 35 :: s12.data.toList else [])
set_option maxRecDepth 100000 in
set_option maxHeartbeats 16000000 in
theorem refPrint_any (f : Bool) (s0 : ByteArray) (s1 : ByteArray) (s2 : ByteArray) (s3 : ByteArray) (b4 : Bool) (z5 : Int) (b6 : Bool) (s7 : ByteArray) (A : Option Addr) (n cap : Nat) (l : List ByteArray) (b9 : Bool) (b10 : Bool) (s11 : ByteArray) (s12 : ByteArray) (w : World) (hR : Rds w A n (l.map Value.string)) (hnc : n ≤ cap) (hcm : cap ≤ maxLen) (hs0 : s0.size ≤ 1073741824) (hs1 : s1.size ≤ 1073741824) (hs2 : s2.size ≤ 1073741824) (hs3 : s3.size ≤ 1073741824) (hs7 : s7.size ≤ 1073741824) (hs11 : s11.size ≤ 1073741824) (hs12 : s12.size ≤ 1073741824) (hz : -9223372036854775808 ≤ z5) (hz' : z5 ≤ 9223372036854775807) (hl : (pth l).length ≤ 1073741824) :
  Calls Tryz.prog 22 #[.agg #[.string s0, .string s1, .string s2, .string s3, .bool b4, .int .i64 z5, .bool b6, .string s7, .slice A n cap, .bool b9, .bool b10, .string s11, .string s12], .bool f] w fun e w' => e = .returned (.string (strOf (refL f s0 s1 s2 s3 b4 z5 b6 s7 A n cap l b9 b10 s11 s12))) ∧ Below w.heap.size w w' := by
 have hn : l.length = n := by rw [← hR.1, List.length_map]
 have HN := hid hn
 have hl0 : s0.data.toList.length = s0.size := Array.length_toList
 have hl7 : s7.data.toList.length = s7.size := Array.length_toList
 obtain ⟨IT, hIT⟩ : ∃ X, X = Lib.itoa z5 := ⟨_, rfl⟩
 have lIT : IT.length ≤ 20 := by rw [hIT]; exact itoa_len z5 hz hz'
 have HIT := hid hIT
 obtain ⟨PL, hPL⟩ : ∃ X, X = pathL b6 s7 l := ⟨_, rfl⟩
 have lPL : PL.length ≤ 1073741824 := by rw [hPL]; unfold pathL; split <;> omega
 have HPL := hid hPL
 obtain ⟨X0, hX0⟩ : ∃ X, X = s0.data.toList ++ [58] := ⟨_, rfl⟩
 have lX0 : X0.length ≤ 1073741825 := by rw [hX0, List.length_append]; show _ + 1 ≤ _; omega
 have aX0 : ∀ w : World, (Op.stringOp .add s0 ⟨#[58]⟩).run Tryz.prog w = .ok (.string (strOf X0)) w := fun w => by rw [hX0]; exact str_add' s0 ⟨#[58]⟩ w (by show s0.size + 1 ≤ _; omega)
 have HX0 := hid hX0
 obtain ⟨M, hM⟩ : ∃ X, X = X0 ++ midL s1 s2 s3 b4 z5 b6 l := ⟨_, rfl⟩
 have lM : M.length ≤ 5368709121 := by rw [hM, List.length_append]; have := mid_len s1 s2 s3 b4 z5 b6 l hs1 hs2 hs3 hz hz'; omega
 have HM := hid hM
 clear hn hl0 hl7 hIT hPL hX0 hM
 obtain ⟨N1, hN1⟩ : ∃ R, R = M ++ PL := ⟨_, rfl⟩
 have lN1 : N1.length ≤ 6442450945 := by rw [hN1, List.length_append]; omega
 have aN1 : ∀ w : World, (Op.stringOp .add (strOf M) (strOf PL)).run Tryz.prog w = .ok (.string (strOf N1)) w := fun w => by rw [hN1]; exact str_add _ _ w (by omega)
 have HN1 := hid hN1
 clear hN1
 obtain ⟨N2, hN2⟩ : ∃ R, R = N1 ++ [63] := ⟨_, rfl⟩
 have lN2 : N2.length ≤ 6442450946 := by rw [hN2, List.length_append]; show _ + 1 ≤ _; omega
 have aN2 : ∀ w : World, (Op.stringOp .add (strOf N1) ⟨#[63]⟩).run Tryz.prog w = .ok (.string (strOf N2)) w := fun w => by rw [hN2]; exact str_add' _ ⟨#[63]⟩ w (by rw [size_strOf]; show _ + 1 ≤ _; omega)
 have HN2 := hid hN2
 clear hN2
 obtain ⟨N3, hN3⟩ : ∃ R, R = N2 ++ s11.data.toList := ⟨_, rfl⟩
 have lN3 : N3.length ≤ 7516192770 := by rw [hN3, List.length_append, show s11.data.toList.length = s11.size from Array.length_toList]; omega
 have aN3 : ∀ w : World, (Op.stringOp .add (strOf N2) s11).run Tryz.prog w = .ok (.string (strOf N3)) w := fun w => by rw [hN3]; exact str_add' _ s11 w (by rw [size_strOf]; omega)
 have HN3 := hid hN3
 clear hN3
 have HR := hid hR
 have HLL := hid hl
 clear hR hl
 have hcm' := hcm
 unfold maxLen at hcm
 go_enter Tryz.func22, Tryz.ntmps22
 go_upto_region 1 with (fail)
 generalize hw1 : w.alloc _ = w1
 have hb1 : Below w.heap.size w w1 := by rw [← hw1]; exact (Below.refl _ _).alloc (Nat.le_refl _) _
 have hlt1 : w.heap.size < w1.heap.size := by rw [← hw1]; simp
 have HBX1 : Hid (Box w1 w.heap.size #[.string s0, .string s1, .string s2, .string s3, .bool b4, .int .i64 z5, .bool b6, .string s7, .slice A n cap, .bool b9, .bool b10, .string s11, .string s12]) := by
  show _ = _
  rw [← hw1]
  exact heap_alloc_new w _
 clear hw1
 obtain ⟨c0, c1, c2, c3, c4, c5, c6, c7, c8, c9, c10, c11, c12⟩ := cells13 HBX1.out
 go_upto_if 10 with (fail)
 go_cut [5] (fun v wx => v = .string (strOf M) ∧ Hid (Below w1.heap.size w1 wx))
 case first =>
  cases b4 with
  | true =>
   obtain ⟨Y1, hY1⟩ : ∃ R, R = X0 ++ [47, 47] := ⟨_, rfl⟩
   have lY1 : Y1.length ≤ 1073741827 := by rw [hY1, List.length_append]; show _ + 2 ≤ _; omega
   have aY1 : ∀ w : World, (Op.stringOp .add (strOf X0) ⟨#[47, 47]⟩).run Tryz.prog w = .ok (.string (strOf Y1)) w := fun w => by rw [hY1]; exact str_add' _ ⟨#[47, 47]⟩ w (by rw [size_strOf]; show _ + 2 ≤ _; omega)
   have HY1 := hid hY1
   clear hY1
   obtain ⟨Y2, hY2⟩ : ∃ R, R = Y1 ++ s1.data.toList := ⟨_, rfl⟩
   have lY2 : Y2.length ≤ 2147483651 := by rw [hY2, List.length_append, show s1.data.toList.length = s1.size from Array.length_toList]; omega
   have aY2 : ∀ w : World, (Op.stringOp .add (strOf Y1) s1).run Tryz.prog w = .ok (.string (strOf Y2)) w := fun w => by rw [hY2]; exact str_add' _ s1 w (by rw [size_strOf]; omega)
   have HY2 := hid hY2
   clear hY2
   obtain ⟨V, hV⟩ : ∃ V, V = strOf (s1.data.toList ++ s2.data.toList) := ⟨_, rfl⟩
   have aV : ∀ w : World, (Op.stringOp .add s1 s2).run Tryz.prog w = .ok (.string V) w := fun w => by rw [hV]; exact str_add' s1 s2 w (by omega)
   have HVV := hid hV
   clear hV
   by_cases e2 : s2.data.toList = []
   ·have q2 : s2.toList = [] := by rw [tl]; exact e2
    by_cases e1 : s1.data.toList = []
    ·have q3 : V.toList = [] := by rw [tl, HVV.out]; show _ ++ _ = _; rw [e1, e2]; rfl
     have HCR : Hid (credL s1 s2 = []) := by show _ = _; unfold credL; rw [if_pos e2, if_pos e1]
     have HS1 := hid e1
     clear e1 e2
     obtain ⟨Z1, hZ1⟩ : ∃ R, R = Y2 ++ s3.data.toList := ⟨_, rfl⟩
     have lZ1 : Z1.length ≤ 3221225475 := by rw [hZ1, List.length_append, show s3.data.toList.length = s3.size from Array.length_toList]; omega
     have aZ1 : ∀ w : World, (Op.stringOp .add (strOf Y2) s3).run Tryz.prog w = .ok (.string (strOf Z1)) w := fun w => by rw [hZ1]; exact str_add' _ s3 w (by rw [size_strOf]; omega)
     have HZ1 := hid hZ1
     clear hZ1
     by_cases hp : z5 = -1
     ·have q1 : (z5 == -1) = true := by simpa using hp
      have q2 : (z5 != -1) = false := by simpa using hp
      have HP : Hid (portL z5 = []) := if_pos hp
      have HV : Hid (M = Z1) := by show _ = _; rw [HM.out, HZ1.out, HY2.out, HY1.out, HS1.out]; unfold midL; rw [if_pos rfl, HP.out, HCR.out]; simp
      clear hp
      go_wp2
      go_meet
      exact ⟨by rw [HV.out], Below.refl _ _⟩
     ·have q1 : (z5 == -1) = false := by simpa using hp
      have q2 : (z5 != -1) = true := by simpa using hp
      have HP : Hid (portL z5 = 58 :: Lib.itoa z5) := if_neg hp
      obtain ⟨Z2, hZ2⟩ : ∃ R, R = Z1 ++ [58] := ⟨_, rfl⟩
      have lZ2 : Z2.length ≤ 3221225476 := by rw [hZ2, List.length_append]; show _ + 1 ≤ _; omega
      have aZ2 : ∀ w : World, (Op.stringOp .add (strOf Z1) ⟨#[58]⟩).run Tryz.prog w = .ok (.string (strOf Z2)) w := fun w => by rw [hZ2]; exact str_add' _ ⟨#[58]⟩ w (by rw [size_strOf]; show _ + 1 ≤ _; omega)
      have HZ2 := hid hZ2
      clear hZ2
      obtain ⟨Z3, hZ3⟩ : ∃ R, R = Z2 ++ IT := ⟨_, rfl⟩
      have lZ3 : Z3.length ≤ 3221225496 := by rw [hZ3, List.length_append]; omega
      have aZ3 : ∀ w : World, (Op.stringOp .add (strOf Z2) (strOf IT)).run Tryz.prog w = .ok (.string (strOf Z3)) w := fun w => by rw [hZ3]; exact str_add _ _ w (by omega)
      have HZ3 := hid hZ3
      clear hZ3
      have HV : Hid (M = Z3) := by show _ = _; rw [HM.out, HZ3.out, HZ2.out, HZ1.out, HY2.out, HY1.out, HS1.out, HIT.out]; unfold midL; rw [if_pos rfl, HP.out, HCR.out]; simp
      clear hp
      go_wp2_with fail
      refine (port_any z5 _ hz hz').mono ?_
      rintro e w3 ⟨rfl, hb3⟩
      rw [← HIT.out]
      go_wp2
      go_meet
      exact ⟨by rw [HV.out], hb3⟩
    ·have q3 : (V.toList == []) = false := by rw [tl, HVV.out]; show (_ ++ _ == _) = false; rw [e2]; simpa using e1
     have q4 : V.toList.isEmpty = false := by rw [tl, HVV.out]; show List.isEmpty (_ ++ _) = false; rw [e2]; simpa using e1
     have HCR : Hid (credL s1 s2 = s1.data.toList ++ [64]) := by show _ = _; unfold credL; rw [if_pos e2, if_neg e1]
     clear e1 e2
     obtain ⟨Y5, hY5⟩ : ∃ R, R = Y2 ++ [64] := ⟨_, rfl⟩
     have lY5 : Y5.length ≤ 2147483652 := by rw [hY5, List.length_append]; show _ + 1 ≤ _; omega
     have aY5 : ∀ w : World, (Op.stringOp .add (strOf Y2) ⟨#[64]⟩).run Tryz.prog w = .ok (.string (strOf Y5)) w := fun w => by rw [hY5]; exact str_add' _ ⟨#[64]⟩ w (by rw [size_strOf]; show _ + 1 ≤ _; omega)
     have HY5 := hid hY5
     clear hY5
     obtain ⟨Z1, hZ1⟩ : ∃ R, R = Y5 ++ s3.data.toList := ⟨_, rfl⟩
     have lZ1 : Z1.length ≤ 3221225476 := by rw [hZ1, List.length_append, show s3.data.toList.length = s3.size from Array.length_toList]; omega
     have aZ1 : ∀ w : World, (Op.stringOp .add (strOf Y5) s3).run Tryz.prog w = .ok (.string (strOf Z1)) w := fun w => by rw [hZ1]; exact str_add' _ s3 w (by rw [size_strOf]; omega)
     have HZ1 := hid hZ1
     clear hZ1
     by_cases hp : z5 = -1
     ·have q1 : (z5 == -1) = true := by simpa using hp
      have q2 : (z5 != -1) = false := by simpa using hp
      have HP : Hid (portL z5 = []) := if_pos hp
      have HV : Hid (M = Z1) := by show _ = _; rw [HM.out, HZ1.out, HY5.out, HY2.out, HY1.out]; unfold midL; rw [if_pos rfl, HP.out, HCR.out]; simp
      clear hp
      go_wp2
      go_meet
      exact ⟨by rw [HV.out], Below.refl _ _⟩
     ·have q1 : (z5 == -1) = false := by simpa using hp
      have q2 : (z5 != -1) = true := by simpa using hp
      have HP : Hid (portL z5 = 58 :: Lib.itoa z5) := if_neg hp
      obtain ⟨Z2, hZ2⟩ : ∃ R, R = Z1 ++ [58] := ⟨_, rfl⟩
      have lZ2 : Z2.length ≤ 3221225477 := by rw [hZ2, List.length_append]; show _ + 1 ≤ _; omega
      have aZ2 : ∀ w : World, (Op.stringOp .add (strOf Z1) ⟨#[58]⟩).run Tryz.prog w = .ok (.string (strOf Z2)) w := fun w => by rw [hZ2]; exact str_add' _ ⟨#[58]⟩ w (by rw [size_strOf]; show _ + 1 ≤ _; omega)
      have HZ2 := hid hZ2
      clear hZ2
      obtain ⟨Z3, hZ3⟩ : ∃ R, R = Z2 ++ IT := ⟨_, rfl⟩
      have lZ3 : Z3.length ≤ 3221225497 := by rw [hZ3, List.length_append]; omega
      have aZ3 : ∀ w : World, (Op.stringOp .add (strOf Z2) (strOf IT)).run Tryz.prog w = .ok (.string (strOf Z3)) w := fun w => by rw [hZ3]; exact str_add _ _ w (by omega)
      have HZ3 := hid hZ3
      clear hZ3
      have HV : Hid (M = Z3) := by show _ = _; rw [HM.out, HZ3.out, HZ2.out, HZ1.out, HY5.out, HY2.out, HY1.out, HIT.out]; unfold midL; rw [if_pos rfl, HP.out, HCR.out]; simp
      clear hp
      go_wp2_with fail
      refine (port_any z5 _ hz hz').mono ?_
      rintro e w3 ⟨rfl, hb3⟩
      rw [← HIT.out]
      go_wp2
      go_meet
      exact ⟨by rw [HV.out], hb3⟩
   ·have q2 : (s2.toList == []) = false := by rw [tl]; simpa using e2
    have q2' : s2.toList.isEmpty = false := by rw [tl]; simpa using e2
    have q3 : (V.toList == []) = false := by rw [tl, HVV.out]; show (_ ++ _ == _) = false; simp [e2]
    have q4 : V.toList.isEmpty = false := by rw [tl, HVV.out]; show List.isEmpty (_ ++ _) = false; simp [e2]
    have HCR : Hid (credL s1 s2 = s1.data.toList ++ [58] ++ s2.data.toList ++ [64]) := by show _ = _; unfold credL; rw [if_neg e2]
    clear e2
    obtain ⟨Y3, hY3⟩ : ∃ R, R = Y2 ++ [58] := ⟨_, rfl⟩
    have lY3 : Y3.length ≤ 2147483652 := by rw [hY3, List.length_append]; show _ + 1 ≤ _; omega
    have aY3 : ∀ w : World, (Op.stringOp .add (strOf Y2) ⟨#[58]⟩).run Tryz.prog w = .ok (.string (strOf Y3)) w := fun w => by rw [hY3]; exact str_add' _ ⟨#[58]⟩ w (by rw [size_strOf]; show _ + 1 ≤ _; omega)
    have HY3 := hid hY3
    clear hY3
    obtain ⟨Y4, hY4⟩ : ∃ R, R = Y3 ++ s2.data.toList := ⟨_, rfl⟩
    have lY4 : Y4.length ≤ 3221225476 := by rw [hY4, List.length_append, show s2.data.toList.length = s2.size from Array.length_toList]; omega
    have aY4 : ∀ w : World, (Op.stringOp .add (strOf Y3) s2).run Tryz.prog w = .ok (.string (strOf Y4)) w := fun w => by rw [hY4]; exact str_add' _ s2 w (by rw [size_strOf]; omega)
    have HY4 := hid hY4
    clear hY4
    obtain ⟨Y5, hY5⟩ : ∃ R, R = Y4 ++ [64] := ⟨_, rfl⟩
    have lY5 : Y5.length ≤ 3221225477 := by rw [hY5, List.length_append]; show _ + 1 ≤ _; omega
    have aY5 : ∀ w : World, (Op.stringOp .add (strOf Y4) ⟨#[64]⟩).run Tryz.prog w = .ok (.string (strOf Y5)) w := fun w => by rw [hY5]; exact str_add' _ ⟨#[64]⟩ w (by rw [size_strOf]; show _ + 1 ≤ _; omega)
    have HY5 := hid hY5
    clear hY5
    obtain ⟨Z1, hZ1⟩ : ∃ R, R = Y5 ++ s3.data.toList := ⟨_, rfl⟩
    have lZ1 : Z1.length ≤ 4294967301 := by rw [hZ1, List.length_append, show s3.data.toList.length = s3.size from Array.length_toList]; omega
    have aZ1 : ∀ w : World, (Op.stringOp .add (strOf Y5) s3).run Tryz.prog w = .ok (.string (strOf Z1)) w := fun w => by rw [hZ1]; exact str_add' _ s3 w (by rw [size_strOf]; omega)
    have HZ1 := hid hZ1
    clear hZ1
    by_cases hp : z5 = -1
    ·have q1 : (z5 == -1) = true := by simpa using hp
     have q2 : (z5 != -1) = false := by simpa using hp
     have HP : Hid (portL z5 = []) := if_pos hp
     have HV : Hid (M = Z1) := by show _ = _; rw [HM.out, HZ1.out, HY5.out, HY4.out, HY3.out, HY2.out, HY1.out]; unfold midL; rw [if_pos rfl, HP.out, HCR.out]; simp
     clear hp
     go_wp2
     go_meet
     exact ⟨by rw [HV.out], Below.refl _ _⟩
    ·have q1 : (z5 == -1) = false := by simpa using hp
     have q2 : (z5 != -1) = true := by simpa using hp
     have HP : Hid (portL z5 = 58 :: Lib.itoa z5) := if_neg hp
     obtain ⟨Z2, hZ2⟩ : ∃ R, R = Z1 ++ [58] := ⟨_, rfl⟩
     have lZ2 : Z2.length ≤ 4294967302 := by rw [hZ2, List.length_append]; show _ + 1 ≤ _; omega
     have aZ2 : ∀ w : World, (Op.stringOp .add (strOf Z1) ⟨#[58]⟩).run Tryz.prog w = .ok (.string (strOf Z2)) w := fun w => by rw [hZ2]; exact str_add' _ ⟨#[58]⟩ w (by rw [size_strOf]; show _ + 1 ≤ _; omega)
     have HZ2 := hid hZ2
     clear hZ2
     obtain ⟨Z3, hZ3⟩ : ∃ R, R = Z2 ++ IT := ⟨_, rfl⟩
     have lZ3 : Z3.length ≤ 4294967322 := by rw [hZ3, List.length_append]; omega
     have aZ3 : ∀ w : World, (Op.stringOp .add (strOf Z2) (strOf IT)).run Tryz.prog w = .ok (.string (strOf Z3)) w := fun w => by rw [hZ3]; exact str_add _ _ w (by omega)
     have HZ3 := hid hZ3
     clear hZ3
     have HV : Hid (M = Z3) := by show _ = _; rw [HM.out, HZ3.out, HZ2.out, HZ1.out, HY5.out, HY4.out, HY3.out, HY2.out, HY1.out, HIT.out]; unfold midL; rw [if_pos rfl, HP.out, HCR.out]; simp
     clear hp
     go_wp2_with fail
     refine (port_any z5 _ hz hz').mono ?_
     rintro e w3 ⟨rfl, hb3⟩
     rw [← HIT.out]
     go_wp2
     go_meet
     exact ⟨by rw [HV.out], hb3⟩
  | false =>
   cases b6 with
   | true =>
    have HV : Hid (M = X0) := by show _ = _; rw [HM.out]; unfold midL; rw [if_neg (by decide), if_neg (by simp [dotted]), List.append_nil]
    go_wp2
    go_meet
    exact ⟨by rw [HV.out], Below.refl _ _⟩
   | false =>
    by_cases h1n : 1 < n
    ·obtain ⟨x, y, r, hlx⟩ : ∃ x y r, l = x :: y :: r := by
      have := HN.out
      match l, this with
      | x :: y :: r, _ => exact ⟨x, y, r, rfl⟩
      | [_], h => simp at h; omega
      | [], h => simp at h; omega
     have hRr := HR.out.below hb1
     obtain ⟨g, off, rfl, hg, hcell⟩ := hRr.spot (by omega)
     have hc := hcell 0 (by rw [List.length_map, HN.out]; omega)
     have e0 : (l.map Value.string)[0]'(by rw [List.length_map, HN.out]; omega) = .string x := by simp [hlx]
     rw [e0, Nat.add_zero] at hc
     have HD : Hid (dotted false l = decide (x.data.toList = [])) := by show _ = _; rw [hlx]; rfl
     clear hRr hcell e0 hlx
     by_cases hx : x.data.toList = []
     ·have q1 : x.toList = [] := by rw [tl]; exact hx
      have HDD : Hid (dotted false l = true) := HD.out.trans (decide_eq_true hx)
      clear hx
      obtain ⟨Z1, hZ1⟩ : ∃ R, R = X0 ++ [47, 46] := ⟨_, rfl⟩
      have lZ1 : Z1.length ≤ 1073741827 := by rw [hZ1, List.length_append]; show _ + 2 ≤ _; omega
      have aZ1 : ∀ w : World, (Op.stringOp .add (strOf X0) ⟨#[47, 46]⟩).run Tryz.prog w = .ok (.string (strOf Z1)) w := fun w => by rw [hZ1]; exact str_add' _ ⟨#[47, 46]⟩ w (by rw [size_strOf]; show _ + 2 ≤ _; omega)
      have HZ1 := hid hZ1
      clear hZ1
      have HV : Hid (M = Z1) := by show _ = _; rw [HM.out, HZ1.out]; unfold midL; rw [if_neg (by decide), if_pos HDD.out]
      go_wp2
      go_meet
      exact ⟨by rw [HV.out], Below.refl _ _⟩
     ·have q1 : (x.toList == []) = false := by rw [tl]; simpa using hx
      have q1' : x.toList.isEmpty = false := by rw [tl]; simpa using hx
      have HDD : Hid (¬ dotted false l = true) := by show ¬ _; rw [HD.out]; simpa using hx
      have HV : Hid (M = X0) := by show _ = _; rw [HM.out]; unfold midL; rw [if_neg (by decide), if_neg HDD.out, List.append_nil]
      clear hx
      go_wp2
      go_meet
      exact ⟨by rw [HV.out], Below.refl _ _⟩
    ·have HDD : Hid (¬ dotted false l = true) := by
      have := HN.out
      match l, this with
      | x :: y :: r, h => simp at h; omega
      | [_], h => simp [dotted, Hid]
      | [], h => simp [dotted, Hid]
     have HV : Hid (M = X0) := by show _ = _; rw [HM.out]; unfold midL; rw [if_neg (by decide), if_neg HDD.out, List.append_nil]
     go_wp2
     go_meet
     exact ⟨by rw [HV.out], Below.refl _ _⟩
 case rest =>
 obtain ⟨rfl, HB2⟩ := hcut
 clear c0 c1 c2 c3 c4 c5 c6 c7 c8 c9 c10 c11 c12
 have hbx := HBX1.out.below HB2.out hlt1
 have HBX2 := hid hbx
 obtain ⟨c0, c1, c2, c3, c4, c5, c6, c7, c8, c9, c10, c11, c12⟩ := cells13 hbx
 clear hbx
 have hlt2 : w.heap.size < wc.heap.size := Nat.lt_of_lt_of_le hlt1 HB2.out.size
 go_wp2_with fail
 refine (refPath_any s0 s1 s2 s3 b4 z5 b6 s7 A n cap l b9 b10 s11 s12 _ (HR.out.below (bel hb1 HB2.out)) hnc hcm' hs7 HLL.out).mono ?_
 rintro e w5 ⟨rfl, hb5⟩
 rw [← HPL.out]
 clear c0 c1 c2 c3 c4 c5 c6 c7 c8 c9 c10 c11 c12
 have hbx := HBX2.out.below hb5 hlt2
 obtain ⟨c0, c1, c2, c3, c4, c5, c6, c7, c8, c9, c10, c11, c12⟩ := cells13 hbx
 clear hbx
 have HB5 := hid (bel (bel hb1 HB2.out) hb5)
 have HQ : Hid (bareL s0 s1 s2 s3 b4 z5 b6 s7 l b9 s11 = if b9 then N3 else N1) := by
  show _ = _
  unfold bareL
  rw [HN3.out, HN2.out, HN1.out, HPL.out, HM.out, HX0.out]
  cases b9 <;> simp
 have HRF : Hid (refL f s0 s1 s2 s3 b4 z5 b6 s7 A n cap l b9 b10 s11 s12 = (if b9 then N3 else N1) ++ (if b10 && f then 35 :: s12.data.toList else [])) := by show _ = _; unfold refL; rw [HQ.out]
 cases b9 with
 | true =>
  cases b10 with
  | true =>
   cases f with
   | true =>
    obtain ⟨W1, hW1⟩ : ∃ R, R = N3 ++ [35] := ⟨_, rfl⟩
    have lW1 : W1.length ≤ 7516192771 := by rw [hW1, List.length_append]; show _ + 1 ≤ _; omega
    have aW1 : ∀ w : World, (Op.stringOp .add (strOf N3) ⟨#[35]⟩).run Tryz.prog w = .ok (.string (strOf W1)) w := fun w => by rw [hW1]; exact str_add' _ ⟨#[35]⟩ w (by rw [size_strOf]; show _ + 1 ≤ _; omega)
    have HW1 := hid hW1
    clear hW1
    obtain ⟨W2, hW2⟩ : ∃ R, R = W1 ++ s12.data.toList := ⟨_, rfl⟩
    have lW2 : W2.length ≤ 8589934595 := by rw [hW2, List.length_append, show s12.data.toList.length = s12.size from Array.length_toList]; omega
    have aW2 : ∀ w : World, (Op.stringOp .add (strOf W1) s12).run Tryz.prog w = .ok (.string (strOf W2)) w := fun w => by rw [hW2]; exact str_add' _ s12 w (by rw [size_strOf]; omega)
    have HW2 := hid hW2
    clear hW2
    have HE : Hid (refL true s0 s1 s2 s3 b4 z5 b6 s7 A n cap l true true s11 s12 = W2) := by show _ = _; rw [HRF.out, HW2.out, HW1.out]; simp
    go_wp2
    go_ret
    exact ⟨by rw [HE.out]; rfl, HB5.out⟩
   | false =>
    have HE : Hid (refL false s0 s1 s2 s3 b4 z5 b6 s7 A n cap l true true s11 s12 = N3) := by show _ = _; rw [HRF.out]; simp
    go_wp2
    go_ret
    exact ⟨by rw [HE.out]; rfl, HB5.out⟩
  | false =>
   have HE : Hid (refL f s0 s1 s2 s3 b4 z5 b6 s7 A n cap l true false s11 s12 = N3) := by show _ = _; rw [HRF.out]; simp
   go_wp2
   go_ret
   exact ⟨by rw [HE.out]; rfl, HB5.out⟩
 | false =>
  cases b10 with
  | true =>
   cases f with
   | true =>
    obtain ⟨W1, hW1⟩ : ∃ R, R = N1 ++ [35] := ⟨_, rfl⟩
    have lW1 : W1.length ≤ 6442450946 := by rw [hW1, List.length_append]; show _ + 1 ≤ _; omega
    have aW1 : ∀ w : World, (Op.stringOp .add (strOf N1) ⟨#[35]⟩).run Tryz.prog w = .ok (.string (strOf W1)) w := fun w => by rw [hW1]; exact str_add' _ ⟨#[35]⟩ w (by rw [size_strOf]; show _ + 1 ≤ _; omega)
    have HW1 := hid hW1
    clear hW1
    obtain ⟨W2, hW2⟩ : ∃ R, R = W1 ++ s12.data.toList := ⟨_, rfl⟩
    have lW2 : W2.length ≤ 7516192770 := by rw [hW2, List.length_append, show s12.data.toList.length = s12.size from Array.length_toList]; omega
    have aW2 : ∀ w : World, (Op.stringOp .add (strOf W1) s12).run Tryz.prog w = .ok (.string (strOf W2)) w := fun w => by rw [hW2]; exact str_add' _ s12 w (by rw [size_strOf]; omega)
    have HW2 := hid hW2
    clear hW2
    have HE : Hid (refL true s0 s1 s2 s3 b4 z5 b6 s7 A n cap l false true s11 s12 = W2) := by show _ = _; rw [HRF.out, HW2.out, HW1.out]; simp
    go_wp2
    go_ret
    exact ⟨by rw [HE.out]; rfl, HB5.out⟩
   | false =>
    have HE : Hid (refL false s0 s1 s2 s3 b4 z5 b6 s7 A n cap l false true s11 s12 = N1) := by show _ = _; rw [HRF.out]; simp
    go_wp2
    go_ret
    exact ⟨by rw [HE.out]; rfl, HB5.out⟩
  | false =>
   have HE : Hid (refL f s0 s1 s2 s3 b4 z5 b6 s7 A n cap l false false s11 s12 = N1) := by show _ = _; rw [HRF.out]; simp
   go_wp2
   go_ret
   exact ⟨by rw [HE.out]; rfl, HB5.out⟩
end Go.Proofs.YtmdofbccebkbiaaGreatDoor.UrlH
