/- IPv4 addresses: the document's Print; the laws' 'awake' answers true. -/
import Derived.Test.YtnmkkejodkjjiaaDoorQudG
namespace Go.Proofs.YtnmkkejodkjjiaaDoor.QudH
open Go.RowKit Go.Proofs.YtnmkkejodkjjiaaDoor.Base Go.Proofs.YtnmkkejodkjjiaaDoor.Base2 Go.Proofs.YtnmkkejodkjjiaaDoor.UtfA Go.Proofs.YtnmkkejodkjjiaaDoor.QudP Go.Proofs.YtnmkkejodkjjiaaDoor.QudA Go.Proofs.YtnmkkejodkjjiaaDoor.QudC Go.Proofs.YtnmkkejodkjjiaaDoor.QudD Go.Proofs.YtnmkkejodkjjiaaDoor.QudE Go.Proofs.YtnmkkejodkjjiaaDoor.QudF Go.Proofs.YtnmkkejodkjjiaaDoor.QudG

set_option maxRecDepth 100000 in
set_option maxHeartbeats 4000000 in
theorem refPrint_any (n : Nat) (hn : n < 4294967296) (w : World) : Calls Tryd.prog 40 #[.int .u32 (n : Int)] w fun e w' => e = .returned (.string (strOf (pr n))) ∧ Below w.heap.size w w' := by
  have hl1 := p1_len n hn
  have hl2 := p2_len n hn
  have hl3 := p3_len n hn
  obtain ⟨a, ha⟩ : ∃ a, a = n / 16777216 := ⟨_, rfl⟩
  have ha2 : a < 256 := by omega
  have hal := len3 a ha2
  obtain ⟨b, hb⟩ : ∃ b, b = n / 65536 % 256 := ⟨_, rfl⟩
  have hb2 : b < 256 := by omega
  have hbl := len3 b hb2
  obtain ⟨c, hc⟩ : ∃ c, c = n / 256 % 256 := ⟨_, rfl⟩
  have hc2 : c < 256 := by omega
  have hcl := len3 c hc2
  obtain ⟨d, hd⟩ : ∃ d, d = n % 256 := ⟨_, rfl⟩
  have hd2 : d < 256 := by omega
  have hdl := len3 d hd2
  have q1 : (n : Int).tdiv 16777216 = (a : Int) := by rw [Int.tdiv_eq_ediv_of_nonneg (by omega)]; omega
  have q2 : ((n : Int).tdiv 65536).tmod 256 = (b : Int) := by rw [Int.tdiv_eq_ediv_of_nonneg (by omega), Int.tmod_eq_emod_of_nonneg (by omega)]; omega
  have q3 : ((n : Int).tdiv 256).tmod 256 = (c : Int) := by rw [Int.tdiv_eq_ediv_of_nonneg (by omega), Int.tmod_eq_emod_of_nonneg (by omega)]; omega
  have q4 : (n : Int).tmod 256 = (d : Int) := by rw [Int.tmod_eq_emod_of_nonneg (by omega)]; omega
  have r1 : (n : Int) / 16777216 = (a : Int) := by omega
  have r2 : (n : Int) / 65536 % 256 = (b : Int) := by omega
  have r3 : (n : Int) / 256 % 256 = (c : Int) := by omega
  have r4 : (n : Int) % 256 = (d : Int) := by omega
  have e1 : p1 n = Lib.decDigits a ++ [46] := by rw [ha]; rfl
  have e2 : p2 n = p1 n ++ Lib.decDigits b ++ [46] := by rw [hb]; rfl
  have e3 : p3 n = p2 n ++ Lib.decDigits c ++ [46] := by rw [hc]; rfl
  have e4 : pr n = p3 n ++ Lib.decDigits d := by rw [hd]; rfl
  have s1 : ∀ w : World, (Op.stringOp .add (strOf (Lib.decDigits a)) ⟨#[46]⟩).run Tryd.prog w = .ok (.string (strOf (p1 n))) w := fun w => by rw [e1]; exact str_add _ [46] w (by simp; omega)
  have s2 : ∀ w : World, (Op.stringOp .add (strOf (p1 n)) (strOf (Lib.decDigits b))).run Tryd.prog w = .ok (.string (strOf (p1 n ++ Lib.decDigits b))) w := fun w => str_add _ _ w (by omega)
  have s3 : ∀ w : World, (Op.stringOp .add (strOf (p1 n ++ Lib.decDigits b)) ⟨#[46]⟩).run Tryd.prog w = .ok (.string (strOf (p2 n))) w := fun w => by rw [e2]; exact str_add _ [46] w (by simp; omega)
  have s4 : ∀ w : World, (Op.stringOp .add (strOf (p2 n)) (strOf (Lib.decDigits c))).run Tryd.prog w = .ok (.string (strOf (p2 n ++ Lib.decDigits c))) w := fun w => str_add _ _ w (by omega)
  have s5 : ∀ w : World, (Op.stringOp .add (strOf (p2 n ++ Lib.decDigits c)) ⟨#[46]⟩).run Tryd.prog w = .ok (.string (strOf (p3 n))) w := fun w => by rw [e3]; exact str_add _ [46] w (by simp; omega)
  have s6 : ∀ w : World, (Op.stringOp .add (strOf (p3 n)) (strOf (Lib.decDigits d))).run Tryd.prog w = .ok (.string (strOf (pr n))) w := fun w => by rw [e4]; exact str_add _ _ w (by omega)
  generalize strOf (p1 n) = P1 at s1 s2
  generalize strOf (p1 n ++ Lib.decDigits b) = P2 at s2 s3
  generalize strOf (p2 n) = P3 at s3 s4
  generalize strOf (p2 n ++ Lib.decDigits c) = P4 at s4 s5
  generalize strOf (p3 n) = P5 at s5 s6
  generalize strOf (pr n) = P6 at s6 ⊢
  have DA := hid (fun w => decimal_any (a + 1) a (by omega) (by omega) w)
  have DB := hid (fun w => decimal_any (b + 1) b (by omega) (by omega) w)
  have DC := hid (fun w => decimal_any (c + 1) c (by omega) (by omega) w)
  have DD := hid (fun w => decimal_any (d + 1) d (by omega) (by omega) w)
  generalize strOf (Lib.decDigits a) = S1 at s1 DA
  generalize strOf (Lib.decDigits b) = S2 at s2 DB
  generalize strOf (Lib.decDigits c) = S3 at s4 DC
  generalize strOf (Lib.decDigits d) = S4 at s6 DD
  have hni : (n : Int) < 4294967296 := by omega
  have hn0 : 0 ≤ (n : Int) := by omega
  have ha3 : (a : Int) < 256 := by omega
  have hb3 : (b : Int) < 256 := by omega
  have hc3 : (c : Int) < 256 := by omega
  have hd3 : (d : Int) < 256 := by omega
  clear e1 e2 e3 e4 hl1 hl2 hl3 hal hbl hcl hdl ha hb hc hd ha2 hb2 hc2 hd2
  go_enter Tryd.func40, Tryd.ntmps40
  go_wp2_with fail
  refine (DA.out _).mono ?_
  rintro e w2 ⟨rfl, h2⟩
  have H2 := hid h2
  clear h2
  go_wp2_with fail
  refine (DB.out _).mono ?_
  rintro e w3 ⟨rfl, h3⟩
  have H3 := hid (bel H2.out h3)
  clear h3
  go_wp2_with fail
  refine (DC.out _).mono ?_
  rintro e w4 ⟨rfl, h4⟩
  have H4 := hid (bel H3.out h4)
  clear h4
  go_wp2_with fail
  refine (DD.out _).mono ?_
  rintro e w5 ⟨rfl, h5⟩
  have H5 := hid (bel H4.out h5)
  clear h5
  go_wp2
  go_ret
  exact ⟨rfl, H5.out⟩
end Go.Proofs.YtnmkkejodkjjiaaDoor.QudH
