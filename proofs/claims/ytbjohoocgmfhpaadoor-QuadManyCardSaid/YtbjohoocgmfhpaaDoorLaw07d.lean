/- The walk of the law QuadMany: it returns true, whatever it is called with. -/
import Derived.Test.YtbjohoocgmfhpaaDoorQudI
import Derived.Test.YtbjohoocgmfhpaaDoorRegs
namespace Go.Proofs.YtbjohoocgmfhpaaDoor.Laws
open Go.RowKit Go.Proofs.YtbjohoocgmfhpaaDoor.Base Go.Proofs.YtbjohoocgmfhpaaDoor.Base2 Go.Proofs.YtbjohoocgmfhpaaDoor.UtfA Go.Proofs.YtbjohoocgmfhpaaDoor.QudP Go.Proofs.YtbjohoocgmfhpaaDoor.QudA Go.Proofs.YtbjohoocgmfhpaaDoor.QudC Go.Proofs.YtbjohoocgmfhpaaDoor.QudD Go.Proofs.YtbjohoocgmfhpaaDoor.QudE Go.Proofs.YtbjohoocgmfhpaaDoor.QudF Go.Proofs.YtbjohoocgmfhpaaDoor.QudG Go.Proofs.YtbjohoocgmfhpaaDoor.QudH Go.Proofs.YtbjohoocgmfhpaaDoor.QudI Go.Proofs.YtbjohoocgmfhpaaDoor.Regs

theorem or_lt (a b : Nat) (ha : a < 4294967296) (hb : b < 4294967296) : ∃ m : Nat, bits .or .u32 (a : Int) (b : Int) = (m : Int) ∧ m < 4294967296 := ⟨a ||| b, u32_or_nat a b ha hb, Nat.or_lt_two_pow (n := 32) ha hb⟩
set_option linter.unusedSimpArgs false in
set_option maxRecDepth 100000 in
set_option maxHeartbeats 4000000 in
theorem QuadMany_any (a b c d k : Int) (w : World) (ha : 0 ≤ a ∧ a ≤ 255) (hb : 0 ≤ b ∧ b ≤ 255) (hc : 0 ≤ c ∧ c ≤ 255) (hd : 0 ≤ d ∧ d ≤ 255) (hk : 0 ≤ k ∧ k ≤ 65535) (hT : Tab.Pow w) (hM : Max w) :
    Calls Tryd.prog 6 #[.int .u8 a, .int .u8 b, .int .u8 c, .int .u8 d, .int .u16 k] w fun e w' => e = .returned (.bool true) ∧ Below w.heap.size w w' := by
  have o1 : ∃ m : Nat, bits .or .u32 (a * 16777216) (b * 65536) = (m : Int) ∧ m < 4294967296 := by
    have := or_lt (a.toNat * 16777216) (b.toNat * 65536) (by omega) (by omega)
    rw [show ((a.toNat * 16777216 : Nat) : Int) = a * 16777216 by omega, show ((b.toNat * 65536 : Nat) : Int) = b * 65536 by omega] at this
    exact this
  obtain ⟨m1, o1, hm1⟩ := o1
  have o2 : ∃ m : Nat, bits .or .u32 (m1 : Int) (c * 256) = (m : Int) ∧ m < 4294967296 := by
    have := or_lt m1 (c.toNat * 256) hm1 (by omega)
    rw [show ((c.toNat * 256 : Nat) : Int) = c * 256 by omega] at this
    exact this
  obtain ⟨m2, o2, hm2⟩ := o2
  have o3 : ∃ m : Nat, bits .or .u32 (m2 : Int) d = (m : Int) ∧ m < 4294967296 := by
    have := or_lt m2 d.toNat hm2 (by omega)
    rw [show ((d.toNat : Nat) : Int) = d by omega] at this
    exact this
  obtain ⟨n, o3, hn⟩ := o3
  obtain ⟨j, rfl⟩ : ∃ j : Nat, k = (j : Int) := ⟨k.toNat, by omega⟩
  have hj : j < 65536 := by omega
  have hpl := pr_len n hn
  have hdl := dec_len j (by omega)
  have hgl := dec_len (256 + j) (by omega)
  obtain ⟨h0, r0, hpr, hh0⟩ := pr_head n
  obtain ⟨X, hX⟩ : ∃ X, X = strOf (pr n) := ⟨_, rfl⟩
  obtain ⟨X1, hX1⟩ : ∃ X, X = strOf (pr n ++ [46]) := ⟨_, rfl⟩
  obtain ⟨X2, hX2⟩ : ∃ X, X = strOf (pr n ++ [46] ++ Lib.decDigits j) := ⟨_, rfl⟩
  obtain ⟨G, hG⟩ : ∃ X, X = strOf (Lib.decDigits (256 + j)) := ⟨_, rfl⟩
  obtain ⟨G1, hG1⟩ : ∃ X, X = strOf (Lib.decDigits (256 + j) ++ [46]) := ⟨_, rfl⟩
  obtain ⟨G2, hG2⟩ : ∃ X, X = strOf (Lib.decDigits (256 + j) ++ [46] ++ [h0]) := ⟨_, rfl⟩
  obtain ⟨Z, hZ⟩ : ∃ Z, Z = strOf (Lib.decDigits j) := ⟨_, rfl⟩
  obtain ⟨C0, hC0⟩ : ∃ Z, Z = strOf [h0] := ⟨_, rfl⟩
  have hxc : X.extract 0 1 = C0 := by
    rw [Regs.ext_take, hX, hC0]
    show strOf ((pr n).take 1) = _
    rw [hpr]
    rfl
  have hxz : (1 : Int) ≤ (X.size : Int) := by rw [hX, size_strOf, hpr]; simp; omega
  have hxz2 : 1 ≤ X.size := by omega
  have a1 : ∀ w : World, (Op.stringOp .add X ⟨#[46]⟩).run Tryd.prog w = .ok (.string X1) w := fun w => by rw [hX, hX1]; exact str_add _ [46] w (by simp; omega)
  have a2 : ∀ w : World, (Op.stringOp .add X1 Z).run Tryd.prog w = .ok (.string X2) w := fun w => by rw [hX1, hX2, hZ]; exact str_add _ _ w (by simp; omega)
  have a3 : ∀ w : World, (Op.stringOp .add G ⟨#[46]⟩).run Tryd.prog w = .ok (.string G1) w := fun w => by rw [hG, hG1]; exact str_add _ [46] w (by simp; omega)
  have a4 : ∀ w : World, (Op.stringOp .add G1 C0).run Tryd.prog w = .ok (.string G2) w := fun w => by rw [hG1, hG2, hC0]; exact str_add _ _ w (by simp; omega)
  have hx2s : X2.size ≤ 900000 := by rw [hX2, size_strOf]; simp; omega
  have hg2s : G2.size ≤ 900000 := by rw [hG2, size_strOf]; simp; omega
  have PX : Hid (∀ w, QudC.Max w → Calls Tryd.prog 8 #[.string X2] w fun e w' => e = .returned (.tuple #[.int .u32 0, .bool false]) ∧ Below w.heap.size w w') := fun w h => by
    have := parse_any X2 w hx2s h
    rw [show X2.data.toList = pr n ++ [46] ++ Lib.decDigits j by rw [hX2]; rfl, prsV_none _ (prs_five n j)] at this
    exact this
  have PG : Hid (∀ w, QudC.Max w → Calls Tryd.prog 8 #[.string G2] w fun e w' => e = .returned (.tuple #[.int .u32 0, .bool false]) ∧ Below w.heap.size w w') := fun w h => by
    have := parse_any G2 w hg2s h
    rw [show G2.data.toList = Lib.decDigits (256 + j) ++ [46] ++ [h0] by rw [hG2]; rfl, prsV_none _ (prs_great j h0 hh0)] at this
    exact this
  have EX : Hid (∀ w, Calls Tryd.prog 10 #[.string X2] w fun e w' => e = .returned (.bool true) ∧ Below w.heap.size w w') := fun w => by
    have := ends_any X2 w hx2s
    rw [show X2.data.toList = pr n ++ [46] ++ Lib.decDigits j by rw [hX2]; rfl, ends_five] at this
    exact this
  have RX : Hid (∀ w, Calls Tryd.prog 14 #[.int .u32 (n : Int)] w fun e w' => e = .returned (.string X) ∧ Below w.heap.size w w') := fun w => by rw [hX]; exact refPrint_any n hn w
  have DZ : Hid (∀ w, Calls Tryd.prog 13 #[.int .u64 (j : Int)] w fun e w' => e = .returned (.string Z) ∧ Below w.heap.size w w') := fun w => by rw [hZ]; exact decimal_any (j + 1) j (by omega) (by omega) w
  have DG : Hid (∀ w, Calls Tryd.prog 13 #[.int .u64 (256 + (j : Int))] w fun e w' => e = .returned (.string G) ∧ Below w.heap.size w w') := fun w => by
    rw [hG]
    have := decimal_any (256 + j + 1) (256 + j) (by omega) (by omega) w
    rw [show ((256 + j : Nat) : Int) = 256 + (j : Int) by omega] at this
    exact this
  have HT := hid hT
  have HM := hid hM
  obtain ⟨ha1, ha2⟩ := ha
  obtain ⟨hb1, hb2⟩ := hb
  obtain ⟨hc1, hc2⟩ := hc
  obtain ⟨hd1, hd2⟩ := hd
  have hj0 : 0 ≤ (j : Int) := by omega
  have hj1 : (j : Int) ≤ 65535 := by omega
  have hm1i : (m1 : Int) < 4294967296 := by omega
  have hm2i : (m2 : Int) < 4294967296 := by omega
  have hni : (n : Int) < 4294967296 := by omega
  clear hX hX1 hX2 hG hG1 hG2 hZ hC0 hT hM hpl hdl hgl hn hx2s hg2s hk hj hpr hh0 hm1 hm2
  generalize (j : Int) = J at DZ DG hj0 hj1 ⊢
  generalize (n : Int) = V at RX o3 hni
  generalize (m1 : Int) = M1 at o1 o2 hm1i
  generalize (m2 : Int) = M2 at o2 o3 hm2i
  have hw1 : IntKind.u64.wrap J = J := by rw [IntKind.wrap_u64]; omega
  have hw2 : IntKind.u64.wrap (256 + J) = 256 + J := by rw [IntKind.wrap_u64]; omega
  go_enter Tryd.func6, Tryd.ntmps6
  go_wp2_with fail
  refine (awake_any _ HT.out HM.out).mono ?_
  rintro e w2 ⟨rfl, hb2⟩
  have HB2 := hid hb2
  clear hb2
  go_wp2_with fail
  refine (RX.out _).mono ?_
  rintro e w3 ⟨rfl, hb3⟩
  have HB3 := hid (bel HB2.out hb3)
  clear hb3
  go_wp2_with fail
  refine (DZ.out _).mono ?_
  rintro e w4 ⟨rfl, hb4⟩
  have HB4 := hid (bel HB3.out hb4)
  clear hb4
  go_wp2_with fail
  refine (PX.out _ (HM.out.below HB4.out)).mono ?_
  rintro e w5 ⟨rfl, hb5⟩
  have HB5 := hid (bel HB4.out hb5)
  clear hb5
  go_wp2_with fail
  refine wp_region_rel (by kernel_rfl) [is (.int .u16 J), is (.int .u64 J), is (.int .u64 (256 + J)), is (.string G), is (.string G1), is (.string X), is (.string C0), is (.string G2), is (.tuple #[.int .u32 0, .bool false]), is (.tuple #[.int .u32 0, .bool false]), is (.int .u32 0), is (.bool false), is (.int .u32 0), is (.bool false)] [[], [0], [1], [2], [3], [], [5], [4, 6], [7], [8], [9], [9], [10], [11]] (by kernel_rfl) ?_ ?_
  · refine ⟨?_, ?_, ?_, ?_, ?_, ?_, ?_, ?_, ?_, ?_, ?_, ?_, ?_, ?_, trivial⟩
    · intro t wq hbq hh K hK
      clear hh
      simp only [filled, upd, Have, is, any, row, pick, Act.put, List.setIfInBounds_toArray, List.set_cons_zero, List.set_cons_succ, Nat.reduceAdd, Nat.reduceEqDiff, reduceIte] at hK ⊢
      go_simp
      exact hK _ _ (Below.refl _ _) rfl
    · intro t wq hbq hh K hK
      have e0 := hh.1
      simp only [pick] at e0
      replace e0 : t 0 = (.int .u16 J) := e0
      clear hh
      simp only [filled, upd, Have, is, any, row, pick, Act.put, List.setIfInBounds_toArray, List.set_cons_zero, List.set_cons_succ, Nat.reduceAdd, Nat.reduceEqDiff, reduceIte] at hK ⊢
      simp only [e0] at hK ⊢
      go_simp
      exact hK _ _ (Below.refl _ _) rfl
    · intro t wq hbq hh K hK
      have e1 := hh.1
      simp only [pick] at e1
      replace e1 : t 1 = (.int .u64 J) := e1
      clear hh
      simp only [filled, upd, Have, is, any, row, pick, Act.put, List.setIfInBounds_toArray, List.set_cons_zero, List.set_cons_succ, Nat.reduceAdd, Nat.reduceEqDiff, reduceIte] at hK ⊢
      simp only [e1] at hK ⊢
      go_simp
      first | exact hK _ _ (Below.refl _ _) rfl | exact hK _ _ (Below.refl _ _) (int_wrap (by omega) (by omega))
    · intro t wq hbq hh K hK
      have e2 := hh.1
      simp only [pick] at e2
      replace e2 : t 2 = (.int .u64 (256 + J)) := e2
      clear hh
      simp only [filled, upd, Have, is, any, row, pick, Act.put, List.setIfInBounds_toArray, List.set_cons_zero, List.set_cons_succ, Nat.reduceAdd, Nat.reduceEqDiff, reduceIte] at hK ⊢
      simp only [e2] at hK ⊢
      go_simp
      refine (DG.out _).mono ?_
      rintro e wz ⟨rfl, hbz⟩
      exact hK _ _ hbz rfl
    · intro t wq hbq hh K hK
      have e3 := hh.1
      simp only [pick] at e3
      replace e3 : t 3 = (.string G) := e3
      clear hh
      simp only [filled, upd, Have, is, any, row, pick, Act.put, List.setIfInBounds_toArray, List.set_cons_zero, List.set_cons_succ, Nat.reduceAdd, Nat.reduceEqDiff, reduceIte] at hK ⊢
      simp only [e3] at hK ⊢
      go_simp
      first | exact hK _ _ (Below.refl _ _) rfl | exact hK _ _ (Below.refl _ _) (int_wrap (by omega) (by omega))
    · intro t wq hbq hh K hK
      clear hh
      simp only [filled, upd, Have, is, any, row, pick, Act.put, List.setIfInBounds_toArray, List.set_cons_zero, List.set_cons_succ, Nat.reduceAdd, Nat.reduceEqDiff, reduceIte] at hK ⊢
      go_simp
      exact hK _ _ (Below.refl _ _) rfl
    · intro t wq hbq hh K hK
      have e5 := hh.1
      simp only [pick] at e5
      replace e5 : t 5 = (.string X) := e5
      clear hh
      simp only [filled, upd, Have, is, any, row, pick, Act.put, List.setIfInBounds_toArray, List.set_cons_zero, List.set_cons_succ, Nat.reduceAdd, Nat.reduceEqDiff, reduceIte] at hK ⊢
      simp only [e5] at hK ⊢
      go_simp
      exact hK _ _ (Below.refl _ _) rfl
    · intro t wq hbq hh K hK
      have e4 := hh.1
      simp only [pick] at e4
      replace e4 : t 4 = (.string G1) := e4
      have e6 := hh.2.1
      simp only [pick] at e6
      replace e6 : t 6 = (.string C0) := e6
      clear hh
      simp only [filled, upd, Have, is, any, row, pick, Act.put, List.setIfInBounds_toArray, List.set_cons_zero, List.set_cons_succ, Nat.reduceAdd, Nat.reduceEqDiff, reduceIte] at hK ⊢
      simp only [e4, e6] at hK ⊢
      go_simp
      first | exact hK _ _ (Below.refl _ _) rfl | exact hK _ _ (Below.refl _ _) (int_wrap (by omega) (by omega))
    · intro t wq hbq hh K hK
      have e7 := hh.1
      simp only [pick] at e7
      replace e7 : t 7 = (.string G2) := e7
      clear hh
      simp only [filled, upd, Have, is, any, row, pick, Act.put, List.setIfInBounds_toArray, List.set_cons_zero, List.set_cons_succ, Nat.reduceAdd, Nat.reduceEqDiff, reduceIte] at hK ⊢
      simp only [e7] at hK ⊢
      go_simp
      refine (PG.out _ (HM.out.below (show Below w.heap.size w wq from by first | exact bel HB5.out hbq | exact bel_drew HB5.out hbq))).mono ?_
      rintro e wz ⟨rfl, hbz⟩
      exact hK _ _ hbz rfl
    · intro t wq hbq hh K hK
      have e8 := hh.1
      simp only [pick] at e8
      replace e8 : t 8 = (.tuple #[.int .u32 0, .bool false]) := e8
      clear hh
      simp only [filled, upd, Have, is, any, row, pick, Act.put, List.setIfInBounds_toArray, List.set_cons_zero, List.set_cons_succ, Nat.reduceAdd, Nat.reduceEqDiff, reduceIte] at hK ⊢
      simp only [e8] at hK ⊢
      go_simp
      exact hK _ _ (Below.refl _ _) rfl
    · intro t wq hbq hh K hK
      have e9 := hh.1
      simp only [pick] at e9
      replace e9 : t 9 = (.tuple #[.int .u32 0, .bool false]) := e9
      clear hh
      simp only [filled, upd, Have, is, any, row, pick, Act.put, List.setIfInBounds_toArray, List.set_cons_zero, List.set_cons_succ, Nat.reduceAdd, Nat.reduceEqDiff, reduceIte] at hK ⊢
      simp only [e9] at hK ⊢
      go_simp
      exact hK _ _ (Below.refl _ _) rfl
    · intro t wq hbq hh K hK
      have e9 := hh.1
      simp only [pick] at e9
      replace e9 : t 9 = (.tuple #[.int .u32 0, .bool false]) := e9
      clear hh
      simp only [filled, upd, Have, is, any, row, pick, Act.put, List.setIfInBounds_toArray, List.set_cons_zero, List.set_cons_succ, Nat.reduceAdd, Nat.reduceEqDiff, reduceIte] at hK ⊢
      simp only [e9] at hK ⊢
      go_simp
      exact hK _ _ (Below.refl _ _) rfl
    · intro t wq hbq hh K hK
      have e10 := hh.1
      simp only [pick] at e10
      replace e10 : t 10 = (.int .u32 0) := e10
      clear hh
      simp only [filled, upd, Have, is, any, row, pick, Act.put, List.setIfInBounds_toArray, List.set_cons_zero, List.set_cons_succ, Nat.reduceAdd, Nat.reduceEqDiff, reduceIte] at hK ⊢
      simp only [e10] at hK ⊢
      go_simp
      exact hK _ _ (Below.refl _ _) rfl
    · intro t wq hbq hh K hK
      have e11 := hh.1
      simp only [pick] at e11
      replace e11 : t 11 = (.bool false) := e11
      clear hh
      simp only [filled, upd, Have, is, any, row, pick, Act.put, List.setIfInBounds_toArray, List.set_cons_zero, List.set_cons_succ, Nat.reduceAdd, Nat.reduceEqDiff, reduceIte] at hK ⊢
      simp only [e11] at hK ⊢
      go_simp
      exact hK _ _ (Below.refl _ _) rfl
  · intro t wq hbq hh
    have f12 := have_get hh 12 (by decide)
    simp only [pick] at f12
    replace f12 : t 12 = (.int .u32 0) := f12
    have f13 := have_get hh 13 (by decide)
    simp only [pick] at f13
    replace f13 : t 13 = (.bool false) := f13
    clear hh
    simp only [filled, upd, Have, is, any, row, pick, Act.put, List.setIfInBounds_toArray, List.set_cons_zero, List.set_cons_succ, Nat.reduceAdd, Nat.reduceEqDiff, reduceIte]
    simp only [f12, f13]
    have HBQ := hid (show Below w.heap.size w wq from by first | exact bel HB5.out hbq | exact bel_drew HB5.out hbq)
    go_wp2_with fail
    refine (DZ.out _).mono ?_
    rintro e w8 ⟨rfl, hb8⟩
    have HB8 := hid (bel HBQ.out hb8)
    clear hb8
    go_wp2_with fail
    refine (EX.out _).mono ?_
    rintro e w9 ⟨rfl, hb9⟩
    have HB9 := hid (bel HB8.out hb9)
    clear hb9
    go_wp2
    go_ret
    exact ⟨rfl, HB9.out⟩
end Go.Proofs.YtbjohoocgmfhpaaDoor.Laws
