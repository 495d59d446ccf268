/- The walk of the law QuadBack: it returns true, whatever it is called with. -/
import Derived.Test.YtbjohoocgmfhpaaDoorQudI
import Derived.Test.YtbjohoocgmfhpaaDoorRegs
namespace Go.Proofs.YtbjohoocgmfhpaaDoor.Laws
open Go.RowKit Go.Proofs.YtbjohoocgmfhpaaDoor.Base Go.Proofs.YtbjohoocgmfhpaaDoor.Base2 Go.Proofs.YtbjohoocgmfhpaaDoor.UtfA Go.Proofs.YtbjohoocgmfhpaaDoor.QudP Go.Proofs.YtbjohoocgmfhpaaDoor.QudA Go.Proofs.YtbjohoocgmfhpaaDoor.QudC Go.Proofs.YtbjohoocgmfhpaaDoor.QudD Go.Proofs.YtbjohoocgmfhpaaDoor.QudE Go.Proofs.YtbjohoocgmfhpaaDoor.QudF Go.Proofs.YtbjohoocgmfhpaaDoor.QudG Go.Proofs.YtbjohoocgmfhpaaDoor.QudH Go.Proofs.YtbjohoocgmfhpaaDoor.QudI Go.Proofs.YtbjohoocgmfhpaaDoor.Regs

set_option linter.unusedSimpArgs false in
set_option maxRecDepth 100000 in
set_option maxHeartbeats 4000000 in
theorem QuadBack_any (z : Int) (w : World) (hz : 0 ≤ z ∧ z ≤ 4294967295) (hT : Tab.Pow w) (hM : Max w) :
    Calls Tryd.prog 4 #[.int .u32 z] w fun e w' => e = .returned (.bool true) ∧ Below w.heap.size w w' := by
  obtain ⟨n, rfl⟩ : ∃ n : Nat, z = (n : Int) := ⟨z.toNat, by omega⟩
  have hn : n < 4294967296 := by omega
  have hpl := pr_len n hn
  obtain ⟨X, hX⟩ : ∃ X, X = strOf (pr n) := ⟨_, rfl⟩
  obtain ⟨Y, hY⟩ : ∃ Y, Y = strOf (pr n ++ [46]) := ⟨_, rfl⟩
  obtain ⟨Z, hZ⟩ : ∃ Z, Z = strOf (Lib.decDigits n) := ⟨_, rfl⟩
  have a1 : ∀ w : World, (Op.stringOp .add X ⟨#[46]⟩).run Tryd.prog w = .ok (.string Y) w := fun w => by rw [hX, hY]; exact str_add _ [46] w (by simp; omega)
  have hxs : X.size ≤ 900000 := by rw [hX, size_strOf]; omega
  have hys : Y.size ≤ 900000 := by rw [hY, size_strOf]; simp; omega
  have hzs : Z.size ≤ 900000 := by rw [hZ, size_strOf]; have := dec_len n (by omega); omega
  have hq : (X.toList == X.toList) = true := by simp
  have PX : Hid (∀ w, QudC.Max w → Calls Tryd.prog 8 #[.string X] w fun e w' => e = .returned (.tuple #[.int .u32 (n : Int), .bool true]) ∧ Below w.heap.size w w') := fun w h => by
    have := parse_any X w hxs h
    rw [show X.data.toList = pr n by rw [hX]; rfl, prsV_some _ n (prs_pr n hn)] at this
    exact this
  have PY : Hid (∀ w, QudC.Max w → Calls Tryd.prog 8 #[.string Y] w fun e w' => e = .returned (.tuple #[.int .u32 (n : Int), .bool true]) ∧ Below w.heap.size w w') := fun w h => by
    have := parse_any Y w hys h
    rw [show Y.data.toList = pr n ++ [46] by rw [hY]; rfl, prsV_some _ n (prs_pr_dot n hn)] at this
    exact this
  have PZ : Hid (∀ w, QudC.Max w → Calls Tryd.prog 8 #[.string Z] w fun e w' => e = .returned (.tuple #[.int .u32 (n : Int), .bool true]) ∧ Below w.heap.size w w') := fun w h => by
    have := parse_any Z w hzs h
    rw [show Z.data.toList = Lib.decDigits n by rw [hZ]; rfl, prsV_some _ n (prs_dec n hn)] at this
    exact this
  have EX : Hid (∀ w, Calls Tryd.prog 10 #[.string X] w fun e w' => e = .returned (.bool true) ∧ Below w.heap.size w w') := fun w => by
    have := ends_any X w hxs
    rw [show X.data.toList = pr n by rw [hX]; rfl, ends_pr] at this
    exact this
  have EY : Hid (∀ w, Calls Tryd.prog 10 #[.string Y] w fun e w' => e = .returned (.bool true) ∧ Below w.heap.size w w') := fun w => by
    have := ends_any Y w hys
    rw [show Y.data.toList = pr n ++ [46] by rw [hY]; rfl, ends_pr_dot] at this
    exact this
  have QX : Hid (∀ w, Tab.Pow w → Calls Tryd.prog 12 #[.int .u32 (n : Int)] w fun e w' => e = .returned (.string X) ∧ Below w.heap.size w w') := fun w h => by rw [hX]; exact print_any n hn w h
  have RX : Hid (∀ w, Calls Tryd.prog 14 #[.int .u32 (n : Int)] w fun e w' => e = .returned (.string X) ∧ Below w.heap.size w w') := fun w => by rw [hX]; exact refPrint_any n hn w
  have DZ : Hid (∀ w, Calls Tryd.prog 13 #[.int .u64 (n : Int)] w fun e w' => e = .returned (.string Z) ∧ Below w.heap.size w w') := fun w => by rw [hZ]; exact decimal_any (n + 1) n (by omega) (by omega) w
  have HT := hid hT
  have HM := hid hM
  have hni : (n : Int) < 4294967296 := by omega
  have hn0 : 0 ≤ (n : Int) := by omega
  have hnn : ((n : Int) == (n : Int)) = true := by simp
  clear hX hY hZ hT hM hpl hn hxs hys hzs hz
  generalize (n : Int) = V at PX PY PZ QX RX DZ hni hn0 hnn ⊢
  go_enter Tryd.func4, Tryd.ntmps4
  go_wp2_with fail
  refine (awake_any _ HT.out HM.out).mono ?_
  rintro e w2 ⟨rfl, hb2⟩
  have HB2 := hid hb2
  clear hb2
  go_wp2_with fail
  refine (QX.out _ (HT.out.below HB2.out)).mono ?_
  rintro e w3 ⟨rfl, hb3⟩
  have HB3 := hid (bel HB2.out hb3)
  clear hb3
  go_wp2_with fail
  refine (PX.out _ (HM.out.below HB3.out)).mono ?_
  rintro e w4 ⟨rfl, hb4⟩
  have HB4 := hid (bel HB3.out hb4)
  clear hb4
  go_wp2_with fail
  refine (PY.out _ (HM.out.below HB4.out)).mono ?_
  rintro e w5 ⟨rfl, hb5⟩
  have HB5 := hid (bel HB4.out hb5)
  clear hb5
  go_wp2_with fail
  refine (DZ.out _).mono ?_
  rintro e w6 ⟨rfl, hb6⟩
  have HB6 := hid (bel HB5.out hb6)
  clear hb6
  go_wp2_with fail
  refine (PZ.out _ (HM.out.below HB6.out)).mono ?_
  rintro e w7 ⟨rfl, hb7⟩
  have HB7 := hid (bel HB6.out hb7)
  clear hb7
  go_wp2_with fail
  refine (RX.out _).mono ?_
  rintro e w8 ⟨rfl, hb8⟩
  have HB8 := hid (bel HB7.out hb8)
  clear hb8
  go_wp2_with fail
  refine (EX.out _).mono ?_
  rintro e w9 ⟨rfl, hb9⟩
  have HB9 := hid (bel HB8.out hb9)
  clear hb9
  go_wp2_with fail
  refine (EY.out _).mono ?_
  rintro e w10 ⟨rfl, hb10⟩
  have HB10 := hid (bel HB9.out hb10)
  clear hb10
  go_wp2
  go_ret
  exact ⟨rfl, HB10.out⟩
end Go.Proofs.YtbjohoocgmfhpaaDoor.Laws
