/- The law TopRanges: all ways. -/
import Derived.Test.YtegpfgccaminkaaGreatDoorLawTr
set_option linter.unusedSimpArgs false
set_option linter.unusedVariables false
namespace Go.Proofs.YtegpfgccaminkaaGreatDoor.Laws
open Go.RowKit Go.Proofs.YtegpfgccaminkaaGreatDoor.Base Go.Proofs.YtegpfgccaminkaaGreatDoor.Base2 Go.Proofs.YtegpfgccaminkaaGreatDoor.Regs Go.Proofs.YtegpfgccaminkaaGreatDoor.HstC Go.Proofs.YtegpfgccaminkaaGreatDoor.Spl Go.Proofs.YtegpfgccaminkaaGreatDoor.PrsG Go.Proofs.YtegpfgccaminkaaGreatDoor.OpqD Go.Proofs.YtegpfgccaminkaaGreatDoor.TopW
set_option linter.unusedSimpArgs false
set_option linter.unusedVariables false
set_option maxRecDepth 100000 in
set_option maxHeartbeats 16000000 in
theorem ranges_out (A : Option Addr) (n cap : Nat) (kind : ByteArray) (zf zt : Int) (bf bt : Bool) (w : World) (HE : Hid (EnvO w)) (hzf : 0 ≤ zf ∧ zf ≤ 65535) (hzt : 0 ≤ zt ∧ zt ≤ 65535) (h : 200 < n ∨ n ≤ 200 ∧ (100 < kind.size ∨ kind.size ≤ 100 ∧ ((bf = false ∧ bt = false) ∨ (bf = true ∧ bt = true ∧ zt < zf)))) :
    Calls Tryz.prog 7 #[.slice A n cap, .string kind, .int .u16 zf, .int .u16 zt, .bool bf, .bool bt] w fun e w' => e = .returned (.bool true) ∧ Below w.heap.size w w' := by
  have HZF := hid hzf
  have HZT := hid hzt
  clear hzf hzt
  rcases h with h1 | ⟨h1, h2 | ⟨h2, ⟨rfl, rfl⟩ | ⟨rfl, rfl, h3⟩⟩⟩
  · have h1i : (200 : Int) < (n : Int) := by omega
    clear h1
    cases bf <;> cases bt
    all_goals
      go_enter Tryz.func7, Tryz.ntmps7
      go_wp2_with fail
      refine (awakeT _ HE.out).mono ?_
      rintro e1 w2 ⟨rfl, hb2⟩
      have HB2 := hid hb2
      clear hb2
      go_wp2_with fail
      refine (awakeT _ (HE.out.below HB2.out)).mono ?_
      rintro e1 w3 ⟨rfl, hb3⟩
      have HB3 := hid (bel HB2.out hb3)
      clear hb3
      go_wp2
      go_ret
      exact ⟨rfl, HB3.out⟩
  · have h1i : ¬ (200 : Int) < (n : Int) := by omega
    have h2i : (100 : Int) < (kind.size : Int) := by omega
    clear h1 h2
    cases bf <;> cases bt
    all_goals
      go_enter Tryz.func7, Tryz.ntmps7
      go_wp2_with fail
      refine (awakeT _ HE.out).mono ?_
      rintro e1 w2 ⟨rfl, hb2⟩
      have HB2 := hid hb2
      clear hb2
      go_wp2_with fail
      refine (awakeT _ (HE.out.below HB2.out)).mono ?_
      rintro e1 w3 ⟨rfl, hb3⟩
      have HB3 := hid (bel HB2.out hb3)
      clear hb3
      go_wp2
      go_ret
      exact ⟨rfl, HB3.out⟩
  · have h1i : ¬ (200 : Int) < (n : Int) := by omega
    have h2i : ¬ (100 : Int) < (kind.size : Int) := by omega
    clear h1 h2
    go_enter Tryz.func7, Tryz.ntmps7
    go_wp2_with fail
    refine (awakeT _ HE.out).mono ?_
    rintro e1 w2 ⟨rfl, hb2⟩
    have HB2 := hid hb2
    clear hb2
    go_wp2_with fail
    refine (awakeT _ (HE.out.below HB2.out)).mono ?_
    rintro e1 w3 ⟨rfl, hb3⟩
    have HB3 := hid (bel HB2.out hb3)
    clear hb3
    go_wp2
    go_ret
    exact ⟨rfl, HB3.out⟩
  · have h1i : ¬ (200 : Int) < (n : Int) := by omega
    have h2i : ¬ (100 : Int) < (kind.size : Int) := by omega
    clear h1 h2
    go_enter Tryz.func7, Tryz.ntmps7
    go_wp2_with fail
    refine (awakeT _ HE.out).mono ?_
    rintro e1 w2 ⟨rfl, hb2⟩
    have HB2 := hid hb2
    clear hb2
    go_wp2_with fail
    refine (awakeT _ (HE.out.below HB2.out)).mono ?_
    rintro e1 w3 ⟨rfl, hb3⟩
    have HB3 := hid (bel HB2.out hb3)
    clear hb3
    go_wp2
    go_ret
    exact ⟨rfl, HB3.out⟩
theorem TopRanges_any (A : Option Addr) (n cap : Nat) (L : List UInt8) (kind : ByteArray) (zf zt : Int) (bf bt : Bool) (w : World) (hr : Rds w A n (bcells L)) (hc : n ≤ cap) (hm : cap * 1 ≤ 140737488351232) (hk : kind.size ≤ 140737488351232) (hzf : 0 ≤ zf ∧ zf ≤ 65535) (hzt : 0 ≤ zt ∧ zt ≤ 65535) (hT : Tab.Pow w) (hM : Max w) (hU : Utab w) :
    Calls Tryz.prog 7 #[.slice A n cap, .string kind, .int .u16 zf, .int .u16 zt, .bool bf, .bool bt] w fun e w' => e = .returned (.bool true) ∧ Below w.heap.size w w' := by
  have HE : Hid (EnvO w) := ⟨hT, hM, hU⟩
  by_cases h1 : 200 < n
  · exact ranges_out A n cap kind zf zt bf bt w HE hzf hzt (.inl h1)
  by_cases h2 : 100 < kind.size
  · exact ranges_out A n cap kind zf zt bf bt w HE hzf hzt (.inr ⟨by omega, .inl h2⟩)
  obtain ⟨nf, rfl⟩ : ∃ k : Nat, zf = (k : Int) := ⟨zf.toNat, by omega⟩
  obtain ⟨nt, rfl⟩ : ∃ k : Nat, zt = (k : Int) := ⟨zt.toNat, by omega⟩
  have g : Hid (n ≤ cap ∧ cap ≤ 140737488351232) := ⟨hc, by omega⟩
  have g1 : Hid (nf ≤ 65535) := by show _ ≤ _; omega
  have g2 : Hid (nt ≤ 65535) := by show _ ≤ _; omega
  have g3 : Hid (n ≤ 200) := by show _ ≤ _; omega
  have g4 : Hid (kind.size ≤ 100) := by show _ ≤ _; omega
  match bf, bt with
  | false, false => exact ranges_out A n cap kind _ _ false false w HE hzf hzt (.inr ⟨by omega, .inr ⟨by omega, .inl ⟨rfl, rfl⟩⟩⟩)
  | true, false => exact ranges_tf A n cap L kind nf nt w (hid hr) g g1 g2 HE g3 g4
  | false, true => exact ranges_ft A n cap L kind nf nt w (hid hr) g g1 g2 HE g3 g4
  | true, true =>
    by_cases h3 : nt < nf
    · exact ranges_out A n cap kind _ _ true true w HE hzf hzt (.inr ⟨by omega, .inr ⟨by omega, .inr ⟨rfl, rfl, by omega⟩⟩⟩)
    · exact ranges_tt A n cap L kind nf nt w (hid hr) g g1 g2 HE g3 g4 (by show _ ≤ _; omega)
end Go.Proofs.YtegpfgccaminkaaGreatDoor.Laws
