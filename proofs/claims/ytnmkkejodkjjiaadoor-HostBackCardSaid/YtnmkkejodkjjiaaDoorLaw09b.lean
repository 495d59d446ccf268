/- The walk of the law HostBack: it returns true, whatever it is called with. -/
import Derived.Test.YtnmkkejodkjjiaaDoorHstW
import Derived.Test.YtnmkkejodkjjiaaDoorHstQ
namespace Go.Proofs.YtnmkkejodkjjiaaDoor.Laws
open Go.RowKit Go.Proofs.YtnmkkejodkjjiaaDoor.Base Go.Proofs.YtnmkkejodkjjiaaDoor.Base2 Go.Proofs.YtnmkkejodkjjiaaDoor.SixG Go.Proofs.YtnmkkejodkjjiaaDoor.HstP Go.Proofs.YtnmkkejodkjjiaaDoor.HstA Go.Proofs.YtnmkkejodkjjiaaDoor.HstB Go.Proofs.YtnmkkejodkjjiaaDoor.HstC Go.Proofs.YtnmkkejodkjjiaaDoor.HstQ Go.Proofs.YtnmkkejodkjjiaaDoor.HstW Go.Proofs.YtnmkkejodkjjiaaDoor.Spl

set_option linter.unusedSimpArgs false in
set_option maxHeartbeats 2000000 in
theorem HostBack_any (s : ByteArray) (sp : Bool) (w : World) (hs : s.size ≤ 140737488351232) (hT : Tab.Pow w) (hL : Lad w) (hM : Max w) : Calls Tryd.prog 8 #[.string s, .bool sp] w fun e w' => e = .returned (.bool true) ∧ Below w.heap.size w w' := by
  have HT := hid hT
  have HL := hid hL
  have HM := hid hM
  clear hT hL hM
  by_cases h4 : s.size ≤ 400
  · have h4i : ¬ (400 : Int) < (s.size : Int) := by omega
    have hc := fun w hL hT hM => HstC.parse_any s sp w (by omega) hL hT hM
    cases hv : hst s.data.toList sp with
    | none =>
      rw [hv, show HV none = .tuple #[.string ⟨#[]⟩, .bool false] from rfl] at hc
      have HC := hid hc
      clear hc hv h4 hs
      go_enter Tryd.func8, Tryd.ntmps8
      go_wp2_with fail
      refine (awake_any _ HT.out HL.out HM.out).mono ?_
      rintro e w1 ⟨rfl, hb1⟩
      have HB1 := hid hb1
      clear hb1
      go_wp2_with fail
      refine (HC.out _ (HL.out.below HB1.out) (pow_below HT.out HB1.out) (HM.out.below HB1.out)).mono ?_
      rintro e w2 ⟨rfl, hb2⟩
      have HB2 := hid (bel HB1.out hb2)
      clear hb2
      go_wp2
      go_ret
      exact ⟨rfl, HB2.out⟩
    | some R =>
      have hg := hst_back hv
      have hz := hst_size hv
      obtain ⟨X, hX⟩ : ∃ X : ByteArray, X = strOf R := ⟨_, rfl⟩
      have hXd : X.data.toList = R := by rw [hX]; rfl
      have hl : X.data.toList.length = X.size := Array.length_toList
      have hXs : X.size ≤ 900000 := by
        rw [← hl, hXd]
        have : s.data.toList.length = s.size := Array.length_toList
        omega
      have hXv : HV (some R) = .tuple #[.string X, .bool true] := by rw [hX]; rfl
      rw [hv, hXv] at hc
      have HC := hid hc
      have hc2 := fun w hL hT hM => HstC.parse_any X sp w hXs hL hT hM
      rw [hXd, hg.1, hXv] at hc2
      have HC2 := hid hc2
      have HG : Hid (∀ k (h : k < X.size), 33 ≤ X[k].toNat ∧ X[k].toNat ≤ 126 ∧ (X[0]'(Nat.lt_of_le_of_lt (Nat.zero_le _) h) = 91 ∨ fbd sp X[k] = false)) := by
        show ∀ k (h : k < X.size), _
        intro k h
        have hk : k < R.length := by rw [← hXd, hl]; exact h
        have e1 : X[k] = R[k] := by
          have : X.data.toList[k]'(by rw [hl]; exact h) = X[k] := rfl
          rw [← this]
          simp only [hXd]
        have e0 : X[0]'(by omega) = R[0]'(by omega) := by
          have : X.data.toList[0]'(by rw [hl]; omega) = X[0]'(by omega) := rfl
          rw [← this]
          simp only [hXd]
        rw [e1, e0]
        have hm : R[k] ∈ R := List.getElem_mem hk
        refine ⟨(hg.2.1 _ hm).1, (hg.2.1 _ hm).2, ?_⟩
        by_cases h91 : R.head? = some 91
        · left
          cases R with
          | nil => cases h91
          | cons a r => simp at h91; simpa using h91
        · right
          exact hg.2.2 h91 _ hm
      have HXS := hid hXs
      clear hc hc2 hv h4 hs hg hz hX hXd hl hXv hXs
      go_enter Tryd.func8, Tryd.ntmps8
      go_wp2_with fail
      refine (awake_any _ HT.out HL.out HM.out).mono ?_
      rintro e w1 ⟨rfl, hb1⟩
      have HB1 := hid hb1
      clear hb1
      go_wp2_with fail
      refine (HC.out _ (HL.out.below HB1.out) (pow_below HT.out HB1.out) (HM.out.below HB1.out)).mono ?_
      rintro e w2 ⟨rfl, hb2⟩
      have HB2 := hid (bel HB1.out hb2)
      clear hb2
      go_wp2_with fail
      refine (HC2.out _ (HL.out.below HB2.out) (pow_below HT.out HB2.out) (HM.out.below HB2.out)).mono ?_
      rintro e w3 ⟨rfl, hb3⟩
      have HB3 := hid (bel HB2.out hb3)
      clear hb3
      go_wp2
      go_loopw [9, 43] (fun _ vk wr => ∃ k : Nat, k ≤ X.size ∧ vk = .int .i64 (k : Int) ∧ wr = w3) (fun _ vk _ => X.size - (intOf vk).toNat)
      case atStart => exact ⟨0, Nat.zero_le _, rfl, rfl⟩
      case round =>
        obtain ⟨k, hk, rfl, rfl⟩ := hrel
        have hmz : X.size ≤ 900000 := HXS.out
        by_cases hlt : k < X.size
        · have h0i : (0 : Int) < (X.size : Int) := by omega
          have h0n : 0 < X.size := by omega
          obtain ⟨hg1, hg2, hg3⟩ := HG.out k hlt
          obtain ⟨c, hc⟩ : ∃ c, X[k] = c := ⟨_, rfl⟩
          obtain ⟨x, hx⟩ : ∃ x, X[0] = x := ⟨_, rfl⟩
          rw [hc] at hg1 hg2 hg3
          rw [hx] at hg3
          have c1 : ¬ (126 : Int) < (c.toNat : Int) := by omega
          have c2 : ¬ (c.toNat : Int) < 33 := by omega
          clear hg1 hg2
          by_cases h91 : x = 91
          · have hx1 : ((x.toNat : Int) != 91) = false := by rw [h91]; rfl
            clear hg3 h91
            go_wp2
            go_roundw
            case rel => exact ⟨k + 1, by omega, by go_num, by first | rfl | trivial⟩
            case measure => simp [intOf]; omega
          · have hx1 : ((x.toNat : Int) != 91) = true := by
              rw [bne_iff_ne]
              intro e
              exact h91 (UInt8.toNat_inj.1 (by show _ = 91; omega))
            have hf := hg3.resolve_left h91
            have hfc := fun w => forbidden_any c sp w
            rw [hf] at hfc
            have HF := hid hfc
            clear hg3 h91 hf hfc
            go_wp2_with fail
            refine (HF.out _).mono ?_
            rintro e w4 ⟨rfl, hw4⟩
            subst hw4
            go_wp2
            go_roundw
            case rel => exact ⟨k + 1, by omega, by go_num, by first | rfl | trivial⟩
            case measure => simp [intOf]; omega
        · go_wp2
          go_ret
          exact ⟨rfl, HB3.out⟩
  · have h4i : (400 : Int) < (s.size : Int) := by omega
    clear h4 hs
    go_enter Tryd.func8, Tryd.ntmps8
    go_wp2_with fail
    refine (awake_any _ HT.out HL.out HM.out).mono ?_
    rintro e w1 ⟨rfl, hb1⟩
    have HB1 := hid hb1
    clear hb1
    go_wp2_with fail
    refine (awake_any _ (pow_below HT.out HB1.out) (HL.out.below HB1.out) (HM.out.below HB1.out)).mono ?_
    rintro e w2 ⟨rfl, hb2⟩
    go_wp2
    go_ret
    exact ⟨rfl, bel HB1.out hb2⟩
end Go.Proofs.YtnmkkejodkjjiaaDoor.Laws
