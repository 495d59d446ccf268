/- The walk of the law HostCase: it returns true, whatever it is called with. -/
import Derived.Test.YtnmkkejodkjjiaaDoorHstR
import Derived.Test.YtnmkkejodkjjiaaDoorHstW
import Derived.Test.YtnmkkejodkjjiaaDoorRegs
import Derived.Test.YtnmkkejodkjjiaaDoorRegt
namespace Go.Proofs.YtnmkkejodkjjiaaDoor.Laws
open Go.RowKit Go.Proofs.YtnmkkejodkjjiaaDoor.Base Go.Proofs.YtnmkkejodkjjiaaDoor.Base2 Go.Proofs.YtnmkkejodkjjiaaDoor.Regs Go.Proofs.YtnmkkejodkjjiaaDoor.SixG Go.Proofs.YtnmkkejodkjjiaaDoor.HstP Go.Proofs.YtnmkkejodkjjiaaDoor.HstA Go.Proofs.YtnmkkejodkjjiaaDoor.HstB Go.Proofs.YtnmkkejodkjjiaaDoor.HstC Go.Proofs.YtnmkkejodkjjiaaDoor.HstW Go.Proofs.YtnmkkejodkjjiaaDoor.Spl Go.Proofs.YtnmkkejodkjjiaaDoor.HstR

def D16 : ByteArray := ⟨#[48, 49, 50, 51, 52, 53, 54, 55, 56, 57, 65, 66, 67, 68, 69, 70]⟩
theorem ext_at' (z : Int) (n : Nat) (hz : z = (n : Int)) (h : n < 16) : (⟨#[48, 49, 50, 51, 52, 53, 54, 55, 56, 57, 65, 66, 67, 68, 69, 70]⟩ : ByteArray).extract z.toNat (z + 1).toNat = strOf [EscE.dig n] := by
  have H : ∀ (n : Fin 16), (⟨#[48, 49, 50, 51, 52, 53, 54, 55, 56, 57, 65, 66, 67, 68, 69, 70]⟩ : ByteArray).extract n.val (n.val + 1) = strOf [EscE.dig n.val] := by
    intro n
    apply ByteArray.ext
    revert n
    decide +kernel
  subst hz
  rw [show ((n : Int) + 1).toNat = n + 1 by omega]
  exact H ⟨n, h⟩
theorem and15 (c : UInt8) : bits .and .u8 (c.toNat : Int) 15 = (c.toNat : Int) % 16 := by
  have H : ∀ n : Fin 256, bits .and .u8 (n.val : Int) 15 = (n.val : Int) % 16 := by decide +kernel
  exact H ⟨c.toNat, c.toNat_lt⟩
theorem ext_nat (n : Nat) (h : n < 16) : (⟨#[48, 49, 50, 51, 52, 53, 54, 55, 56, 57, 65, 66, 67, 68, 69, 70]⟩ : ByteArray).extract n (n + 1) = strOf [EscE.dig n] := by
  have := ext_at' (n : Int) n rfl h
  rw [show ((n : Int) + 1).toNat = n + 1 by omega] at this
  exact this
theorem int_wrap8 {e : Int} (h0 : 0 ≤ e) (h1 : e ≤ 255) : Value.int .u8 (IntKind.u8.wrap e) = .int .u8 e := by
  rw [IntKind.wrap_u8]
  congr 1
  omega
theorem dl (s : ByteArray) : s.data.toList.length = s.size := Array.length_toList
theorem ext_left (s : ByteArray) (k : Nat) : (s.extract 0 k).data.toList = s.data.toList.take k := by
  rw [ByteArray.data_extract]
  simp [Array.toList_extract, List.extract_eq_take_drop]
theorem up_yes (c : UInt8) (h1 : 97 ≤ (c.toNat : Int)) (h2 : (c.toNat : Int) ≤ 122) : ((up c).toNat : Int) = (c.toNat : Int) - 32 := by
  have H := HstQ.byteAll (p := fun c => 97 ≤ c.toNat → c.toNat ≤ 122 → (up c).toNat = c.toNat - 32) (by decide +kernel) c (by omega) (by omega)
  omega
theorem up_no (c : UInt8) (h : ¬ (97 ≤ (c.toNat : Int) ∧ (c.toNat : Int) ≤ 122)) : up c = c := by
  unfold up
  rw [if_neg (by omega)]
set_option linter.unusedSimpArgs false in
set_option maxRecDepth 100000 in
set_option maxHeartbeats 8000000 in
theorem HostCase_any (s : ByteArray) (z : Int) (w : World) (hs : s.size ≤ 140737488351232) (hz : 0 ≤ z ∧ z ≤ 255) (hT : Tab.Pow w) (hL : Lad w) (hM : Max w) : Calls Tryd.prog 9 #[.string s, .int .u8 z] w fun e w' => e = .returned (.bool true) ∧ Below w.heap.size w w' := by
  obtain ⟨hz0, hz1⟩ := hz
  obtain ⟨a, rfl⟩ : ∃ a : Nat, z = (a : Int) := ⟨z.toNat, by omega⟩
  have HT := hid hT
  have HL := hid hL
  have HM := hid hM
  clear hT hL hM
  by_cases h3 : s.size ≤ 300
  · have h3i : ¬ (300 : Int) < (s.size : Int) := by omega
    by_cases h0 : s.size = 0
    · have h0i : ((s.size : Int) == 0) = true := by rw [beq_iff_eq]; omega
      clear h3 hs h0
      go_enter Tryd.func9, Tryd.ntmps9
      go_wp2_with fail
      refine (awake_any _ HT.out HL.out HM.out).mono ?_
      rintro e w1 ⟨rfl, hb1⟩
      have HB1 := hid hb1
      clear hb1
      go_wp2_with fail
      refine (awake_any _ (pow_below HT.out HB1.out) (HL.out.below HB1.out) (HM.out.below HB1.out)).mono ?_
      rintro e w2 ⟨rfl, hb2⟩
      go_wp2
      go_ret
      exact ⟨rfl, bel HB1.out hb2⟩
    · have h0i : ((s.size : Int) == 0) = false := by rw [beq_eq_false_iff_ne]; omega
      obtain ⟨k, hk⟩ : ∃ k, k = a % s.size := ⟨_, rfl⟩
      have hks : k < s.size := by rw [hk]; exact Nat.mod_lt _ (by omega)
      have hka2 : (a : Int) % (s.size : Int) = (k : Int) := by rw [hk]; omega
      have hka : (a : Int).tmod (s.size : Int) = (k : Int) := by rw [Int.tmod_eq_emod_of_nonneg (by omega)]; exact hka2
      have hkI : (k : Int) < (s.size : Int) := by omega
      obtain ⟨c0, hc0⟩ : ∃ c, s[k] = c := ⟨_, rfl⟩
      have hkl : k < s.data.toList.length := by rw [dl]; exact hks
      have hcl : s.data.toList[k] = c0 := hc0
      obtain ⟨L, hLd⟩ : ∃ L, L = s.data.toList.take k := ⟨_, rfl⟩
      obtain ⟨M, hMd⟩ : ∃ M, M = s.data.toList.drop (k + 1) := ⟨_, rfl⟩
      have hsp : s.data.toList = L ++ [c0] ++ M := by
        rw [hLd, hMd, ← hcl, List.append_assoc, List.singleton_append, ← List.drop_eq_getElem_cons hkl, List.take_append_drop]
      obtain ⟨SA, hSA⟩ : ∃ S, S = s.extract 0 k := ⟨_, rfl⟩
      obtain ⟨SB, hSB⟩ : ∃ S, S = s.extract (k + 1) s.size := ⟨_, rfl⟩
      have hSAd : SA.data.toList = L := by rw [hSA, ext_left, hLd]
      have hSBd : SB.data.toList = M := by rw [hSB, SixE.cut_str, hMd]
      have hSAz : SA.size ≤ 300 := by rw [hSA, ByteArray.size_extract]; omega
      have hSBz : SB.size ≤ 300 := by rw [hSB, ByteArray.size_extract]; omega
      obtain ⟨c, hc⟩ : ∃ c, c = up c0 := ⟨_, rfl⟩
      obtain ⟨T1, hT1⟩ : ∃ T, T = L ++ [c] := ⟨_, rfl⟩
      obtain ⟨T2, hT2⟩ : ∃ T, T = T1 ++ M := ⟨_, rfl⟩
      have hLl : L.length ≤ 300 := by rw [← hSAd, dl]; exact hSAz
      have hMl : M.length ≤ 300 := by rw [← hSBd, dl]; exact hSBz
      have hT1l : T1.length ≤ 301 := by rw [hT1]; simp; omega
      have hT2l : T2.length ≤ 601 := by rw [hT2]; simp; omega
      have HA1 : Hid (∀ w, (Op.stringOp .add SA (strOf [c])).run Tryd.prog w = .ok (.string (strOf T1)) w) := fun w => by
        rw [hT1, ← hSAd]
        exact str_add' SA (strOf [c]) w (by rw [size_strOf]; show _ + 1 ≤ _; omega)
      have HA2 : Hid (∀ w, (Op.stringOp .add (strOf T1) SB).run Tryd.prog w = .ok (.string (strOf T2)) w) := fun w => by
        rw [hT2, ← hSBd]
        exact str_add' (strOf T1) SB w (by rw [size_strOf]; omega)
      obtain ⟨ho, hho⟩ : ∃ o, o = hst s.data.toList true := ⟨_, rfl⟩
      obtain ⟨X, b, hX⟩ := hv_form ho
      have hP1 : ∀ w, Lad w → Tab.Pow w → Max w → Calls Tryd.prog 18 #[.string s, .bool true] w fun e w' => e = .returned (.tuple #[.string X, .bool b]) ∧ Below w.heap.size w w' := by
        intro w h1 h2 h3
        rw [← hX, hho]
        exact parse_any s true w (by omega) h1 h2 h3
      have hP2 : ∀ w, Lad w → Tab.Pow w → Max w → Calls Tryd.prog 18 #[.string (strOf T2), .bool true] w fun e w' => e = .returned (.tuple #[.string X, .bool b]) ∧ Below w.heap.size w w' := by
        intro w h1 h2 h3
        have := parse_any (strOf T2) true w (by rw [size_strOf]; omega) h1 h2 h3
        rw [show hst (strOf T2).data.toList true = ho by
          rw [hho, hsp]
          show hst T2 true = _
          rw [hT2, hT1, hc]
          exact up_same L M c0, hX] at this
        exact this
      obtain ⟨F1, hF1⟩ : ∃ T, T = L ++ [37] := ⟨_, rfl⟩
      obtain ⟨F2, hF2⟩ : ∃ T, T = F1 ++ [EscE.dig (c.toNat / 16)] := ⟨_, rfl⟩
      obtain ⟨F3, hF3⟩ : ∃ T, T = F2 ++ [EscE.dig (c.toNat % 16)] := ⟨_, rfl⟩
      obtain ⟨F4, hF4⟩ : ∃ T, T = F3 ++ M := ⟨_, rfl⟩
      have hF1l : F1.length ≤ 301 := by rw [hF1]; simp; omega
      have hF2l : F2.length ≤ 302 := by rw [hF2]; simp; omega
      have hF3l : F3.length ≤ 303 := by rw [hF3]; simp; omega
      have hF4l : F4.length ≤ 603 := by rw [hF4]; simp; omega
      have HF1 : Hid (∀ w, (Op.stringOp .add SA ⟨#[37]⟩).run Tryd.prog w = .ok (.string (strOf F1)) w) := fun w => by
        rw [hF1, ← hSAd]
        exact str_add' SA ⟨#[37]⟩ w (by show _ + 1 ≤ _; omega)
      have HF2 : Hid (∀ w, (Op.stringOp .add (strOf F1) (strOf [EscE.dig (c.toNat / 16)])).run Tryd.prog w = .ok (.string (strOf F2)) w) := fun w => by
        rw [hF2]
        exact str_add F1 [EscE.dig (c.toNat / 16)] w (by show _ + 1 ≤ _; omega)
      have HF3 : Hid (∀ w, (Op.stringOp .add (strOf F2) (strOf [EscE.dig (c.toNat % 16)])).run Tryd.prog w = .ok (.string (strOf F3)) w) := fun w => by
        rw [hF3]
        exact str_add F2 [EscE.dig (c.toNat % 16)] w (by show _ + 1 ≤ _; omega)
      have HF4 : Hid (∀ w, (Op.stringOp .add (strOf F3) SB).run Tryd.prog w = .ok (.string (strOf F4)) w) := fun w => by
        rw [hF4, ← hSBd]
        exact str_add' (strOf F3) SB w (by rw [size_strOf]; omega)
      have HP3 : Hid ((∀ x ∈ s.data.toList, x ≠ 37) → s.data.toList.head? ≠ some 91 → ∀ w, Lad w → Tab.Pow w → Max w → Calls Tryd.prog 18 #[.string (strOf F4), .bool true] w fun e w' => e = .returned (.tuple #[.string X, .bool b]) ∧ Below w.heap.size w w') := by
        intro g1 g2 w h1 h2 h3
        have := parse_any (strOf F4) true w (by rw [size_strOf]; omega) h1 h2 h3
        rw [show hst (strOf F4).data.toList true = ho by
          rw [hho, hsp]
          show hst F4 true = _
          rw [hF4, hF3, hF2, hF1, hc]
          have := esc_same L M c0 (by rw [← hsp]; exact g1) (by rw [← hsp]; exact g2)
          rw [← this]
          simp, hX] at this
        exact this
      have HP1 := hid hP1
      have HP2 := hid hP2
      have HSA := hid hSA
      have HSB := hid hSB
      have h1s : (1 : Int) ≤ (s.size : Int) := by omega
      have hk1 : (k : Int) + 1 ≤ (s.size : Int) := by omega
      have h0s : (0 : Int) < (s.size : Int) := by omega
      have h0n : 0 < s.size := by omega
      have hksle : k ≤ s.size := by omega
      have hk1n : k + 1 ≤ s.size := by omega
      obtain ⟨x0, hx0⟩ : ∃ x, s[0] = x := ⟨_, rfl⟩
      have hx0l : s.data.toList.head? = some x0 := by
        rw [List.head?_eq_getElem?, List.getElem?_eq_getElem (by rw [dl]; omega)]
        exact congrArg some hx0
      have HX0 := hid hx0l
      have HC := hid hc
      have hcb : (c.toNat : Int) ≤ 255 := by have := c.toNat_lt; omega
      have hcb0 : (0 : Int) ≤ (c.toNat : Int) := by omega
      clear hk hkl hcl hLd hMd hsp hSAd hSBd hT1 hT2 hLl hMl hT1l hT2l hho hX hP1 hP2 hF1 hF2 hF3 hF4 hF1l hF2l hF3l hF4l hSA hSB hx0l hc h0 h3 hs hSAz hSBz
      go_enter Tryd.func9, Tryd.ntmps9
      go_wp2_with fail
      refine (awake_any _ HT.out HL.out HM.out).mono ?_
      rintro e w1 ⟨rfl, hb1⟩
      have HB1 := hid hb1
      clear hb1
      go_upto_region 5 with (fail)
      obtain ⟨o, hoo⟩ : ∃ o, o = decide (97 ≤ (c0.toNat : Int) ∧ (c0.toNat : Int) ≤ 122) := ⟨_, rfl⟩
      have HO := hid hoo
      clear hoo
      go_cut [42] (fun v wx => v = .bool o ∧ wx = w1)
      case first =>
        by_cases hA1 : 97 ≤ (c0.toNat : Int)
        · by_cases hA2 : (c0.toNat : Int) ≤ 122
          · have HO2 : Hid (o = true) := by show _ = _; rw [HO.out]; exact decide_eq_true ⟨hA1, hA2⟩
            go_wp2
            go_meet
            exact ⟨by rw [HO2.out], rfl⟩
          · have HO2 : Hid (o = false) := by show _ = _; rw [HO.out]; exact decide_eq_false (fun h => hA2 h.2)
            have hA3 : (122 : Int) < (c0.toNat : Int) := by omega
            have hA4 : decide ((c0.toNat : Int) ≤ 122) = false := decide_eq_false hA2
            clear hA2
            go_wp2
            go_meet
            exact ⟨by first | rw [HO2.out] | simp [HO2.out, hA4], rfl⟩
        · have HO2 : Hid (o = false) := by show _ = _; rw [HO.out]; exact decide_eq_false (fun h => hA1 h.1)
          go_wp2
          go_meet
          exact ⟨by rw [HO2.out], rfl⟩
      case rest =>
      obtain ⟨rfl, hwc⟩ := hcut
      subst hwc
      go_upto_if 42 with (fail)
      go_cut [6] (fun v wx => v = .int .u8 (c.toNat : Int) ∧ wx = wc)
      case first =>
        cases o with
        | true =>
          obtain ⟨hA1, hA2⟩ : 97 ≤ (c0.toNat : Int) ∧ (c0.toNat : Int) ≤ 122 := of_decide_eq_true HO.out.symm
          have HCV : Hid ((c.toNat : Int) = (c0.toNat : Int) - 32) := by show _ = _; rw [HC.out]; exact up_yes c0 hA1 hA2
          go_wp2
          go_meet
          exact ⟨by rw [HCV.out], rfl⟩
        | false =>
          have HCV : Hid (c = c0) := by show _ = _; rw [HC.out]; exact up_no c0 (of_decide_eq_false HO.out.symm)
          go_wp2
          go_meet
          exact ⟨by rw [HCV.out], rfl⟩
      case rest =>
      obtain ⟨rfl, hwc⟩ := hcut
      subst hwc
      have HBd := HB1
      go_wp2_with fail
      refine (HP1.out _ (HL.out.below HBd.out) (pow_below HT.out HBd.out) (HM.out.below HBd.out)).mono ?_
      rintro e w3 ⟨rfl, hb3⟩
      have HB := hid (bel HBd.out hb3)
      clear hb3
      have hbb : (b == b) = true := by simp
      have hbn : (b != b) = false := by simp
      have hxx : (X.toList == X.toList) = true := by simp
      by_cases h91 : x0 = 91
      · have q91 : ((x0.toNat : Int) == 91) = true := by rw [h91]; rfl
        clear h91
        go_upto_region 9 with (fail)
        refine wp_region_rel (by kernel_rfl) [is (.string s), is (.int .i64 (k : Int)), is (.string SA), is (.int .u8 (c.toNat : Int)), row 1 (bcells [c]), is (.string (strOf [c])), is (.string (strOf T1)), is (.string s), is (.int .i64 (k : Int)), is (.int .i64 ((k : Int) + 1)), is (.string SB), is (.string (strOf T2)), is (.tuple #[.string X, .bool b]), is (.tuple #[.string X, .bool b]), is (.string X), is (.bool b), is (.string X), is (.bool b)] [[], [], [0, 1], [], [3], [4], [2, 5], [], [], [8], [7, 9], [6, 10], [11], [12], [13], [13], [14], [15]] (by kernel_rfl) ?_ ?_
        · refine ⟨?_, ?_, ?_, ?_, ?_, ?_, ?_, ?_, ?_, ?_, ?_, ?_, ?_, ?_, ?_, ?_, ?_, ?_, trivial⟩
          · intro t wq hbq hh K hK
            clear hh
            simp only [filled, upd, Have, is, any, row, pick, Act.put, List.setIfInBounds_toArray, List.set_cons_zero, List.set_cons_succ, Nat.reduceAdd, Nat.reduceEqDiff, reduceIte] at hK ⊢
            go_simp
            exact hK _ _ (Below.refl _ _) rfl
          · intro t wq hbq hh K hK
            clear hh
            simp only [filled, upd, Have, is, any, row, pick, Act.put, List.setIfInBounds_toArray, List.set_cons_zero, List.set_cons_succ, Nat.reduceAdd, Nat.reduceEqDiff, reduceIte] at hK ⊢
            go_simp
            exact hK _ _ (Below.refl _ _) rfl
          · intro t wq hbq hh K hK
            have e0 := hh.1
            simp only [pick] at e0
            replace e0 : t 0 = (.string s) := e0
            have e1 := hh.2.1
            simp only [pick] at e1
            replace e1 : t 1 = (.int .i64 (k : Int)) := e1
            clear hh
            simp only [filled, upd, Have, is, any, row, pick, Act.put, List.setIfInBounds_toArray, List.set_cons_zero, List.set_cons_succ, Nat.reduceAdd, Nat.reduceEqDiff, reduceIte] at hK ⊢
            simp only [e0, e1] at hK ⊢
            have hsa := HSA.out.symm
            go_simp
            exact hK _ _ (Below.refl _ _) rfl
          · intro t wq hbq hh K hK
            clear hh
            simp only [filled, upd, Have, is, any, row, pick, Act.put, List.setIfInBounds_toArray, List.set_cons_zero, List.set_cons_succ, Nat.reduceAdd, Nat.reduceEqDiff, reduceIte] at hK ⊢
            go_simp
            exact hK _ _ (Below.refl _ _) rfl
          · intro t wq hbq hh K hK
            have e3 := hh.1
            simp only [pick] at e3
            replace e3 : t 3 = (.int .u8 (c.toNat : Int)) := e3
            clear hh
            simp only [filled, upd, Have, is, any, row, pick, Act.put, List.setIfInBounds_toArray, List.set_cons_zero, List.set_cons_succ, Nat.reduceAdd, Nat.reduceEqDiff, reduceIte] at hK ⊢
            simp only [e3] at hK ⊢
            go_simp
            exact hK _ _ ((Below.refl _ _).alloc (Nat.le_refl _) _) ⟨_, _, rfl, Nat.le_refl _, by decide, rds_const wq [c] 5 (0, 0)⟩
          · intro t wq hbq hh K hK
            have e4 := hh.1
            simp only [pick] at e4
            clear hh
            simp only [filled, upd, Have, is, any, row, pick, Act.put, List.setIfInBounds_toArray, List.set_cons_zero, List.set_cons_succ, Nat.reduceAdd, Nat.reduceEqDiff, reduceIte] at hK ⊢
            obtain ⟨A4, c4, e4, hc4, hm4, hr4⟩ := e4
            simp only [e4] at hK ⊢
            have hs := run_string_of 40 9 5 Tryd.underlying40 Tryd.underlying5 Tryd.underlying9 _ c4 hr4
            go_simp
            exact hK _ _ (Below.refl _ _) rfl
          · intro t wq hbq hh K hK
            have e2 := hh.1
            simp only [pick] at e2
            replace e2 : t 2 = (.string SA) := e2
            have e5 := hh.2.1
            simp only [pick] at e5
            replace e5 : t 5 = (.string (strOf [c])) := e5
            clear hh
            simp only [filled, upd, Have, is, any, row, pick, Act.put, List.setIfInBounds_toArray, List.set_cons_zero, List.set_cons_succ, Nat.reduceAdd, Nat.reduceEqDiff, reduceIte] at hK ⊢
            simp only [e2, e5] at hK ⊢
            have hadd := HA1.out wq
            go_simp
            exact hK _ _ (Below.refl _ _) rfl
          · intro t wq hbq hh K hK
            clear hh
            simp only [filled, upd, Have, is, any, row, pick, Act.put, List.setIfInBounds_toArray, List.set_cons_zero, List.set_cons_succ, Nat.reduceAdd, Nat.reduceEqDiff, reduceIte] at hK ⊢
            go_simp
            exact hK _ _ (Below.refl _ _) rfl
          · intro t wq hbq hh K hK
            clear hh
            simp only [filled, upd, Have, is, any, row, pick, Act.put, List.setIfInBounds_toArray, List.set_cons_zero, List.set_cons_succ, Nat.reduceAdd, Nat.reduceEqDiff, reduceIte] at hK ⊢
            go_simp
            exact hK _ _ (Below.refl _ _) rfl
          · intro t wq hbq hh K hK
            have e8 := hh.1
            simp only [pick] at e8
            replace e8 : t 8 = (.int .i64 (k : Int)) := e8
            clear hh
            simp only [filled, upd, Have, is, any, row, pick, Act.put, List.setIfInBounds_toArray, List.set_cons_zero, List.set_cons_succ, Nat.reduceAdd, Nat.reduceEqDiff, reduceIte] at hK ⊢
            simp only [e8] at hK ⊢
            go_simp
            first | exact hK _ _ (Below.refl _ _) rfl | exact hK _ _ (Below.refl _ _) (int_wrap (by omega) (by omega))
          · intro t wq hbq hh K hK
            have e7 := hh.1
            simp only [pick] at e7
            replace e7 : t 7 = (.string s) := e7
            have e9 := hh.2.1
            simp only [pick] at e9
            replace e9 : t 9 = (.int .i64 ((k : Int) + 1)) := e9
            clear hh
            simp only [filled, upd, Have, is, any, row, pick, Act.put, List.setIfInBounds_toArray, List.set_cons_zero, List.set_cons_succ, Nat.reduceAdd, Nat.reduceEqDiff, reduceIte] at hK ⊢
            simp only [e7, e9] at hK ⊢
            have hsb := HSB.out.symm
            have hkt : ((k : Int) + 1).toNat = k + 1 := by omega
            go_simp
            exact hK _ _ (Below.refl _ _) rfl
          · intro t wq hbq hh K hK
            have e6 := hh.1
            simp only [pick] at e6
            replace e6 : t 6 = (.string (strOf T1)) := e6
            have e10 := hh.2.1
            simp only [pick] at e10
            replace e10 : t 10 = (.string SB) := e10
            clear hh
            simp only [filled, upd, Have, is, any, row, pick, Act.put, List.setIfInBounds_toArray, List.set_cons_zero, List.set_cons_succ, Nat.reduceAdd, Nat.reduceEqDiff, reduceIte] at hK ⊢
            simp only [e6, e10] at hK ⊢
            have hadd := HA2.out wq
            go_simp
            exact hK _ _ (Below.refl _ _) rfl
          · intro t wq hbq hh K hK
            have e11 := hh.1
            simp only [pick] at e11
            replace e11 : t 11 = (.string (strOf T2)) := e11
            clear hh
            simp only [filled, upd, Have, is, any, row, pick, Act.put, List.setIfInBounds_toArray, List.set_cons_zero, List.set_cons_succ, Nat.reduceAdd, Nat.reduceEqDiff, reduceIte] at hK ⊢
            simp only [e11] at hK ⊢
            go_simp
            refine (HP2.out _ (HL.out.below (bel HB.out hbq)) (pow_below HT.out (bel HB.out hbq)) (HM.out.below (bel HB.out hbq))).mono ?_
            rintro e w9 ⟨rfl, hb9⟩
            exact hK _ _ hb9 rfl
          · intro t wq hbq hh K hK
            have e12 := hh.1
            simp only [pick] at e12
            replace e12 : t 12 = (.tuple #[.string X, .bool b]) := e12
            clear hh
            simp only [filled, upd, Have, is, any, row, pick, Act.put, List.setIfInBounds_toArray, List.set_cons_zero, List.set_cons_succ, Nat.reduceAdd, Nat.reduceEqDiff, reduceIte] at hK ⊢
            simp only [e12] at hK ⊢
            go_simp
            exact hK _ _ (Below.refl _ _) rfl
          · intro t wq hbq hh K hK
            have e13 := hh.1
            simp only [pick] at e13
            replace e13 : t 13 = (.tuple #[.string X, .bool b]) := e13
            clear hh
            simp only [filled, upd, Have, is, any, row, pick, Act.put, List.setIfInBounds_toArray, List.set_cons_zero, List.set_cons_succ, Nat.reduceAdd, Nat.reduceEqDiff, reduceIte] at hK ⊢
            simp only [e13] at hK ⊢
            go_simp
            exact hK _ _ (Below.refl _ _) rfl
          · intro t wq hbq hh K hK
            have e13 := hh.1
            simp only [pick] at e13
            replace e13 : t 13 = (.tuple #[.string X, .bool b]) := e13
            clear hh
            simp only [filled, upd, Have, is, any, row, pick, Act.put, List.setIfInBounds_toArray, List.set_cons_zero, List.set_cons_succ, Nat.reduceAdd, Nat.reduceEqDiff, reduceIte] at hK ⊢
            simp only [e13] at hK ⊢
            go_simp
            exact hK _ _ (Below.refl _ _) rfl
          · intro t wq hbq hh K hK
            have e14 := hh.1
            simp only [pick] at e14
            replace e14 : t 14 = (.string X) := e14
            clear hh
            simp only [filled, upd, Have, is, any, row, pick, Act.put, List.setIfInBounds_toArray, List.set_cons_zero, List.set_cons_succ, Nat.reduceAdd, Nat.reduceEqDiff, reduceIte] at hK ⊢
            simp only [e14] at hK ⊢
            go_simp
            exact hK _ _ (Below.refl _ _) rfl
          · intro t wq hbq hh K hK
            have e15 := hh.1
            simp only [pick] at e15
            replace e15 : t 15 = (.bool b) := e15
            clear hh
            simp only [filled, upd, Have, is, any, row, pick, Act.put, List.setIfInBounds_toArray, List.set_cons_zero, List.set_cons_succ, Nat.reduceAdd, Nat.reduceEqDiff, reduceIte] at hK ⊢
            simp only [e15] at hK ⊢
            go_simp
            exact hK _ _ (Below.refl _ _) rfl
        · intro t wq hbq hh
          have f16 := have_get hh 16 (by decide)
          simp only [pick] at f16
          replace f16 : t 16 = (.string X) := f16
          have f17 := have_get hh 17 (by decide)
          simp only [pick] at f17
          replace f17 : t 17 = (.bool b) := f17
          clear hh
          simp only [filled, upd, Have, is, any, row, pick, Act.put, List.setIfInBounds_toArray, List.set_cons_zero, List.set_cons_succ, Nat.reduceAdd, Nat.reduceEqDiff, reduceIte]
          simp only [f16, f17]
          have HBf := hid (bel HB.out hbq)
          clear hbq
          cases b with
          | false =>
            go_wp2
            go_ret
            exact ⟨rfl, HBf.out⟩
          | true =>
            go_wp2
            go_ret
            exact ⟨rfl, HBf.out⟩
      · have q91 : ((x0.toNat : Int) == 91) = false := by rw [beq_eq_false_iff_ne]; intro e; exact h91 (UInt8.toNat_inj.1 (by show _ = 91; omega))
        have HNB : Hid (s.data.toList.head? ≠ some 91) := by
          show _ ≠ _
          rw [HX0.out]
          intro e
          injection e with e
          exact h91 e
        clear h91
        go_upto_region 11 with (fail)
        refine wp_region_rel (by kernel_rfl) [is (.string s), is (.int .i64 (k : Int)), is (.string SA), is (.int .u8 (c.toNat : Int)), row 1 (bcells [c]), is (.string (strOf [c])), is (.string (strOf T1)), is (.string s), is (.int .i64 (k : Int)), is (.int .i64 ((k : Int) + 1)), is (.string SB), is (.string (strOf T2)), is (.tuple #[.string X, .bool b]), is (.tuple #[.string X, .bool b]), is (.string X), is (.bool b), is (.string X), is (.bool b)] [[], [], [0, 1], [], [3], [4], [2, 5], [], [], [8], [7, 9], [6, 10], [11], [12], [13], [13], [14], [15]] (by kernel_rfl) ?_ ?_
        · refine ⟨?_, ?_, ?_, ?_, ?_, ?_, ?_, ?_, ?_, ?_, ?_, ?_, ?_, ?_, ?_, ?_, ?_, ?_, trivial⟩
          · intro t wq hbq hh K hK
            clear hh
            simp only [filled, upd, Have, is, any, row, pick, Act.put, List.setIfInBounds_toArray, List.set_cons_zero, List.set_cons_succ, Nat.reduceAdd, Nat.reduceEqDiff, reduceIte] at hK ⊢
            go_simp
            exact hK _ _ (Below.refl _ _) rfl
          · intro t wq hbq hh K hK
            clear hh
            simp only [filled, upd, Have, is, any, row, pick, Act.put, List.setIfInBounds_toArray, List.set_cons_zero, List.set_cons_succ, Nat.reduceAdd, Nat.reduceEqDiff, reduceIte] at hK ⊢
            go_simp
            exact hK _ _ (Below.refl _ _) rfl
          · intro t wq hbq hh K hK
            have e0 := hh.1
            simp only [pick] at e0
            replace e0 : t 0 = (.string s) := e0
            have e1 := hh.2.1
            simp only [pick] at e1
            replace e1 : t 1 = (.int .i64 (k : Int)) := e1
            clear hh
            simp only [filled, upd, Have, is, any, row, pick, Act.put, List.setIfInBounds_toArray, List.set_cons_zero, List.set_cons_succ, Nat.reduceAdd, Nat.reduceEqDiff, reduceIte] at hK ⊢
            simp only [e0, e1] at hK ⊢
            have hsa := HSA.out.symm
            go_simp
            exact hK _ _ (Below.refl _ _) rfl
          · intro t wq hbq hh K hK
            clear hh
            simp only [filled, upd, Have, is, any, row, pick, Act.put, List.setIfInBounds_toArray, List.set_cons_zero, List.set_cons_succ, Nat.reduceAdd, Nat.reduceEqDiff, reduceIte] at hK ⊢
            go_simp
            exact hK _ _ (Below.refl _ _) rfl
          · intro t wq hbq hh K hK
            have e3 := hh.1
            simp only [pick] at e3
            replace e3 : t 3 = (.int .u8 (c.toNat : Int)) := e3
            clear hh
            simp only [filled, upd, Have, is, any, row, pick, Act.put, List.setIfInBounds_toArray, List.set_cons_zero, List.set_cons_succ, Nat.reduceAdd, Nat.reduceEqDiff, reduceIte] at hK ⊢
            simp only [e3] at hK ⊢
            go_simp
            exact hK _ _ ((Below.refl _ _).alloc (Nat.le_refl _) _) ⟨_, _, rfl, Nat.le_refl _, by decide, rds_const wq [c] 5 (0, 0)⟩
          · intro t wq hbq hh K hK
            have e4 := hh.1
            simp only [pick] at e4
            clear hh
            simp only [filled, upd, Have, is, any, row, pick, Act.put, List.setIfInBounds_toArray, List.set_cons_zero, List.set_cons_succ, Nat.reduceAdd, Nat.reduceEqDiff, reduceIte] at hK ⊢
            obtain ⟨A4, c4, e4, hc4, hm4, hr4⟩ := e4
            simp only [e4] at hK ⊢
            have hs := run_string_of 40 9 5 Tryd.underlying40 Tryd.underlying5 Tryd.underlying9 _ c4 hr4
            go_simp
            exact hK _ _ (Below.refl _ _) rfl
          · intro t wq hbq hh K hK
            have e2 := hh.1
            simp only [pick] at e2
            replace e2 : t 2 = (.string SA) := e2
            have e5 := hh.2.1
            simp only [pick] at e5
            replace e5 : t 5 = (.string (strOf [c])) := e5
            clear hh
            simp only [filled, upd, Have, is, any, row, pick, Act.put, List.setIfInBounds_toArray, List.set_cons_zero, List.set_cons_succ, Nat.reduceAdd, Nat.reduceEqDiff, reduceIte] at hK ⊢
            simp only [e2, e5] at hK ⊢
            have hadd := HA1.out wq
            go_simp
            exact hK _ _ (Below.refl _ _) rfl
          · intro t wq hbq hh K hK
            clear hh
            simp only [filled, upd, Have, is, any, row, pick, Act.put, List.setIfInBounds_toArray, List.set_cons_zero, List.set_cons_succ, Nat.reduceAdd, Nat.reduceEqDiff, reduceIte] at hK ⊢
            go_simp
            exact hK _ _ (Below.refl _ _) rfl
          · intro t wq hbq hh K hK
            clear hh
            simp only [filled, upd, Have, is, any, row, pick, Act.put, List.setIfInBounds_toArray, List.set_cons_zero, List.set_cons_succ, Nat.reduceAdd, Nat.reduceEqDiff, reduceIte] at hK ⊢
            go_simp
            exact hK _ _ (Below.refl _ _) rfl
          · intro t wq hbq hh K hK
            have e8 := hh.1
            simp only [pick] at e8
            replace e8 : t 8 = (.int .i64 (k : Int)) := e8
            clear hh
            simp only [filled, upd, Have, is, any, row, pick, Act.put, List.setIfInBounds_toArray, List.set_cons_zero, List.set_cons_succ, Nat.reduceAdd, Nat.reduceEqDiff, reduceIte] at hK ⊢
            simp only [e8] at hK ⊢
            go_simp
            first | exact hK _ _ (Below.refl _ _) rfl | exact hK _ _ (Below.refl _ _) (int_wrap (by omega) (by omega))
          · intro t wq hbq hh K hK
            have e7 := hh.1
            simp only [pick] at e7
            replace e7 : t 7 = (.string s) := e7
            have e9 := hh.2.1
            simp only [pick] at e9
            replace e9 : t 9 = (.int .i64 ((k : Int) + 1)) := e9
            clear hh
            simp only [filled, upd, Have, is, any, row, pick, Act.put, List.setIfInBounds_toArray, List.set_cons_zero, List.set_cons_succ, Nat.reduceAdd, Nat.reduceEqDiff, reduceIte] at hK ⊢
            simp only [e7, e9] at hK ⊢
            have hsb := HSB.out.symm
            have hkt : ((k : Int) + 1).toNat = k + 1 := by omega
            go_simp
            exact hK _ _ (Below.refl _ _) rfl
          · intro t wq hbq hh K hK
            have e6 := hh.1
            simp only [pick] at e6
            replace e6 : t 6 = (.string (strOf T1)) := e6
            have e10 := hh.2.1
            simp only [pick] at e10
            replace e10 : t 10 = (.string SB) := e10
            clear hh
            simp only [filled, upd, Have, is, any, row, pick, Act.put, List.setIfInBounds_toArray, List.set_cons_zero, List.set_cons_succ, Nat.reduceAdd, Nat.reduceEqDiff, reduceIte] at hK ⊢
            simp only [e6, e10] at hK ⊢
            have hadd := HA2.out wq
            go_simp
            exact hK _ _ (Below.refl _ _) rfl
          · intro t wq hbq hh K hK
            have e11 := hh.1
            simp only [pick] at e11
            replace e11 : t 11 = (.string (strOf T2)) := e11
            clear hh
            simp only [filled, upd, Have, is, any, row, pick, Act.put, List.setIfInBounds_toArray, List.set_cons_zero, List.set_cons_succ, Nat.reduceAdd, Nat.reduceEqDiff, reduceIte] at hK ⊢
            simp only [e11] at hK ⊢
            go_simp
            refine (HP2.out _ (HL.out.below (bel HB.out hbq)) (pow_below HT.out (bel HB.out hbq)) (HM.out.below (bel HB.out hbq))).mono ?_
            rintro e w9 ⟨rfl, hb9⟩
            exact hK _ _ hb9 rfl
          · intro t wq hbq hh K hK
            have e12 := hh.1
            simp only [pick] at e12
            replace e12 : t 12 = (.tuple #[.string X, .bool b]) := e12
            clear hh
            simp only [filled, upd, Have, is, any, row, pick, Act.put, List.setIfInBounds_toArray, List.set_cons_zero, List.set_cons_succ, Nat.reduceAdd, Nat.reduceEqDiff, reduceIte] at hK ⊢
            simp only [e12] at hK ⊢
            go_simp
            exact hK _ _ (Below.refl _ _) rfl
          · intro t wq hbq hh K hK
            have e13 := hh.1
            simp only [pick] at e13
            replace e13 : t 13 = (.tuple #[.string X, .bool b]) := e13
            clear hh
            simp only [filled, upd, Have, is, any, row, pick, Act.put, List.setIfInBounds_toArray, List.set_cons_zero, List.set_cons_succ, Nat.reduceAdd, Nat.reduceEqDiff, reduceIte] at hK ⊢
            simp only [e13] at hK ⊢
            go_simp
            exact hK _ _ (Below.refl _ _) rfl
          · intro t wq hbq hh K hK
            have e13 := hh.1
            simp only [pick] at e13
            replace e13 : t 13 = (.tuple #[.string X, .bool b]) := e13
            clear hh
            simp only [filled, upd, Have, is, any, row, pick, Act.put, List.setIfInBounds_toArray, List.set_cons_zero, List.set_cons_succ, Nat.reduceAdd, Nat.reduceEqDiff, reduceIte] at hK ⊢
            simp only [e13] at hK ⊢
            go_simp
            exact hK _ _ (Below.refl _ _) rfl
          · intro t wq hbq hh K hK
            have e14 := hh.1
            simp only [pick] at e14
            replace e14 : t 14 = (.string X) := e14
            clear hh
            simp only [filled, upd, Have, is, any, row, pick, Act.put, List.setIfInBounds_toArray, List.set_cons_zero, List.set_cons_succ, Nat.reduceAdd, Nat.reduceEqDiff, reduceIte] at hK ⊢
            simp only [e14] at hK ⊢
            go_simp
            exact hK _ _ (Below.refl _ _) rfl
          · intro t wq hbq hh K hK
            have e15 := hh.1
            simp only [pick] at e15
            replace e15 : t 15 = (.bool b) := e15
            clear hh
            simp only [filled, upd, Have, is, any, row, pick, Act.put, List.setIfInBounds_toArray, List.set_cons_zero, List.set_cons_succ, Nat.reduceAdd, Nat.reduceEqDiff, reduceIte] at hK ⊢
            simp only [e15] at hK ⊢
            go_simp
            exact hK _ _ (Below.refl _ _) rfl
        · intro t wq hbq hh
          have f16 := have_get hh 16 (by decide)
          simp only [pick] at f16
          replace f16 : t 16 = (.string X) := f16
          have f17 := have_get hh 17 (by decide)
          simp only [pick] at f17
          replace f17 : t 17 = (.bool b) := f17
          clear hh
          simp only [filled, upd, Have, is, any, row, pick, Act.put, List.setIfInBounds_toArray, List.set_cons_zero, List.set_cons_succ, Nat.reduceAdd, Nat.reduceEqDiff, reduceIte]
          simp only [f16, f17]
          have HBf := hid (bel HB.out hbq)
          clear hbq
          go_upto_region 15 with (fail)
          go_loopw [13, 103] (fun _ vk wr => ∃ j : Nat, j ≤ s.size ∧ vk = .int .i64 (j : Int) ∧ wr = wq ∧ Hid (∀ i (h : i < s.data.toList.length), i < j → s.data.toList[i] ≠ 37)) (fun _ vk _ => s.size - (intOf vk).toNat)
          case atStart => exact ⟨0, Nat.zero_le _, rfl, rfl, fun i _ h => by omega⟩
          case round =>
            obtain ⟨j, hj, rfl, hwr, HNO⟩ := hrel
            subst hwr
            by_cases hlt : j < s.size
            · obtain ⟨x, hx⟩ : ∃ x, s[j] = x := ⟨_, rfl⟩
              have hxl : s.data.toList[j]'(by rw [dl]; exact hlt) = x := hx
              by_cases h37 : x = 37
              · have q1 : ((x.toNat : Int) == 37) = true := by rw [h37]; rfl
                clear hxl
                go_wp2
                go_ret
                exact ⟨rfl, HBf.out⟩
              · have q1 : ((x.toNat : Int) == 37) = false := by rw [beq_eq_false_iff_ne]; intro e; exact h37 (UInt8.toNat_inj.1 (by show _ = 37; omega))
                have HNO2 : Hid (∀ i (h : i < s.data.toList.length), i < j + 1 → s.data.toList[i] ≠ 37) := by
                  intro i h hi
                  by_cases hij : i < j
                  · exact HNO.out i h hij
                  · obtain rfl : i = j := by omega
                    rw [hxl]
                    exact h37
                clear hxl h37
                go_wp2
                go_roundw
                case rel => exact ⟨j + 1, by omega, by go_num, by first | rfl | trivial, HNO2.out⟩
                case measure => simp [intOf]; omega
            · obtain rfl : j = s.size := by omega
              replace HP3 := hid (HP3.out (fun x hx => by
                obtain ⟨i, hi, rfl⟩ := List.getElem_of_mem hx
                exact HNO.out i hi (by rw [← dl]; exact hi)) HNB.out)
              clear HNO
              go_upto_region 20 with (fail)
              refine wp_region_rel (by kernel_rfl) [is (.string s), is (.int .i64 (k : Int)), is (.string SA), is (.string (strOf F1)), is (.int .u8 (c.toNat : Int)), is (.int .u8 ((c.toNat : Int) / 16)), is (.int .u8 (c.toNat : Int)), is (.int .u8 ((c.toNat : Int) / 16)), is (.int .u8 ((c.toNat : Int) / 16 + 1)), is (.string (strOf [EscE.dig (c.toNat / 16)])), is (.string (strOf F2)), is (.int .u8 (c.toNat : Int)), is (.int .u8 ((c.toNat : Int) % 16)), is (.int .u8 (c.toNat : Int)), is (.int .u8 ((c.toNat : Int) % 16)), is (.int .u8 ((c.toNat : Int) % 16 + 1)), is (.string (strOf [EscE.dig (c.toNat % 16)])), is (.string (strOf F3)), is (.string s), is (.int .i64 (k : Int)), is (.int .i64 ((k : Int) + 1)), is (.string SB), is (.string (strOf F4)), is (.tuple #[.string X, .bool b]), is (.tuple #[.string X, .bool b]), is (.string X), is (.bool b), is (.string X), is (.bool b)] [[], [], [0, 1], [2], [], [4], [], [6], [7], [5, 8], [3, 9], [], [11], [], [13], [14], [12, 15], [10, 16], [], [], [19], [18, 20], [17, 21], [22], [23], [24], [24], [25], [26]] (by kernel_rfl) ?_ ?_
              · refine ⟨?_, ?_, ?_, ?_, ?_, ?_, ?_, ?_, ?_, ?_, ?_, ?_, ?_, ?_, ?_, ?_, ?_, ?_, ?_, ?_, ?_, ?_, ?_, ?_, ?_, ?_, ?_, ?_, ?_, trivial⟩
                · intro t wx hbx hh K hK
                  clear hh
                  simp only [filled, upd, Have, is, any, row, pick, Act.put, List.setIfInBounds_toArray, List.set_cons_zero, List.set_cons_succ, Nat.reduceAdd, Nat.reduceEqDiff, reduceIte] at hK ⊢
                  go_simp
                  exact hK _ _ (Below.refl _ _) rfl
                · intro t wx hbx hh K hK
                  clear hh
                  simp only [filled, upd, Have, is, any, row, pick, Act.put, List.setIfInBounds_toArray, List.set_cons_zero, List.set_cons_succ, Nat.reduceAdd, Nat.reduceEqDiff, reduceIte] at hK ⊢
                  go_simp
                  exact hK _ _ (Below.refl _ _) rfl
                · intro t wx hbx hh K hK
                  have e0 := hh.1
                  simp only [pick] at e0
                  replace e0 : t 0 = (.string s) := e0
                  have e1 := hh.2.1
                  simp only [pick] at e1
                  replace e1 : t 1 = (.int .i64 (k : Int)) := e1
                  clear hh
                  simp only [filled, upd, Have, is, any, row, pick, Act.put, List.setIfInBounds_toArray, List.set_cons_zero, List.set_cons_succ, Nat.reduceAdd, Nat.reduceEqDiff, reduceIte] at hK ⊢
                  simp only [e0, e1] at hK ⊢
                  have hsa := HSA.out.symm
                  go_simp
                  exact hK _ _ (Below.refl _ _) rfl
                · intro t wx hbx hh K hK
                  have e2 := hh.1
                  simp only [pick] at e2
                  replace e2 : t 2 = (.string SA) := e2
                  clear hh
                  simp only [filled, upd, Have, is, any, row, pick, Act.put, List.setIfInBounds_toArray, List.set_cons_zero, List.set_cons_succ, Nat.reduceAdd, Nat.reduceEqDiff, reduceIte] at hK ⊢
                  simp only [e2] at hK ⊢
                  have hadd := HF1.out wx
                  go_simp
                  exact hK _ _ (Below.refl _ _) rfl
                · intro t wx hbx hh K hK
                  clear hh
                  simp only [filled, upd, Have, is, any, row, pick, Act.put, List.setIfInBounds_toArray, List.set_cons_zero, List.set_cons_succ, Nat.reduceAdd, Nat.reduceEqDiff, reduceIte] at hK ⊢
                  go_simp
                  exact hK _ _ (Below.refl _ _) rfl
                · intro t wx hbx hh K hK
                  have e4 := hh.1
                  simp only [pick] at e4
                  replace e4 : t 4 = (.int .u8 (c.toNat : Int)) := e4
                  clear hh
                  simp only [filled, upd, Have, is, any, row, pick, Act.put, List.setIfInBounds_toArray, List.set_cons_zero, List.set_cons_succ, Nat.reduceAdd, Nat.reduceEqDiff, reduceIte] at hK ⊢
                  simp only [e4] at hK ⊢
                  go_simp
                  first | exact hK _ _ (Below.refl _ _) rfl | exact hK _ _ (Below.refl _ _) (int_wrap8 (by omega) (by omega))
                · intro t wx hbx hh K hK
                  clear hh
                  simp only [filled, upd, Have, is, any, row, pick, Act.put, List.setIfInBounds_toArray, List.set_cons_zero, List.set_cons_succ, Nat.reduceAdd, Nat.reduceEqDiff, reduceIte] at hK ⊢
                  go_simp
                  exact hK _ _ (Below.refl _ _) rfl
                · intro t wx hbx hh K hK
                  have e6 := hh.1
                  simp only [pick] at e6
                  replace e6 : t 6 = (.int .u8 (c.toNat : Int)) := e6
                  clear hh
                  simp only [filled, upd, Have, is, any, row, pick, Act.put, List.setIfInBounds_toArray, List.set_cons_zero, List.set_cons_succ, Nat.reduceAdd, Nat.reduceEqDiff, reduceIte] at hK ⊢
                  simp only [e6] at hK ⊢
                  go_simp
                  first | exact hK _ _ (Below.refl _ _) rfl | exact hK _ _ (Below.refl _ _) (int_wrap8 (by omega) (by omega))
                · intro t wx hbx hh K hK
                  have e7 := hh.1
                  simp only [pick] at e7
                  replace e7 : t 7 = (.int .u8 ((c.toNat : Int) / 16)) := e7
                  clear hh
                  simp only [filled, upd, Have, is, any, row, pick, Act.put, List.setIfInBounds_toArray, List.set_cons_zero, List.set_cons_succ, Nat.reduceAdd, Nat.reduceEqDiff, reduceIte] at hK ⊢
                  simp only [e7] at hK ⊢
                  go_simp
                  first | exact hK _ _ (Below.refl _ _) rfl | exact hK _ _ (Below.refl _ _) (int_wrap8 (by omega) (by omega))
                · intro t wx hbx hh K hK
                  have e5 := hh.1
                  simp only [pick] at e5
                  replace e5 : t 5 = (.int .u8 ((c.toNat : Int) / 16)) := e5
                  have e8 := hh.2.1
                  simp only [pick] at e8
                  replace e8 : t 8 = (.int .u8 ((c.toNat : Int) / 16 + 1)) := e8
                  clear hh
                  simp only [filled, upd, Have, is, any, row, pick, Act.put, List.setIfInBounds_toArray, List.set_cons_zero, List.set_cons_succ, Nat.reduceAdd, Nat.reduceEqDiff, reduceIte] at hK ⊢
                  simp only [e5, e8] at hK ⊢
                  have p1 : (0 : Int) ≤ (c.toNat : Int) / 16 + 1 := by omega
                  have p2 : (c.toNat : Int) / 16 + 1 ≤ 16 := by omega
                  have p3 : (0 : Int) ≤ (c.toNat : Int) / 16 := by omega
                  have p4 : (c.toNat : Int) / 16 ≤ (c.toNat : Int) / 16 + 1 := by omega
                  go_simp
                  refine hK _ _ (Below.refl _ _) ?_
                  first | exact congrArg Value.string (ext_nat _ (by omega)) | exact congrArg Value.string (ext_at' _ _ (by omega) (by omega)) | (show Value.string _ = Value.string _; congr 1; trace_state; fail)
                · intro t wx hbx hh K hK
                  have e3 := hh.1
                  simp only [pick] at e3
                  replace e3 : t 3 = (.string (strOf F1)) := e3
                  have e9 := hh.2.1
                  simp only [pick] at e9
                  replace e9 : t 9 = (.string (strOf [EscE.dig (c.toNat / 16)])) := e9
                  clear hh
                  simp only [filled, upd, Have, is, any, row, pick, Act.put, List.setIfInBounds_toArray, List.set_cons_zero, List.set_cons_succ, Nat.reduceAdd, Nat.reduceEqDiff, reduceIte] at hK ⊢
                  simp only [e3, e9] at hK ⊢
                  have hadd := HF2.out wx
                  go_simp
                  exact hK _ _ (Below.refl _ _) rfl
                · intro t wx hbx hh K hK
                  clear hh
                  simp only [filled, upd, Have, is, any, row, pick, Act.put, List.setIfInBounds_toArray, List.set_cons_zero, List.set_cons_succ, Nat.reduceAdd, Nat.reduceEqDiff, reduceIte] at hK ⊢
                  go_simp
                  exact hK _ _ (Below.refl _ _) rfl
                · intro t wx hbx hh K hK
                  have e11 := hh.1
                  simp only [pick] at e11
                  replace e11 : t 11 = (.int .u8 (c.toNat : Int)) := e11
                  clear hh
                  simp only [filled, upd, Have, is, any, row, pick, Act.put, List.setIfInBounds_toArray, List.set_cons_zero, List.set_cons_succ, Nat.reduceAdd, Nat.reduceEqDiff, reduceIte] at hK ⊢
                  simp only [e11] at hK ⊢
                  have hand := and15 c
                  go_simp
                  first | exact hK _ _ (Below.refl _ _) rfl | exact hK _ _ (Below.refl _ _) (int_wrap8 (by omega) (by omega))
                · intro t wx hbx hh K hK
                  clear hh
                  simp only [filled, upd, Have, is, any, row, pick, Act.put, List.setIfInBounds_toArray, List.set_cons_zero, List.set_cons_succ, Nat.reduceAdd, Nat.reduceEqDiff, reduceIte] at hK ⊢
                  go_simp
                  exact hK _ _ (Below.refl _ _) rfl
                · intro t wx hbx hh K hK
                  have e13 := hh.1
                  simp only [pick] at e13
                  replace e13 : t 13 = (.int .u8 (c.toNat : Int)) := e13
                  clear hh
                  simp only [filled, upd, Have, is, any, row, pick, Act.put, List.setIfInBounds_toArray, List.set_cons_zero, List.set_cons_succ, Nat.reduceAdd, Nat.reduceEqDiff, reduceIte] at hK ⊢
                  simp only [e13] at hK ⊢
                  have hand := and15 c
                  go_simp
                  first | exact hK _ _ (Below.refl _ _) rfl | exact hK _ _ (Below.refl _ _) (int_wrap8 (by omega) (by omega))
                · intro t wx hbx hh K hK
                  have e14 := hh.1
                  simp only [pick] at e14
                  replace e14 : t 14 = (.int .u8 ((c.toNat : Int) % 16)) := e14
                  clear hh
                  simp only [filled, upd, Have, is, any, row, pick, Act.put, List.setIfInBounds_toArray, List.set_cons_zero, List.set_cons_succ, Nat.reduceAdd, Nat.reduceEqDiff, reduceIte] at hK ⊢
                  simp only [e14] at hK ⊢
                  go_simp
                  first | exact hK _ _ (Below.refl _ _) rfl | exact hK _ _ (Below.refl _ _) (int_wrap8 (by omega) (by omega))
                · intro t wx hbx hh K hK
                  have e12 := hh.1
                  simp only [pick] at e12
                  replace e12 : t 12 = (.int .u8 ((c.toNat : Int) % 16)) := e12
                  have e15 := hh.2.1
                  simp only [pick] at e15
                  replace e15 : t 15 = (.int .u8 ((c.toNat : Int) % 16 + 1)) := e15
                  clear hh
                  simp only [filled, upd, Have, is, any, row, pick, Act.put, List.setIfInBounds_toArray, List.set_cons_zero, List.set_cons_succ, Nat.reduceAdd, Nat.reduceEqDiff, reduceIte] at hK ⊢
                  simp only [e12, e15] at hK ⊢
                  have p1 : (0 : Int) ≤ (c.toNat : Int) % 16 + 1 := by omega
                  have p2 : (c.toNat : Int) % 16 + 1 ≤ 16 := by omega
                  have p3 : (0 : Int) ≤ (c.toNat : Int) % 16 := by omega
                  have p4 : (c.toNat : Int) % 16 ≤ (c.toNat : Int) % 16 + 1 := by omega
                  go_simp
                  refine hK _ _ (Below.refl _ _) ?_
                  first | exact congrArg Value.string (ext_nat _ (by omega)) | exact congrArg Value.string (ext_at' _ _ (by omega) (by omega)) | (show Value.string _ = Value.string _; congr 1; trace_state; fail)
                · intro t wx hbx hh K hK
                  have e10 := hh.1
                  simp only [pick] at e10
                  replace e10 : t 10 = (.string (strOf F2)) := e10
                  have e16 := hh.2.1
                  simp only [pick] at e16
                  replace e16 : t 16 = (.string (strOf [EscE.dig (c.toNat % 16)])) := e16
                  clear hh
                  simp only [filled, upd, Have, is, any, row, pick, Act.put, List.setIfInBounds_toArray, List.set_cons_zero, List.set_cons_succ, Nat.reduceAdd, Nat.reduceEqDiff, reduceIte] at hK ⊢
                  simp only [e10, e16] at hK ⊢
                  have hadd := HF3.out wx
                  go_simp
                  exact hK _ _ (Below.refl _ _) rfl
                · intro t wx hbx hh K hK
                  clear hh
                  simp only [filled, upd, Have, is, any, row, pick, Act.put, List.setIfInBounds_toArray, List.set_cons_zero, List.set_cons_succ, Nat.reduceAdd, Nat.reduceEqDiff, reduceIte] at hK ⊢
                  go_simp
                  exact hK _ _ (Below.refl _ _) rfl
                · intro t wx hbx hh K hK
                  clear hh
                  simp only [filled, upd, Have, is, any, row, pick, Act.put, List.setIfInBounds_toArray, List.set_cons_zero, List.set_cons_succ, Nat.reduceAdd, Nat.reduceEqDiff, reduceIte] at hK ⊢
                  go_simp
                  exact hK _ _ (Below.refl _ _) rfl
                · intro t wx hbx hh K hK
                  have e19 := hh.1
                  simp only [pick] at e19
                  replace e19 : t 19 = (.int .i64 (k : Int)) := e19
                  clear hh
                  simp only [filled, upd, Have, is, any, row, pick, Act.put, List.setIfInBounds_toArray, List.set_cons_zero, List.set_cons_succ, Nat.reduceAdd, Nat.reduceEqDiff, reduceIte] at hK ⊢
                  simp only [e19] at hK ⊢
                  go_simp
                  first | exact hK _ _ (Below.refl _ _) rfl | exact hK _ _ (Below.refl _ _) (int_wrap (by omega) (by omega))
                · intro t wx hbx hh K hK
                  have e18 := hh.1
                  simp only [pick] at e18
                  replace e18 : t 18 = (.string s) := e18
                  have e20 := hh.2.1
                  simp only [pick] at e20
                  replace e20 : t 20 = (.int .i64 ((k : Int) + 1)) := e20
                  clear hh
                  simp only [filled, upd, Have, is, any, row, pick, Act.put, List.setIfInBounds_toArray, List.set_cons_zero, List.set_cons_succ, Nat.reduceAdd, Nat.reduceEqDiff, reduceIte] at hK ⊢
                  simp only [e18, e20] at hK ⊢
                  have hsb := HSB.out.symm
                  have hkt : ((k : Int) + 1).toNat = k + 1 := by omega
                  go_simp
                  exact hK _ _ (Below.refl _ _) rfl
                · intro t wx hbx hh K hK
                  have e17 := hh.1
                  simp only [pick] at e17
                  replace e17 : t 17 = (.string (strOf F3)) := e17
                  have e21 := hh.2.1
                  simp only [pick] at e21
                  replace e21 : t 21 = (.string SB) := e21
                  clear hh
                  simp only [filled, upd, Have, is, any, row, pick, Act.put, List.setIfInBounds_toArray, List.set_cons_zero, List.set_cons_succ, Nat.reduceAdd, Nat.reduceEqDiff, reduceIte] at hK ⊢
                  simp only [e17, e21] at hK ⊢
                  have hadd := HF4.out wx
                  go_simp
                  exact hK _ _ (Below.refl _ _) rfl
                · intro t wx hbx hh K hK
                  have e22 := hh.1
                  simp only [pick] at e22
                  replace e22 : t 22 = (.string (strOf F4)) := e22
                  clear hh
                  simp only [filled, upd, Have, is, any, row, pick, Act.put, List.setIfInBounds_toArray, List.set_cons_zero, List.set_cons_succ, Nat.reduceAdd, Nat.reduceEqDiff, reduceIte] at hK ⊢
                  simp only [e22] at hK ⊢
                  go_simp
                  refine (HP3.out _ (HL.out.below (bel HBf.out hbx)) (pow_below HT.out (bel HBf.out hbx)) (HM.out.below (bel HBf.out hbx))).mono ?_
                  rintro e w9 ⟨rfl, hb9⟩
                  exact hK _ _ hb9 rfl
                · intro t wx hbx hh K hK
                  have e23 := hh.1
                  simp only [pick] at e23
                  replace e23 : t 23 = (.tuple #[.string X, .bool b]) := e23
                  clear hh
                  simp only [filled, upd, Have, is, any, row, pick, Act.put, List.setIfInBounds_toArray, List.set_cons_zero, List.set_cons_succ, Nat.reduceAdd, Nat.reduceEqDiff, reduceIte] at hK ⊢
                  simp only [e23] at hK ⊢
                  go_simp
                  exact hK _ _ (Below.refl _ _) rfl
                · intro t wx hbx hh K hK
                  have e24 := hh.1
                  simp only [pick] at e24
                  replace e24 : t 24 = (.tuple #[.string X, .bool b]) := e24
                  clear hh
                  simp only [filled, upd, Have, is, any, row, pick, Act.put, List.setIfInBounds_toArray, List.set_cons_zero, List.set_cons_succ, Nat.reduceAdd, Nat.reduceEqDiff, reduceIte] at hK ⊢
                  simp only [e24] at hK ⊢
                  go_simp
                  exact hK _ _ (Below.refl _ _) rfl
                · intro t wx hbx hh K hK
                  have e24 := hh.1
                  simp only [pick] at e24
                  replace e24 : t 24 = (.tuple #[.string X, .bool b]) := e24
                  clear hh
                  simp only [filled, upd, Have, is, any, row, pick, Act.put, List.setIfInBounds_toArray, List.set_cons_zero, List.set_cons_succ, Nat.reduceAdd, Nat.reduceEqDiff, reduceIte] at hK ⊢
                  simp only [e24] at hK ⊢
                  go_simp
                  exact hK _ _ (Below.refl _ _) rfl
                · intro t wx hbx hh K hK
                  have e25 := hh.1
                  simp only [pick] at e25
                  replace e25 : t 25 = (.string X) := e25
                  clear hh
                  simp only [filled, upd, Have, is, any, row, pick, Act.put, List.setIfInBounds_toArray, List.set_cons_zero, List.set_cons_succ, Nat.reduceAdd, Nat.reduceEqDiff, reduceIte] at hK ⊢
                  simp only [e25] at hK ⊢
                  go_simp
                  exact hK _ _ (Below.refl _ _) rfl
                · intro t wx hbx hh K hK
                  have e26 := hh.1
                  simp only [pick] at e26
                  replace e26 : t 26 = (.bool b) := e26
                  clear hh
                  simp only [filled, upd, Have, is, any, row, pick, Act.put, List.setIfInBounds_toArray, List.set_cons_zero, List.set_cons_succ, Nat.reduceAdd, Nat.reduceEqDiff, reduceIte] at hK ⊢
                  simp only [e26] at hK ⊢
                  go_simp
                  exact hK _ _ (Below.refl _ _) rfl
              · intro t wx hbx hh
                have f27 := have_get hh 27 (by decide)
                simp only [pick] at f27
                replace f27 : t 27 = (.string X) := f27
                have f28 := have_get hh 28 (by decide)
                simp only [pick] at f28
                replace f28 : t 28 = (.bool b) := f28
                clear hh
                simp only [filled, upd, Have, is, any, row, pick, Act.put, List.setIfInBounds_toArray, List.set_cons_zero, List.set_cons_succ, Nat.reduceAdd, Nat.reduceEqDiff, reduceIte]
                simp only [f27, f28]
                have HBh := hid (bel HBf.out hbx)
                clear hbx
                cases b with
                | false =>
                  by_cases hk0 : k = 0
                  · have q1 : ((k : Int) == 0) = true := by rw [hk0]; rfl
                    by_cases h91 : c = 91
                    · have q2 : ((c.toNat : Int) == 91) = true := by rw [h91]; rfl
                      go_wp2
                      go_ret
                      exact ⟨rfl, HBh.out⟩
                    · have q2 : ((c.toNat : Int) == 91) = false := by rw [beq_eq_false_iff_ne]; intro e; exact h91 (UInt8.toNat_inj.1 (by show _ = 91; omega))
                      go_wp2
                      go_ret
                      exact ⟨rfl, HBh.out⟩
                  · have q1 : ((k : Int) == 0) = false := by rw [beq_eq_false_iff_ne]; omega
                    go_wp2
                    go_ret
                    exact ⟨rfl, HBh.out⟩
                | true =>
                  by_cases hk0 : k = 0
                  · have q1 : ((k : Int) == 0) = true := by rw [hk0]; rfl
                    by_cases h91 : c = 91
                    · have q2 : ((c.toNat : Int) == 91) = true := by rw [h91]; rfl
                      go_wp2
                      go_ret
                      exact ⟨rfl, HBh.out⟩
                    · have q2 : ((c.toNat : Int) == 91) = false := by rw [beq_eq_false_iff_ne]; intro e; exact h91 (UInt8.toNat_inj.1 (by show _ = 91; omega))
                      go_wp2
                      go_ret
                      exact ⟨rfl, HBh.out⟩
                  · have q1 : ((k : Int) == 0) = false := by rw [beq_eq_false_iff_ne]; omega
                    go_wp2
                    go_ret
                    exact ⟨rfl, HBh.out⟩
  · have h3i : (300 : Int) < (s.size : Int) := by omega
    clear h3 hs
    go_enter Tryd.func9, Tryd.ntmps9
    go_wp2_with fail
    refine (awake_any _ HT.out HL.out HM.out).mono ?_
    rintro e w1 ⟨rfl, hb1⟩
    have HB1 := hid hb1
    clear hb1
    go_wp2_with fail
    refine (awake_any _ (pow_below HT.out HB1.out) (HL.out.below HB1.out) (HM.out.below HB1.out)).mono ?_
    rintro e w2 ⟨rfl, hb2⟩
    go_wp2
    go_ret
    exact ⟨rfl, bel HB1.out hb2⟩
end Go.Proofs.YtnmkkejodkjjiaaDoor.Laws
