/- IPv4 addresses: the document's Parse. -/
import Derived.Test.YtnmkkejodkjjiaaDoorQudE
namespace Go.Proofs.YtnmkkejodkjjiaaDoor.QudF
open Go.RowKit Go.Proofs.YtnmkkejodkjjiaaDoor.Base Go.Proofs.YtnmkkejodkjjiaaDoor.Base2 Go.Proofs.YtnmkkejodkjjiaaDoor.UtfA Go.Proofs.YtnmkkejodkjjiaaDoor.QudP Go.Proofs.YtnmkkejodkjjiaaDoor.QudA Go.Proofs.YtnmkkejodkjjiaaDoor.QudB Go.Proofs.YtnmkkejodkjjiaaDoor.QudC Go.Proofs.YtnmkkejodkjjiaaDoor.QudD Go.Proofs.YtnmkkejodkjjiaaDoor.QudE

set_option maxRecDepth 100000 in
set_option maxHeartbeats 4000000 in
theorem refParse_any (s : ByteArray) (w : World) (hs : s.size ≤ 900000) : Calls Tryd.prog 39 #[.string s] w fun e w' => e = .returned (PrsV (prs s.data.toList)) ∧ Below w.heap.size w w' := by
  have hsl : s.data.toList.length = s.size := Array.length_toList
  obtain ⟨S, hS⟩ : ∃ S, S = prs s.data.toList := ⟨_, rfl⟩
  obtain ⟨R, hR⟩ : ∃ R, R = prt (splt s.data.toList) := ⟨_, rfl⟩
  have hR2 : R = splt (unp s.data.toList) := by rw [hR, prt_splt]
  have hS2 : S = if R.length ≤ 4 then adr 4294967296 0 R else none := by rw [hS, hR2]; rfl
  have hul : (unp s.data.toList).length ≤ s.size := by rw [← hsl]; exact unp_len _
  have hrp : 0 < R.length := by rw [hR2]; exact List.length_pos_iff.2 (splt_ne _)
  have hrl : R.length ≤ 900001 := by have := length_splt (unp s.data.toList); rw [hR2]; omega
  have HPART : Hid (∀ p ∈ R, p.length ≤ 900000) := by
    intro p hp
    rw [hR2] at hp
    have := splt_part _ p hp
    omega
  have HR := hid hR
  have HS2 := hid hS2
  rw [← hS]
  clear hS hS2 hR hR2 hul hsl
  go_enter Tryd.func39, Tryd.ntmps39
  go_wp2_with fail
  refine (refparts_any s _ hs).mono ?_
  rw [← HR.out]
  rintro e w3 ⟨A, n, c, rfl, hn, hnc, hcm, hrd, hb⟩
  rw [← hn] at hrp hrl
  have HRD0 := hid hrd
  have HB0 := hid hb
  have HN := hid hn
  unfold maxLen at hcm
  clear hn hrd hb
  by_cases h4 : n ≤ 4
  · have h4i : ¬ (4 : Int) < (n : Int) := by omega
    have HW0 : Hid (S = adr 4294967296 0 (R.drop 0)) := by show _ = _; rw [HS2.out, if_pos (by rw [← HN.out]; exact h4), List.drop_zero]
    go_wp2
    generalize decide ((4 : Int) < (n : Int)) = dd
    go_loopw [5, 6, 7, 8, 16] (fun vm va _ _ vk wr => ∃ (k acc : Nat), k ≤ n ∧ vk = .int .i64 (k : Int) ∧ (k < n → vm = .int .i64 (mk k : Int)) ∧ va = .int .i64 (acc : Int) ∧ acc < 4294967296 ∧ Hid (Below w.heap.size w wr) ∧ Hid (Rds wr A n ((R.map strOf).map Value.string)) ∧ Hid (k < n → acc + mk k ≤ 4294967296) ∧ Hid (S = adr (mk k) acc (R.drop k))) (fun _ _ _ _ vk _ => n - (intOf vk).toNat)
    case atStart => exact ⟨0, 0, Nat.zero_le _, rfl, fun _ => rfl, rfl, by omega, HB0, HRD0, fun _ => Nat.le_refl _, HW0⟩
    case round =>
      clear HW0 HB0 HRD0 h4i
      obtain ⟨k, acc, hk, rfl, hmost, rfl, hacc0, HB, HRD, HAC, HW⟩ := hrel
      by_cases hlt : k < n
      · have hacc := HAC.out hlt
        have hk4 : k = 0 ∨ k = 1 ∨ k = 2 ∨ k = 3 := by omega
        obtain rfl := hmost hlt
        clear HAC
        rcases hk4 with rfl | rfl | rfl | rfl
        · simp only [mk] at hacc HW ⊢
          obtain ⟨p, hp⟩ : ∃ p, p = R[0]'(by rw [← HN.out]; exact hlt) := ⟨_, rfl⟩
          obtain ⟨Y, hY⟩ : ∃ Y, Y = strOf p := ⟨_, rfl⟩
          obtain ⟨g, off, rfl, hg, hcell⟩ := HRD.out.spot hrp
          have hcl := (hcell 0 (by rw [List.length_map, List.length_map, ← HN.out]; exact hlt))
          rw [List.getElem_map, List.getElem_map, ← hp, ← hY] at hcl
          try rw [Nat.add_zero] at hcl
          have HYD : Hid (Y.data.toList = p) := by show _ = _; rw [hY]; rfl
          have hys : Y.size ≤ 1073741824 := by
            rw [hY, size_strOf]
            have := HPART.out p (by rw [hp]; exact List.getElem_mem _)
            omega
          have HDR : Hid (R.drop 0 = p :: R.drop 1) := drop_at R 0 p (by rw [← HN.out]; exact hlt) hp.symm
          have ha0 : (0 : Int) ≤ (acc : Int) := by omega
          clear hp hY hcell
          cases hnp : num p with
          | none =>
            have HV := hid (numR_none p hnp)
            have HE := hid (prsV_none S (by rw [HW.out, HDR.out]; exact adr_no _ _ _ _ hnp))
            clear hnp hacc hacc0
            generalize (acc : Int) = AC at ha0 ⊢
            go_wp2_with fail
            refine (refNumber_any Y _ hys).mono ?_
            rw [HYD.out, HV.out]
            rintro e w4 ⟨rfl, hb4⟩
            have HB4 : Hid (Below w.heap.size w w4) := bel HB.out hb4
            have HRD4 := hid (HRD.out.below hb4)
            clear hb4
            go_wp2
            go_ret2
            exact ⟨by rw [HE.out]; rfl, HB4.out⟩
          | some v =>
            obtain ⟨x, hx, hx2, hxr⟩ := numR_some p v hnp
            have HV := hid hx
            have hx0 : (0 : Int) ≤ (x : Int) := by omega
            have hx1 : ¬ (x : Int) < 0 := by omega
            have hxm2 : (x : Int) ≤ 17592186044431 := by omega
            clear hx
            by_cases hq : n = 1
            · have hDE : R.drop 1 = [] := drop_end R _ (by rw [← HN.out]; exact hq)
              have hB : ¬ (0 : Int) < (n : Int) - 1 := by omega
              have HNQ := hid hq
              clear hq
              by_cases hxm : x < 4294967296
              · have hxv : x = v := by omega
                have HE := hid ((show S = adr 4294967296 acc [p] by rw [HW.out, HDR.out, hDE]).trans (adr_last 4294967296 acc p v hnp (by omega)))
                have HDE := hid hDE
                have HSUM : Hid ((acc : Int) + (x : Int) = ((acc + v : Nat) : Int)) := by show _ = _; omega
                have hxi : (x : Int) < 4294967296 := by omega
                have hai : (acc : Int) + 4294967296 ≤ 4294967296 := by omega
                have hvb : acc + v < 4294967296 := by omega
                have HVB := hid hvb
                have HWN : Hid (S = adr (mk 1) (acc + v) (R.drop 1)) := by show _ = _; rw [HDE.out]; exact HE.out
                clear hnp hxv hDE hxm hx2 hacc hacc0 hvb hxr
                generalize (x : Int) = X at hxi hx0 hx1 hxm2 HSUM HV
                generalize (acc : Int) = AC at hai ha0 HSUM ⊢
                go_wp2_with fail
                refine (refNumber_any Y _ hys).mono ?_
                rw [HYD.out, HV.out]
                rintro e w4 ⟨rfl, hb4⟩
                have HB4 : Hid (Below w.heap.size w w4) := bel HB.out hb4
                have HRD4 := hid (HRD.out.below hb4)
                clear hb4
                go_wp2
                go_roundw
                case rel => exact ⟨1, acc + v, by have := HNQ.out; omega, by go_num, fun h => absurd h (by have := HNQ.out; omega), by first | exact int_eq HSUM.out | (rw [← HSUM.out]), HVB.out, HB4, HRD4, fun h => absurd h (by have := HNQ.out; omega), HWN⟩
                case measure => (have := HNQ.out; simp [intOf]; omega)
              · have HE := hid (prsV_none S ((show S = adr 4294967296 acc [p] by rw [HW.out, HDR.out, hDE]).trans (adr_last_no 4294967296 acc p v hnp (by omega))))
                have hxi : 4294967296 ≤ (x : Int) := by omega
                clear hnp hDE hxm hx2 hacc hacc0 hxr
                generalize (x : Int) = X at hxi hx0 hx1 hxm2 HV
                generalize (acc : Int) = AC at ha0 ⊢
                go_wp2_with fail
                refine (refNumber_any Y _ hys).mono ?_
                rw [HYD.out, HV.out]
                rintro e w4 ⟨rfl, hb4⟩
                have HB4 : Hid (Below w.heap.size w w4) := bel HB.out hb4
                have HRD4 := hid (HRD.out.below hb4)
                clear hb4
                go_wp2
                go_ret2
                exact ⟨by rw [HE.out]; rfl, HB4.out⟩
            · have hB : (0 : Int) < (n : Int) - 1 := by omega
              have hlt2 : 1 < n := by omega
              obtain ⟨p2, hp2⟩ : ∃ p2, p2 = R[1]'(by rw [← HN.out]; exact hlt2) := ⟨_, rfl⟩
              have hDR2 : R.drop 1 = p2 :: R.drop 2 := drop_at R 1 p2 (by rw [← HN.out]; exact hlt2) hp2.symm
              have HLT2 := hid hlt2
              clear hp2 hq hlt2
              by_cases hxm : x ≤ 255
              · have hxv : x = v := by omega
                have HE := hid ((show S = adr 4294967296 acc (p :: p2 :: R.drop 2) by rw [HW.out, HDR.out, hDR2]).trans (adr_on 4294967296 acc p p2 (R.drop 2) v hnp (by omega)))
                have HDR2 := hid hDR2
                have HSUM : Hid ((acc : Int) + (x : Int) * 16777216 = ((acc + v * 16777216 : Nat) : Int)) := by show _ = _; omega
                have hxi : (x : Int) ≤ 255 := by omega
                have hai : (acc : Int) + 4294967296 ≤ 4294967296 := by omega
                have HVB : Hid (acc + v * 16777216 + 16777216 ≤ 4294967296) := by show _ ≤ _; omega
                have HWN : Hid (S = adr (mk 1) (acc + v * 16777216) (R.drop 1)) := by show _ = _; rw [HDR2.out]; exact HE.out
                clear hnp hxv hDR2 hxm hx2 hacc hacc0 hxr
                generalize (x : Int) = X at hxi hx0 hx1 hxm2 HSUM HV
                generalize (acc : Int) = AC at hai ha0 HSUM ⊢
                go_wp2_with fail
                refine (refNumber_any Y _ hys).mono ?_
                rw [HYD.out, HV.out]
                rintro e w4 ⟨rfl, hb4⟩
                have HB4 : Hid (Below w.heap.size w w4) := bel HB.out hb4
                have HRD4 := hid (HRD.out.below hb4)
                clear hb4
                go_wp2
                go_roundw
                case rel => exact ⟨1, acc + v * 16777216, by have := HLT2.out; omega, by go_num, fun _ => rfl, by first | exact int_eq HSUM.out | (rw [← HSUM.out]), by have := HVB.out; omega, HB4, HRD4, fun _ => HVB.out, HWN⟩
                case measure => (have := HLT2.out; simp [intOf]; omega)
              · have HE := hid (prsV_none S ((show S = adr 4294967296 acc (p :: p2 :: R.drop 2) by rw [HW.out, HDR.out, hDR2]).trans (adr_on_no 4294967296 acc p p2 (R.drop 2) v hnp (by omega))))
                have hxi2 : (255 : Int) < (x : Int) := by omega
                clear hnp hDR2 hxm hx2 hacc hacc0 hxr
                generalize (x : Int) = X at hxi2 hx0 hx1 hxm2 HV
                generalize (acc : Int) = AC at ha0 ⊢
                go_wp2_with fail
                refine (refNumber_any Y _ hys).mono ?_
                rw [HYD.out, HV.out]
                rintro e w4 ⟨rfl, hb4⟩
                have HB4 : Hid (Below w.heap.size w w4) := bel HB.out hb4
                have HRD4 := hid (HRD.out.below hb4)
                clear hb4
                go_wp2
                go_ret2
                exact ⟨by rw [HE.out]; rfl, HB4.out⟩
        · simp only [mk] at hacc HW ⊢
          obtain ⟨p, hp⟩ : ∃ p, p = R[1]'(by rw [← HN.out]; exact hlt) := ⟨_, rfl⟩
          obtain ⟨Y, hY⟩ : ∃ Y, Y = strOf p := ⟨_, rfl⟩
          obtain ⟨g, off, rfl, hg, hcell⟩ := HRD.out.spot hrp
          have hcl := (hcell 1 (by rw [List.length_map, List.length_map, ← HN.out]; exact hlt))
          rw [List.getElem_map, List.getElem_map, ← hp, ← hY] at hcl
          try rw [Nat.add_zero] at hcl
          have HYD : Hid (Y.data.toList = p) := by show _ = _; rw [hY]; rfl
          have hys : Y.size ≤ 1073741824 := by
            rw [hY, size_strOf]
            have := HPART.out p (by rw [hp]; exact List.getElem_mem _)
            omega
          have HDR : Hid (R.drop 1 = p :: R.drop 2) := drop_at R 1 p (by rw [← HN.out]; exact hlt) hp.symm
          have ha0 : (0 : Int) ≤ (acc : Int) := by omega
          clear hp hY hcell
          cases hnp : num p with
          | none =>
            have HV := hid (numR_none p hnp)
            have HE := hid (prsV_none S (by rw [HW.out, HDR.out]; exact adr_no _ _ _ _ hnp))
            clear hnp hacc hacc0
            generalize (acc : Int) = AC at ha0 ⊢
            go_wp2_with fail
            refine (refNumber_any Y _ hys).mono ?_
            rw [HYD.out, HV.out]
            rintro e w4 ⟨rfl, hb4⟩
            have HB4 : Hid (Below w.heap.size w w4) := bel HB.out hb4
            have HRD4 := hid (HRD.out.below hb4)
            clear hb4
            go_wp2
            go_ret2
            exact ⟨by rw [HE.out]; rfl, HB4.out⟩
          | some v =>
            obtain ⟨x, hx, hx2, hxr⟩ := numR_some p v hnp
            have HV := hid hx
            have hx0 : (0 : Int) ≤ (x : Int) := by omega
            have hx1 : ¬ (x : Int) < 0 := by omega
            have hxm2 : (x : Int) ≤ 17592186044431 := by omega
            clear hx
            by_cases hq : n = 2
            · have hDE : R.drop 2 = [] := drop_end R _ (by rw [← HN.out]; exact hq)
              have hB : ¬ (1 : Int) < (n : Int) - 1 := by omega
              have HNQ := hid hq
              clear hq
              by_cases hxm : x < 16777216
              · have hxv : x = v := by omega
                have HE := hid ((show S = adr 16777216 acc [p] by rw [HW.out, HDR.out, hDE]).trans (adr_last 16777216 acc p v hnp (by omega)))
                have HDE := hid hDE
                have HSUM : Hid ((acc : Int) + (x : Int) = ((acc + v : Nat) : Int)) := by show _ = _; omega
                have hxi : (x : Int) < 16777216 := by omega
                have hai : (acc : Int) + 16777216 ≤ 4294967296 := by omega
                have hvb : acc + v < 4294967296 := by omega
                have HVB := hid hvb
                have HWN : Hid (S = adr (mk 2) (acc + v) (R.drop 2)) := by show _ = _; rw [HDE.out]; exact HE.out
                clear hnp hxv hDE hxm hx2 hacc hacc0 hvb hxr
                generalize (x : Int) = X at hxi hx0 hx1 hxm2 HSUM HV
                generalize (acc : Int) = AC at hai ha0 HSUM ⊢
                go_wp2_with fail
                refine (refNumber_any Y _ hys).mono ?_
                rw [HYD.out, HV.out]
                rintro e w4 ⟨rfl, hb4⟩
                have HB4 : Hid (Below w.heap.size w w4) := bel HB.out hb4
                have HRD4 := hid (HRD.out.below hb4)
                clear hb4
                go_wp2
                go_roundw
                case rel => exact ⟨2, acc + v, by have := HNQ.out; omega, by go_num, fun h => absurd h (by have := HNQ.out; omega), by first | exact int_eq HSUM.out | (rw [← HSUM.out]), HVB.out, HB4, HRD4, fun h => absurd h (by have := HNQ.out; omega), HWN⟩
                case measure => (have := HNQ.out; simp [intOf]; omega)
              · have HE := hid (prsV_none S ((show S = adr 16777216 acc [p] by rw [HW.out, HDR.out, hDE]).trans (adr_last_no 16777216 acc p v hnp (by omega))))
                have hxi : 16777216 ≤ (x : Int) := by omega
                clear hnp hDE hxm hx2 hacc hacc0 hxr
                generalize (x : Int) = X at hxi hx0 hx1 hxm2 HV
                generalize (acc : Int) = AC at ha0 ⊢
                go_wp2_with fail
                refine (refNumber_any Y _ hys).mono ?_
                rw [HYD.out, HV.out]
                rintro e w4 ⟨rfl, hb4⟩
                have HB4 : Hid (Below w.heap.size w w4) := bel HB.out hb4
                have HRD4 := hid (HRD.out.below hb4)
                clear hb4
                go_wp2
                go_ret2
                exact ⟨by rw [HE.out]; rfl, HB4.out⟩
            · have hB : (1 : Int) < (n : Int) - 1 := by omega
              have hlt2 : 2 < n := by omega
              obtain ⟨p2, hp2⟩ : ∃ p2, p2 = R[2]'(by rw [← HN.out]; exact hlt2) := ⟨_, rfl⟩
              have hDR2 : R.drop 2 = p2 :: R.drop 3 := drop_at R 2 p2 (by rw [← HN.out]; exact hlt2) hp2.symm
              have HLT2 := hid hlt2
              clear hp2 hq hlt2
              by_cases hxm : x ≤ 255
              · have hxv : x = v := by omega
                have HE := hid ((show S = adr 16777216 acc (p :: p2 :: R.drop 3) by rw [HW.out, HDR.out, hDR2]).trans (adr_on 16777216 acc p p2 (R.drop 3) v hnp (by omega)))
                have HDR2 := hid hDR2
                have HSUM : Hid ((acc : Int) + (x : Int) * 65536 = ((acc + v * 65536 : Nat) : Int)) := by show _ = _; omega
                have hxi : (x : Int) ≤ 255 := by omega
                have hai : (acc : Int) + 16777216 ≤ 4294967296 := by omega
                have HVB : Hid (acc + v * 65536 + 65536 ≤ 4294967296) := by show _ ≤ _; omega
                have HWN : Hid (S = adr (mk 2) (acc + v * 65536) (R.drop 2)) := by show _ = _; rw [HDR2.out]; exact HE.out
                clear hnp hxv hDR2 hxm hx2 hacc hacc0 hxr
                generalize (x : Int) = X at hxi hx0 hx1 hxm2 HSUM HV
                generalize (acc : Int) = AC at hai ha0 HSUM ⊢
                go_wp2_with fail
                refine (refNumber_any Y _ hys).mono ?_
                rw [HYD.out, HV.out]
                rintro e w4 ⟨rfl, hb4⟩
                have HB4 : Hid (Below w.heap.size w w4) := bel HB.out hb4
                have HRD4 := hid (HRD.out.below hb4)
                clear hb4
                go_wp2
                go_roundw
                case rel => exact ⟨2, acc + v * 65536, by have := HLT2.out; omega, by go_num, fun _ => rfl, by first | exact int_eq HSUM.out | (rw [← HSUM.out]), by have := HVB.out; omega, HB4, HRD4, fun _ => HVB.out, HWN⟩
                case measure => (have := HLT2.out; simp [intOf]; omega)
              · have HE := hid (prsV_none S ((show S = adr 16777216 acc (p :: p2 :: R.drop 3) by rw [HW.out, HDR.out, hDR2]).trans (adr_on_no 16777216 acc p p2 (R.drop 3) v hnp (by omega))))
                have hxi2 : (255 : Int) < (x : Int) := by omega
                clear hnp hDR2 hxm hx2 hacc hacc0 hxr
                generalize (x : Int) = X at hxi2 hx0 hx1 hxm2 HV
                generalize (acc : Int) = AC at ha0 ⊢
                go_wp2_with fail
                refine (refNumber_any Y _ hys).mono ?_
                rw [HYD.out, HV.out]
                rintro e w4 ⟨rfl, hb4⟩
                have HB4 : Hid (Below w.heap.size w w4) := bel HB.out hb4
                have HRD4 := hid (HRD.out.below hb4)
                clear hb4
                go_wp2
                go_ret2
                exact ⟨by rw [HE.out]; rfl, HB4.out⟩
        · simp only [mk] at hacc HW ⊢
          obtain ⟨p, hp⟩ : ∃ p, p = R[2]'(by rw [← HN.out]; exact hlt) := ⟨_, rfl⟩
          obtain ⟨Y, hY⟩ : ∃ Y, Y = strOf p := ⟨_, rfl⟩
          obtain ⟨g, off, rfl, hg, hcell⟩ := HRD.out.spot hrp
          have hcl := (hcell 2 (by rw [List.length_map, List.length_map, ← HN.out]; exact hlt))
          rw [List.getElem_map, List.getElem_map, ← hp, ← hY] at hcl
          try rw [Nat.add_zero] at hcl
          have HYD : Hid (Y.data.toList = p) := by show _ = _; rw [hY]; rfl
          have hys : Y.size ≤ 1073741824 := by
            rw [hY, size_strOf]
            have := HPART.out p (by rw [hp]; exact List.getElem_mem _)
            omega
          have HDR : Hid (R.drop 2 = p :: R.drop 3) := drop_at R 2 p (by rw [← HN.out]; exact hlt) hp.symm
          have ha0 : (0 : Int) ≤ (acc : Int) := by omega
          clear hp hY hcell
          cases hnp : num p with
          | none =>
            have HV := hid (numR_none p hnp)
            have HE := hid (prsV_none S (by rw [HW.out, HDR.out]; exact adr_no _ _ _ _ hnp))
            clear hnp hacc hacc0
            generalize (acc : Int) = AC at ha0 ⊢
            go_wp2_with fail
            refine (refNumber_any Y _ hys).mono ?_
            rw [HYD.out, HV.out]
            rintro e w4 ⟨rfl, hb4⟩
            have HB4 : Hid (Below w.heap.size w w4) := bel HB.out hb4
            have HRD4 := hid (HRD.out.below hb4)
            clear hb4
            go_wp2
            go_ret2
            exact ⟨by rw [HE.out]; rfl, HB4.out⟩
          | some v =>
            obtain ⟨x, hx, hx2, hxr⟩ := numR_some p v hnp
            have HV := hid hx
            have hx0 : (0 : Int) ≤ (x : Int) := by omega
            have hx1 : ¬ (x : Int) < 0 := by omega
            have hxm2 : (x : Int) ≤ 17592186044431 := by omega
            clear hx
            by_cases hq : n = 3
            · have hDE : R.drop 3 = [] := drop_end R _ (by rw [← HN.out]; exact hq)
              have hB : ¬ (2 : Int) < (n : Int) - 1 := by omega
              have HNQ := hid hq
              clear hq
              by_cases hxm : x < 65536
              · have hxv : x = v := by omega
                have HE := hid ((show S = adr 65536 acc [p] by rw [HW.out, HDR.out, hDE]).trans (adr_last 65536 acc p v hnp (by omega)))
                have HDE := hid hDE
                have HSUM : Hid ((acc : Int) + (x : Int) = ((acc + v : Nat) : Int)) := by show _ = _; omega
                have hxi : (x : Int) < 65536 := by omega
                have hai : (acc : Int) + 65536 ≤ 4294967296 := by omega
                have hvb : acc + v < 4294967296 := by omega
                have HVB := hid hvb
                have HWN : Hid (S = adr (mk 3) (acc + v) (R.drop 3)) := by show _ = _; rw [HDE.out]; exact HE.out
                clear hnp hxv hDE hxm hx2 hacc hacc0 hvb hxr
                generalize (x : Int) = X at hxi hx0 hx1 hxm2 HSUM HV
                generalize (acc : Int) = AC at hai ha0 HSUM ⊢
                go_wp2_with fail
                refine (refNumber_any Y _ hys).mono ?_
                rw [HYD.out, HV.out]
                rintro e w4 ⟨rfl, hb4⟩
                have HB4 : Hid (Below w.heap.size w w4) := bel HB.out hb4
                have HRD4 := hid (HRD.out.below hb4)
                clear hb4
                go_wp2
                go_roundw
                case rel => exact ⟨3, acc + v, by have := HNQ.out; omega, by go_num, fun h => absurd h (by have := HNQ.out; omega), by first | exact int_eq HSUM.out | (rw [← HSUM.out]), HVB.out, HB4, HRD4, fun h => absurd h (by have := HNQ.out; omega), HWN⟩
                case measure => (have := HNQ.out; simp [intOf]; omega)
              · have HE := hid (prsV_none S ((show S = adr 65536 acc [p] by rw [HW.out, HDR.out, hDE]).trans (adr_last_no 65536 acc p v hnp (by omega))))
                have hxi : 65536 ≤ (x : Int) := by omega
                clear hnp hDE hxm hx2 hacc hacc0 hxr
                generalize (x : Int) = X at hxi hx0 hx1 hxm2 HV
                generalize (acc : Int) = AC at ha0 ⊢
                go_wp2_with fail
                refine (refNumber_any Y _ hys).mono ?_
                rw [HYD.out, HV.out]
                rintro e w4 ⟨rfl, hb4⟩
                have HB4 : Hid (Below w.heap.size w w4) := bel HB.out hb4
                have HRD4 := hid (HRD.out.below hb4)
                clear hb4
                go_wp2
                go_ret2
                exact ⟨by rw [HE.out]; rfl, HB4.out⟩
            · have hB : (2 : Int) < (n : Int) - 1 := by omega
              have hlt2 : 3 < n := by omega
              obtain ⟨p2, hp2⟩ : ∃ p2, p2 = R[3]'(by rw [← HN.out]; exact hlt2) := ⟨_, rfl⟩
              have hDR2 : R.drop 3 = p2 :: R.drop 4 := drop_at R 3 p2 (by rw [← HN.out]; exact hlt2) hp2.symm
              have HLT2 := hid hlt2
              clear hp2 hq hlt2
              by_cases hxm : x ≤ 255
              · have hxv : x = v := by omega
                have HE := hid ((show S = adr 65536 acc (p :: p2 :: R.drop 4) by rw [HW.out, HDR.out, hDR2]).trans (adr_on 65536 acc p p2 (R.drop 4) v hnp (by omega)))
                have HDR2 := hid hDR2
                have HSUM : Hid ((acc : Int) + (x : Int) * 256 = ((acc + v * 256 : Nat) : Int)) := by show _ = _; omega
                have hxi : (x : Int) ≤ 255 := by omega
                have hai : (acc : Int) + 65536 ≤ 4294967296 := by omega
                have HVB : Hid (acc + v * 256 + 256 ≤ 4294967296) := by show _ ≤ _; omega
                have HWN : Hid (S = adr (mk 3) (acc + v * 256) (R.drop 3)) := by show _ = _; rw [HDR2.out]; exact HE.out
                clear hnp hxv hDR2 hxm hx2 hacc hacc0 hxr
                generalize (x : Int) = X at hxi hx0 hx1 hxm2 HSUM HV
                generalize (acc : Int) = AC at hai ha0 HSUM ⊢
                go_wp2_with fail
                refine (refNumber_any Y _ hys).mono ?_
                rw [HYD.out, HV.out]
                rintro e w4 ⟨rfl, hb4⟩
                have HB4 : Hid (Below w.heap.size w w4) := bel HB.out hb4
                have HRD4 := hid (HRD.out.below hb4)
                clear hb4
                go_wp2
                go_roundw
                case rel => exact ⟨3, acc + v * 256, by have := HLT2.out; omega, by go_num, fun _ => rfl, by first | exact int_eq HSUM.out | (rw [← HSUM.out]), by have := HVB.out; omega, HB4, HRD4, fun _ => HVB.out, HWN⟩
                case measure => (have := HLT2.out; simp [intOf]; omega)
              · have HE := hid (prsV_none S ((show S = adr 65536 acc (p :: p2 :: R.drop 4) by rw [HW.out, HDR.out, hDR2]).trans (adr_on_no 65536 acc p p2 (R.drop 4) v hnp (by omega))))
                have hxi2 : (255 : Int) < (x : Int) := by omega
                clear hnp hDR2 hxm hx2 hacc hacc0 hxr
                generalize (x : Int) = X at hxi2 hx0 hx1 hxm2 HV
                generalize (acc : Int) = AC at ha0 ⊢
                go_wp2_with fail
                refine (refNumber_any Y _ hys).mono ?_
                rw [HYD.out, HV.out]
                rintro e w4 ⟨rfl, hb4⟩
                have HB4 : Hid (Below w.heap.size w w4) := bel HB.out hb4
                have HRD4 := hid (HRD.out.below hb4)
                clear hb4
                go_wp2
                go_ret2
                exact ⟨by rw [HE.out]; rfl, HB4.out⟩
        · simp only [mk] at hacc HW ⊢
          obtain ⟨p, hp⟩ : ∃ p, p = R[3]'(by rw [← HN.out]; exact hlt) := ⟨_, rfl⟩
          obtain ⟨Y, hY⟩ : ∃ Y, Y = strOf p := ⟨_, rfl⟩
          obtain ⟨g, off, rfl, hg, hcell⟩ := HRD.out.spot hrp
          have hcl := (hcell 3 (by rw [List.length_map, List.length_map, ← HN.out]; exact hlt))
          rw [List.getElem_map, List.getElem_map, ← hp, ← hY] at hcl
          try rw [Nat.add_zero] at hcl
          have HYD : Hid (Y.data.toList = p) := by show _ = _; rw [hY]; rfl
          have hys : Y.size ≤ 1073741824 := by
            rw [hY, size_strOf]
            have := HPART.out p (by rw [hp]; exact List.getElem_mem _)
            omega
          have HDR : Hid (R.drop 3 = p :: R.drop 4) := drop_at R 3 p (by rw [← HN.out]; exact hlt) hp.symm
          have ha0 : (0 : Int) ≤ (acc : Int) := by omega
          clear hp hY hcell
          cases hnp : num p with
          | none =>
            have HV := hid (numR_none p hnp)
            have HE := hid (prsV_none S (by rw [HW.out, HDR.out]; exact adr_no _ _ _ _ hnp))
            clear hnp hacc hacc0
            generalize (acc : Int) = AC at ha0 ⊢
            go_wp2_with fail
            refine (refNumber_any Y _ hys).mono ?_
            rw [HYD.out, HV.out]
            rintro e w4 ⟨rfl, hb4⟩
            have HB4 : Hid (Below w.heap.size w w4) := bel HB.out hb4
            have HRD4 := hid (HRD.out.below hb4)
            clear hb4
            go_wp2
            go_ret2
            exact ⟨by rw [HE.out]; rfl, HB4.out⟩
          | some v =>
            obtain ⟨x, hx, hx2, hxr⟩ := numR_some p v hnp
            have HV := hid hx
            have hx0 : (0 : Int) ≤ (x : Int) := by omega
            have hx1 : ¬ (x : Int) < 0 := by omega
            have hxm2 : (x : Int) ≤ 17592186044431 := by omega
            clear hx
            by_cases hq : n = 4
            · have hDE : R.drop 4 = [] := drop_end R _ (by rw [← HN.out]; exact hq)
              have hB : ¬ (3 : Int) < (n : Int) - 1 := by omega
              have HNQ := hid hq
              clear hq
              by_cases hxm : x < 256
              · have hxv : x = v := by omega
                have HE := hid ((show S = adr 256 acc [p] by rw [HW.out, HDR.out, hDE]).trans (adr_last 256 acc p v hnp (by omega)))
                have HDE := hid hDE
                have HSUM : Hid ((acc : Int) + (x : Int) = ((acc + v : Nat) : Int)) := by show _ = _; omega
                have hxi : (x : Int) < 256 := by omega
                have hai : (acc : Int) + 256 ≤ 4294967296 := by omega
                have hvb : acc + v < 4294967296 := by omega
                have HVB := hid hvb
                have HWN : Hid (S = adr (mk 4) (acc + v) (R.drop 4)) := by show _ = _; rw [HDE.out]; exact HE.out
                clear hnp hxv hDE hxm hx2 hacc hacc0 hvb hxr
                generalize (x : Int) = X at hxi hx0 hx1 hxm2 HSUM HV
                generalize (acc : Int) = AC at hai ha0 HSUM ⊢
                go_wp2_with fail
                refine (refNumber_any Y _ hys).mono ?_
                rw [HYD.out, HV.out]
                rintro e w4 ⟨rfl, hb4⟩
                have HB4 : Hid (Below w.heap.size w w4) := bel HB.out hb4
                have HRD4 := hid (HRD.out.below hb4)
                clear hb4
                go_wp2
                go_roundw
                case rel => exact ⟨4, acc + v, by have := HNQ.out; omega, by go_num, fun h => absurd h (by have := HNQ.out; omega), by first | exact int_eq HSUM.out | (rw [← HSUM.out]), HVB.out, HB4, HRD4, fun h => absurd h (by have := HNQ.out; omega), HWN⟩
                case measure => (have := HNQ.out; simp [intOf]; omega)
              · have HE := hid (prsV_none S ((show S = adr 256 acc [p] by rw [HW.out, HDR.out, hDE]).trans (adr_last_no 256 acc p v hnp (by omega))))
                have hxi : 256 ≤ (x : Int) := by omega
                clear hnp hDE hxm hx2 hacc hacc0 hxr
                generalize (x : Int) = X at hxi hx0 hx1 hxm2 HV
                generalize (acc : Int) = AC at ha0 ⊢
                go_wp2_with fail
                refine (refNumber_any Y _ hys).mono ?_
                rw [HYD.out, HV.out]
                rintro e w4 ⟨rfl, hb4⟩
                have HB4 : Hid (Below w.heap.size w w4) := bel HB.out hb4
                have HRD4 := hid (HRD.out.below hb4)
                clear hb4
                go_wp2
                go_ret2
                exact ⟨by rw [HE.out]; rfl, HB4.out⟩
            · exact absurd hlt (by omega)
      · obtain rfl : k = n := by omega
        have HE := hid (prsV_some S acc (by rw [HW.out, drop_end R k HN.out.symm]; rfl))
        have ha0 : (0 : Int) ≤ (acc : Int) := by omega
        have hai : (acc : Int) < 4294967296 := by omega
        clear hacc0 hmost
        generalize (acc : Int) = AC at ha0 hai HE ⊢
        go_wp2
        go_ret2
        exact ⟨by rw [HE.out]; rfl, HB.out⟩
  · have h4i : (4 : Int) < (n : Int) := by omega
    have HE := hid (prsV_none S (by rw [HS2.out, if_neg (by rw [← HN.out]; exact h4)]))
    go_wp2
    go_ret2
    exact ⟨by rw [HE.out]; rfl, HB0.out⟩
end Go.Proofs.YtnmkkejodkjjiaaDoor.QudF
