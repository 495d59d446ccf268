/- IPv4 addresses: Parse. -/
import Derived.Test.YtnmkkejodkjjiaaDoorQudD
namespace Go.Proofs.YtnmkkejodkjjiaaDoor.QudE
open Go.RowKit Go.Proofs.YtnmkkejodkjjiaaDoor.Base Go.Proofs.YtnmkkejodkjjiaaDoor.Base2 Go.Proofs.YtnmkkejodkjjiaaDoor.UtfA Go.Proofs.YtnmkkejodkjjiaaDoor.QudP Go.Proofs.YtnmkkejodkjjiaaDoor.QudA Go.Proofs.YtnmkkejodkjjiaaDoor.QudB Go.Proofs.YtnmkkejodkjjiaaDoor.QudC Go.Proofs.YtnmkkejodkjjiaaDoor.QudD

def PrsV (o : Option Nat) : Value := match o with
  | some v => .tuple #[.int .u32 v, .bool true]
  | none => .tuple #[.int .u32 0, .bool false]
theorem prsV_none (o : Option Nat) (h : o = none) : PrsV o = .tuple #[.int .u32 0, .bool false] := by rw [h]; rfl
theorem prsV_some (o : Option Nat) (v : Nat) (h : o = some v) : PrsV o = .tuple #[.int .u32 v, .bool true] := by rw [h]; rfl
theorem drop_at {α : Type} (R : List α) (k : Nat) (p : α) (hk : k < R.length) (h : R[k] = p) : R.drop k = p :: R.drop (k + 1) := by rw [← h]; exact List.drop_eq_getElem_cons hk
theorem adr_no (most acc : Nat) (p : List UInt8) (r : List (List UInt8)) (h : num p = none) : adr most acc (p :: r) = none := by
  cases r <;> (unfold adr; rw [h])
theorem adr_last (most acc : Nat) (p : List UInt8) (v : Nat) (h : num p = some v) (hv : v < most) : adr most acc [p] = some (acc + v) := by unfold adr; rw [h]; simp only; rw [if_pos hv]
theorem adr_last_no (most acc : Nat) (p : List UInt8) (v : Nat) (h : num p = some v) (hv : ¬ v < most) : adr most acc [p] = none := by unfold adr; rw [h]; simp only; rw [if_neg hv]
theorem adr_on (most acc : Nat) (p q : List UInt8) (r : List (List UInt8)) (v : Nat) (h : num p = some v) (hv : v ≤ 255) : adr most acc (p :: q :: r) = adr (most / 256) (acc + v * (most / 256)) (q :: r) := by
  conv => lhs; unfold adr
  rw [h]; simp only; rw [if_pos hv]
theorem adr_on_no (most acc : Nat) (p q : List UInt8) (r : List (List UInt8)) (v : Nat) (h : num p = some v) (hv : ¬ v ≤ 255) : adr most acc (p :: q :: r) = none := by unfold adr; rw [h]; simp only; rw [if_neg hv]
theorem drop_end {α : Type} (R : List α) (k : Nat) (h : R.length = k) : R.drop k = [] := by subst h; exact List.drop_length
def mk : Nat → Nat
  | 0 => 4294967296
  | 1 => 16777216
  | 2 => 65536
  | 3 => 256
  | _ => 1
theorem sat_lt (v m : Nat) (hm : m ≤ 4294967296) : v < m ↔ sat v < m := by unfold sat; omega
theorem sat_id (v : Nat) (h : sat v < 4294967296) : sat v = v := by unfold sat at h ⊢; omega
set_option maxRecDepth 100000 in
set_option maxHeartbeats 4000000 in
theorem parse_any (s : ByteArray) (w : World) (hs : s.size ≤ 900000) (hM : Max w) : Calls Tryd.prog 54 #[.string s] w fun e w' => e = .returned (PrsV (prs s.data.toList)) ∧ Below w.heap.size w w' := by
  have hsl : s.data.toList.length = s.size := Array.length_toList
  obtain ⟨S, hS⟩ : ∃ S, S = prs s.data.toList := ⟨_, rfl⟩
  obtain ⟨R, hR⟩ : ∃ R, R = splt (unp s.data.toList) := ⟨_, rfl⟩
  have hS2 : S = if R.length ≤ 4 then adr 4294967296 0 R else none := by rw [hS, hR]; rfl
  obtain ⟨U, hU⟩ : ∃ U, U = strOf (unp s.data.toList) := ⟨_, rfl⟩
  have hUd : U.data.toList = unp s.data.toList := by rw [hU]; rfl
  have hul : (unp s.data.toList).length ≤ s.size := by rw [← hsl]; exact unp_len _
  have hus : U.size ≤ 900000 := by rw [hU, size_strOf]; omega
  have hrp : 0 < R.length := by rw [hR]; exact List.length_pos_iff.2 (splt_ne _)
  have hrl : R.length ≤ 900001 := by have := length_splt (unp s.data.toList); rw [hR]; omega
  have HPART : Hid (∀ p ∈ R, p.length ≤ 900000) := by
    intro p hp
    rw [hR] at hp
    have := splt_part _ p hp
    omega
  have hUR : splt U.data.toList = R := by rw [hUd, hR]
  have HUR := hid hUR
  have HU := hid hU
  have HMX := hid hM
  have HS2 := hid hS2
  rw [← hS]
  clear hS hS2 hR hU hUd hul hUR hM hsl
  go_enter Tryd.func54, Tryd.ntmps54
  go_wp2_with fail
  refine (unpoint_any s _ (by omega)).mono ?_
  rintro e w2 ⟨rfl, hw2⟩
  subst hw2
  rw [← HU.out]
  go_wp2_with fail
  refine (split_any U _ (by omega) HMX.out).mono ?_
  rw [HUR.out]
  rintro e w3 ⟨A, n, c, rfl, hn, hnc, hcm, hrd, hb⟩
  rw [← hn] at hrp hrl
  obtain ⟨g, off, rfl, hg, hcell⟩ := hrd.spot hrp
  have HCELL := hid hcell
  have HB := hid hb
  have HN := hid hn
  unfold maxLen at hcm
  clear hn hrd hcell hb
  by_cases h4 : n ≤ 4
  · have h4i : ¬ (3 : Int) < (n : Int) - 1 := by omega
    have HW0 : Hid (S = adr 4294967296 0 (R.drop 0)) := by show _ = _; rw [HS2.out, if_pos (by rw [← HN.out]; exact h4), List.drop_zero]
    go_wp2
    obtain ⟨q, hq⟩ : ∃ q : Int, q = (n : Int) - 1 := ⟨_, rfl⟩
    rw [← hq]
    have HQ := hid hq
    clear hq h4i
    generalize decide ((3 : Int) < q) = dd
    go_loopw [6, 7, 8, 9, 10, 21] (fun va _ _ _ _ vk wr => ∃ (k acc : Nat), k ≤ n ∧ vk = .int .i64 (k : Int) ∧ wr = w3 ∧ va = .int .u64 (acc : Int) ∧ acc < 4294967296 ∧ Hid (k < n → acc + mk k ≤ 4294967296) ∧ Hid (S = adr (mk k) acc (R.drop k))) (fun _ _ _ _ _ vk _ => n - (intOf vk).toNat)
    case atStart => exact ⟨0, 0, Nat.zero_le _, rfl, rfl, rfl, by omega, fun _ => Nat.le_refl _, HW0⟩
    case round =>
      clear HW0
      obtain ⟨k, acc, hk, rfl, rfl, rfl, hacc0, HAC, HW⟩ := hrel
      by_cases hlt : k < n
      · have hacc := HAC.out hlt
        have hk4 : k = 0 ∨ k = 1 ∨ k = 2 ∨ k = 3 := by omega
        clear HAC
        rcases hk4 with rfl | rfl | rfl | rfl
        · simp only [mk] at hacc HW
          obtain ⟨p, hp⟩ : ∃ p, p = R[0]'(by rw [← HN.out]; exact hlt) := ⟨_, rfl⟩
          obtain ⟨Y, hY⟩ : ∃ Y, Y = strOf p := ⟨_, rfl⟩
          have hcl := (HCELL.out 0 (by rw [List.length_map, List.length_map, ← HN.out]; exact hlt))
          rw [List.getElem_map, List.getElem_map, ← hp, ← hY] at hcl
          try rw [Nat.add_zero] at hcl
          have HYD : Hid (Y.data.toList = p) := by show _ = _; rw [hY]; rfl
          have hys : Y.size ≤ 1073741824 := by
            rw [hY, size_strOf]
            have := HPART.out p (by rw [hp]; exact List.getElem_mem _)
            omega
          have HDR : Hid (R.drop 0 = p :: R.drop 1) := drop_at R 0 p (by rw [← HN.out]; exact hlt) hp.symm
          clear hp hY
          cases hnp : num p with
          | none =>
            have HV := hid (numC_none p hnp)
            have HE := hid (prsV_none S (by rw [HW.out, HDR.out]; exact adr_no _ _ _ _ hnp))
            clear hnp
            go_wp2_with fail
            refine (number_any Y _ hys).mono ?_
            rw [HYD.out, HV.out]
            rintro e w4 ⟨rfl, hw4⟩
            subst hw4
            go_wp2
            go_ret2
            exact ⟨by rw [HE.out]; rfl, HB.out⟩
          | some v =>
            have HV := hid (numC_some p v hnp)
            obtain ⟨x, hx⟩ : ∃ x, x = sat v := ⟨_, rfl⟩
            have hx2 : x ≤ 4294967296 := by rw [hx]; unfold sat; omega
            rw [← hx] at HV
            by_cases hq : n = 1
            · have hDE : R.drop 1 = [] := drop_end R _ (by rw [← HN.out]; exact hq)
              have hA : ((0 : Int) == q) = true := by have := HQ.out; simp; omega
              have hB : ¬ (0 : Int) < q := by have := HQ.out; omega
              have hC : 4 - q = 4 := by have := HQ.out; omega
              have HNQ := hid hq
              clear hq
              by_cases hxm : x < 4294967296
              · have hxv : x = v := by rw [hx]; exact sat_id v (by rw [← hx]; omega)
                have HE := hid ((show S = adr 4294967296 acc [p] by rw [HW.out, HDR.out, hDE]).trans (adr_last 4294967296 acc p v hnp ((sat_lt v 4294967296 (by omega)).2 (by rw [← hx]; exact hxm))))
                have HXV := hid hxv
                have HDE := hid hDE
                clear hnp hx hxv hDE
                have HSUM : Hid ((acc : Int) + (x : Int) = ((acc + v : Nat) : Int)) := by show _ = _; rw [HXV.out]; omega
                have hxi : (x : Int) < 4294967296 := by omega
                have hx0 : (0 : Int) ≤ (x : Int) := by omega
                have hai : (acc : Int) + 4294967296 ≤ 4294967296 := by omega
                have ha0 : (0 : Int) ≤ (acc : Int) := by omega
                have hvb : acc + v < 4294967296 := by have := HXV.out; omega
                have HVB := hid hvb
                clear hxm hx2 hacc hvb
                have HWN : Hid (S = adr (mk 1) (acc + v) (R.drop 1)) := by show _ = _; rw [HDE.out]; exact HE.out
                generalize (x : Int) = X at hxi hx0 HSUM HV
                generalize (acc : Int) = AC at hai ha0 HSUM ⊢
                go_wp2_with fail
                refine (number_any Y _ hys).mono ?_
                rw [HYD.out, HV.out]
                rintro e w4 ⟨rfl, hw4⟩
                subst hw4
                go_wp2
                go_roundw
                case rel => exact ⟨1, acc + v, by have := HNQ.out; omega, by go_num, by first | rfl | trivial, by first | exact int_eq HSUM.out | (rw [← HSUM.out]), HVB.out, fun h => absurd h (by have := HNQ.out; omega), HWN⟩
                case measure => (have := HNQ.out; simp [intOf]; omega)
              · have HE := hid (prsV_none S ((show S = adr 4294967296 acc [p] by rw [HW.out, HDR.out, hDE]).trans (adr_last_no 4294967296 acc p v hnp (fun h => hxm (by rw [hx]; exact (sat_lt v 4294967296 (by omega)).1 h)))))
                have hxi : ¬ (x : Int) < 4294967296 := by omega
                have hx0 : (0 : Int) ≤ (x : Int) := by omega
                have hx2i : (x : Int) ≤ 4294967296 := by omega
                clear hnp hx hDE hxm hx2
                generalize (x : Int) = X at hxi hx0 hx2i HV
                generalize (acc : Int) = AC
                go_wp2_with fail
                refine (number_any Y _ hys).mono ?_
                rw [HYD.out, HV.out]
                rintro e w4 ⟨rfl, hw4⟩
                subst hw4
                go_wp2
                go_ret2
                exact ⟨by rw [HE.out]; rfl, HB.out⟩
            · have hA : ((0 : Int) == q) = false := by have := HQ.out; simp; omega
              have hB : (0 : Int) < q := by have := HQ.out; omega
              have hlt2 : 1 < n := by omega
              obtain ⟨p2, hp2⟩ : ∃ p2, p2 = R[1]'(by rw [← HN.out]; exact hlt2) := ⟨_, rfl⟩
              have hDR2 : R.drop 1 = p2 :: R.drop 2 := drop_at R 1 p2 (by rw [← HN.out]; exact hlt2) hp2.symm
              have HLT2 := hid hlt2
              clear hp2 hq hlt2
              by_cases hxm : x ≤ 255
              · have hxv : x = v := by rw [hx]; exact sat_id v (by rw [← hx]; omega)
                have HE := hid ((show S = adr 4294967296 acc (p :: p2 :: R.drop 2) by rw [HW.out, HDR.out, hDR2]).trans (adr_on 4294967296 acc p p2 (R.drop 2) v hnp (by omega)))
                have HDR2 := hid hDR2
                have HXV := hid hxv
                clear hnp hx hxv hDR2
                have HSUM : Hid ((acc : Int) + (x : Int) * 16777216 = ((acc + v * 16777216 : Nat) : Int)) := by show _ = _; rw [HXV.out]; omega
                have hxi : (x : Int) ≤ 255 := by omega
                have hx0 : (0 : Int) ≤ (x : Int) := by omega
                have hai : (acc : Int) + 4294967296 ≤ 4294967296 := by omega
                have ha0 : (0 : Int) ≤ (acc : Int) := by omega
                have HVB : Hid (acc + v * 16777216 + 16777216 ≤ 4294967296) := by have := HXV.out; show _ ≤ _; omega
                have HWN : Hid (S = adr (mk 1) (acc + v * 16777216) (R.drop 1)) := by show _ = _; rw [HDR2.out]; exact HE.out
                clear hxm hx2 hacc
                generalize (x : Int) = X at hxi hx0 HSUM HV
                generalize (acc : Int) = AC at hai ha0 HSUM ⊢
                go_wp2_with fail
                refine (number_any Y _ hys).mono ?_
                rw [HYD.out, HV.out]
                rintro e w4 ⟨rfl, hw4⟩
                subst hw4
                go_wp2
                go_roundw
                case rel => exact ⟨1, acc + v * 16777216, by have := HLT2.out; omega, by go_num, by first | rfl | trivial, by first | exact int_eq HSUM.out | (rw [← HSUM.out]), by have := HVB.out; omega, fun _ => HVB.out, HWN⟩
                case measure => (have := HLT2.out; simp [intOf]; omega)
              · have HE := hid (prsV_none S ((show S = adr 4294967296 acc (p :: p2 :: R.drop 2) by rw [HW.out, HDR.out, hDR2]).trans (adr_on_no 4294967296 acc p p2 (R.drop 2) v hnp (fun h => hxm (by rw [hx]; unfold sat; omega)))))
                have hxi : ¬ (x : Int) ≤ 255 := by omega
                have hxi2 : (255 : Int) < (x : Int) := by omega
                have hx2i : (x : Int) ≤ 4294967296 := by omega
                clear hnp hx hDR2 hxm hx2
                generalize (x : Int) = X at hxi hxi2 hx2i HV
                generalize (acc : Int) = AC
                go_wp2_with fail
                refine (number_any Y _ hys).mono ?_
                rw [HYD.out, HV.out]
                rintro e w4 ⟨rfl, hw4⟩
                subst hw4
                go_wp2
                go_ret2
                exact ⟨by rw [HE.out]; rfl, HB.out⟩
        · simp only [mk] at hacc HW
          obtain ⟨p, hp⟩ : ∃ p, p = R[1]'(by rw [← HN.out]; exact hlt) := ⟨_, rfl⟩
          obtain ⟨Y, hY⟩ : ∃ Y, Y = strOf p := ⟨_, rfl⟩
          have hcl := (HCELL.out 1 (by rw [List.length_map, List.length_map, ← HN.out]; exact hlt))
          rw [List.getElem_map, List.getElem_map, ← hp, ← hY] at hcl
          try rw [Nat.add_zero] at hcl
          have HYD : Hid (Y.data.toList = p) := by show _ = _; rw [hY]; rfl
          have hys : Y.size ≤ 1073741824 := by
            rw [hY, size_strOf]
            have := HPART.out p (by rw [hp]; exact List.getElem_mem _)
            omega
          have HDR : Hid (R.drop 1 = p :: R.drop 2) := drop_at R 1 p (by rw [← HN.out]; exact hlt) hp.symm
          clear hp hY
          cases hnp : num p with
          | none =>
            have HV := hid (numC_none p hnp)
            have HE := hid (prsV_none S (by rw [HW.out, HDR.out]; exact adr_no _ _ _ _ hnp))
            clear hnp
            go_wp2_with fail
            refine (number_any Y _ hys).mono ?_
            rw [HYD.out, HV.out]
            rintro e w4 ⟨rfl, hw4⟩
            subst hw4
            go_wp2
            go_ret2
            exact ⟨by rw [HE.out]; rfl, HB.out⟩
          | some v =>
            have HV := hid (numC_some p v hnp)
            obtain ⟨x, hx⟩ : ∃ x, x = sat v := ⟨_, rfl⟩
            have hx2 : x ≤ 4294967296 := by rw [hx]; unfold sat; omega
            rw [← hx] at HV
            by_cases hq : n = 2
            · have hDE : R.drop 2 = [] := drop_end R _ (by rw [← HN.out]; exact hq)
              have hA : ((1 : Int) == q) = true := by have := HQ.out; simp; omega
              have hB : ¬ (1 : Int) < q := by have := HQ.out; omega
              have hC : 4 - q = 3 := by have := HQ.out; omega
              have HNQ := hid hq
              clear hq
              by_cases hxm : x < 16777216
              · have hxv : x = v := by rw [hx]; exact sat_id v (by rw [← hx]; omega)
                have HE := hid ((show S = adr 16777216 acc [p] by rw [HW.out, HDR.out, hDE]).trans (adr_last 16777216 acc p v hnp ((sat_lt v 16777216 (by omega)).2 (by rw [← hx]; exact hxm))))
                have HXV := hid hxv
                have HDE := hid hDE
                clear hnp hx hxv hDE
                have HSUM : Hid ((acc : Int) + (x : Int) = ((acc + v : Nat) : Int)) := by show _ = _; rw [HXV.out]; omega
                have hxi : (x : Int) < 16777216 := by omega
                have hx0 : (0 : Int) ≤ (x : Int) := by omega
                have hai : (acc : Int) + 16777216 ≤ 4294967296 := by omega
                have ha0 : (0 : Int) ≤ (acc : Int) := by omega
                have hvb : acc + v < 4294967296 := by have := HXV.out; omega
                have HVB := hid hvb
                clear hxm hx2 hacc hvb
                have HWN : Hid (S = adr (mk 2) (acc + v) (R.drop 2)) := by show _ = _; rw [HDE.out]; exact HE.out
                generalize (x : Int) = X at hxi hx0 HSUM HV
                generalize (acc : Int) = AC at hai ha0 HSUM ⊢
                go_wp2_with fail
                refine (number_any Y _ hys).mono ?_
                rw [HYD.out, HV.out]
                rintro e w4 ⟨rfl, hw4⟩
                subst hw4
                go_wp2
                go_roundw
                case rel => exact ⟨2, acc + v, by have := HNQ.out; omega, by go_num, by first | rfl | trivial, by first | exact int_eq HSUM.out | (rw [← HSUM.out]), HVB.out, fun h => absurd h (by have := HNQ.out; omega), HWN⟩
                case measure => (have := HNQ.out; simp [intOf]; omega)
              · have HE := hid (prsV_none S ((show S = adr 16777216 acc [p] by rw [HW.out, HDR.out, hDE]).trans (adr_last_no 16777216 acc p v hnp (fun h => hxm (by rw [hx]; exact (sat_lt v 16777216 (by omega)).1 h)))))
                have hxi : ¬ (x : Int) < 16777216 := by omega
                have hx0 : (0 : Int) ≤ (x : Int) := by omega
                have hx2i : (x : Int) ≤ 4294967296 := by omega
                clear hnp hx hDE hxm hx2
                generalize (x : Int) = X at hxi hx0 hx2i HV
                generalize (acc : Int) = AC
                go_wp2_with fail
                refine (number_any Y _ hys).mono ?_
                rw [HYD.out, HV.out]
                rintro e w4 ⟨rfl, hw4⟩
                subst hw4
                go_wp2
                go_ret2
                exact ⟨by rw [HE.out]; rfl, HB.out⟩
            · have hA : ((1 : Int) == q) = false := by have := HQ.out; simp; omega
              have hB : (1 : Int) < q := by have := HQ.out; omega
              have hlt2 : 2 < n := by omega
              obtain ⟨p2, hp2⟩ : ∃ p2, p2 = R[2]'(by rw [← HN.out]; exact hlt2) := ⟨_, rfl⟩
              have hDR2 : R.drop 2 = p2 :: R.drop 3 := drop_at R 2 p2 (by rw [← HN.out]; exact hlt2) hp2.symm
              have HLT2 := hid hlt2
              clear hp2 hq hlt2
              by_cases hxm : x ≤ 255
              · have hxv : x = v := by rw [hx]; exact sat_id v (by rw [← hx]; omega)
                have HE := hid ((show S = adr 16777216 acc (p :: p2 :: R.drop 3) by rw [HW.out, HDR.out, hDR2]).trans (adr_on 16777216 acc p p2 (R.drop 3) v hnp (by omega)))
                have HDR2 := hid hDR2
                have HXV := hid hxv
                clear hnp hx hxv hDR2
                have HSUM : Hid ((acc : Int) + (x : Int) * 65536 = ((acc + v * 65536 : Nat) : Int)) := by show _ = _; rw [HXV.out]; omega
                have hxi : (x : Int) ≤ 255 := by omega
                have hx0 : (0 : Int) ≤ (x : Int) := by omega
                have hai : (acc : Int) + 16777216 ≤ 4294967296 := by omega
                have ha0 : (0 : Int) ≤ (acc : Int) := by omega
                have HVB : Hid (acc + v * 65536 + 65536 ≤ 4294967296) := by have := HXV.out; show _ ≤ _; omega
                have HWN : Hid (S = adr (mk 2) (acc + v * 65536) (R.drop 2)) := by show _ = _; rw [HDR2.out]; exact HE.out
                clear hxm hx2 hacc
                generalize (x : Int) = X at hxi hx0 HSUM HV
                generalize (acc : Int) = AC at hai ha0 HSUM ⊢
                go_wp2_with fail
                refine (number_any Y _ hys).mono ?_
                rw [HYD.out, HV.out]
                rintro e w4 ⟨rfl, hw4⟩
                subst hw4
                go_wp2
                go_roundw
                case rel => exact ⟨2, acc + v * 65536, by have := HLT2.out; omega, by go_num, by first | rfl | trivial, by first | exact int_eq HSUM.out | (rw [← HSUM.out]), by have := HVB.out; omega, fun _ => HVB.out, HWN⟩
                case measure => (have := HLT2.out; simp [intOf]; omega)
              · have HE := hid (prsV_none S ((show S = adr 16777216 acc (p :: p2 :: R.drop 3) by rw [HW.out, HDR.out, hDR2]).trans (adr_on_no 16777216 acc p p2 (R.drop 3) v hnp (fun h => hxm (by rw [hx]; unfold sat; omega)))))
                have hxi : ¬ (x : Int) ≤ 255 := by omega
                have hxi2 : (255 : Int) < (x : Int) := by omega
                have hx2i : (x : Int) ≤ 4294967296 := by omega
                clear hnp hx hDR2 hxm hx2
                generalize (x : Int) = X at hxi hxi2 hx2i HV
                generalize (acc : Int) = AC
                go_wp2_with fail
                refine (number_any Y _ hys).mono ?_
                rw [HYD.out, HV.out]
                rintro e w4 ⟨rfl, hw4⟩
                subst hw4
                go_wp2
                go_ret2
                exact ⟨by rw [HE.out]; rfl, HB.out⟩
        · simp only [mk] at hacc HW
          obtain ⟨p, hp⟩ : ∃ p, p = R[2]'(by rw [← HN.out]; exact hlt) := ⟨_, rfl⟩
          obtain ⟨Y, hY⟩ : ∃ Y, Y = strOf p := ⟨_, rfl⟩
          have hcl := (HCELL.out 2 (by rw [List.length_map, List.length_map, ← HN.out]; exact hlt))
          rw [List.getElem_map, List.getElem_map, ← hp, ← hY] at hcl
          try rw [Nat.add_zero] at hcl
          have HYD : Hid (Y.data.toList = p) := by show _ = _; rw [hY]; rfl
          have hys : Y.size ≤ 1073741824 := by
            rw [hY, size_strOf]
            have := HPART.out p (by rw [hp]; exact List.getElem_mem _)
            omega
          have HDR : Hid (R.drop 2 = p :: R.drop 3) := drop_at R 2 p (by rw [← HN.out]; exact hlt) hp.symm
          clear hp hY
          cases hnp : num p with
          | none =>
            have HV := hid (numC_none p hnp)
            have HE := hid (prsV_none S (by rw [HW.out, HDR.out]; exact adr_no _ _ _ _ hnp))
            clear hnp
            go_wp2_with fail
            refine (number_any Y _ hys).mono ?_
            rw [HYD.out, HV.out]
            rintro e w4 ⟨rfl, hw4⟩
            subst hw4
            go_wp2
            go_ret2
            exact ⟨by rw [HE.out]; rfl, HB.out⟩
          | some v =>
            have HV := hid (numC_some p v hnp)
            obtain ⟨x, hx⟩ : ∃ x, x = sat v := ⟨_, rfl⟩
            have hx2 : x ≤ 4294967296 := by rw [hx]; unfold sat; omega
            rw [← hx] at HV
            by_cases hq : n = 3
            · have hDE : R.drop 3 = [] := drop_end R _ (by rw [← HN.out]; exact hq)
              have hA : ((2 : Int) == q) = true := by have := HQ.out; simp; omega
              have hB : ¬ (2 : Int) < q := by have := HQ.out; omega
              have hC : 4 - q = 2 := by have := HQ.out; omega
              have HNQ := hid hq
              clear hq
              by_cases hxm : x < 65536
              · have hxv : x = v := by rw [hx]; exact sat_id v (by rw [← hx]; omega)
                have HE := hid ((show S = adr 65536 acc [p] by rw [HW.out, HDR.out, hDE]).trans (adr_last 65536 acc p v hnp ((sat_lt v 65536 (by omega)).2 (by rw [← hx]; exact hxm))))
                have HXV := hid hxv
                have HDE := hid hDE
                clear hnp hx hxv hDE
                have HSUM : Hid ((acc : Int) + (x : Int) = ((acc + v : Nat) : Int)) := by show _ = _; rw [HXV.out]; omega
                have hxi : (x : Int) < 65536 := by omega
                have hx0 : (0 : Int) ≤ (x : Int) := by omega
                have hai : (acc : Int) + 65536 ≤ 4294967296 := by omega
                have ha0 : (0 : Int) ≤ (acc : Int) := by omega
                have hvb : acc + v < 4294967296 := by have := HXV.out; omega
                have HVB := hid hvb
                clear hxm hx2 hacc hvb
                have HWN : Hid (S = adr (mk 3) (acc + v) (R.drop 3)) := by show _ = _; rw [HDE.out]; exact HE.out
                generalize (x : Int) = X at hxi hx0 HSUM HV
                generalize (acc : Int) = AC at hai ha0 HSUM ⊢
                go_wp2_with fail
                refine (number_any Y _ hys).mono ?_
                rw [HYD.out, HV.out]
                rintro e w4 ⟨rfl, hw4⟩
                subst hw4
                go_wp2
                go_roundw
                case rel => exact ⟨3, acc + v, by have := HNQ.out; omega, by go_num, by first | rfl | trivial, by first | exact int_eq HSUM.out | (rw [← HSUM.out]), HVB.out, fun h => absurd h (by have := HNQ.out; omega), HWN⟩
                case measure => (have := HNQ.out; simp [intOf]; omega)
              · have HE := hid (prsV_none S ((show S = adr 65536 acc [p] by rw [HW.out, HDR.out, hDE]).trans (adr_last_no 65536 acc p v hnp (fun h => hxm (by rw [hx]; exact (sat_lt v 65536 (by omega)).1 h)))))
                have hxi : ¬ (x : Int) < 65536 := by omega
                have hx0 : (0 : Int) ≤ (x : Int) := by omega
                have hx2i : (x : Int) ≤ 4294967296 := by omega
                clear hnp hx hDE hxm hx2
                generalize (x : Int) = X at hxi hx0 hx2i HV
                generalize (acc : Int) = AC
                go_wp2_with fail
                refine (number_any Y _ hys).mono ?_
                rw [HYD.out, HV.out]
                rintro e w4 ⟨rfl, hw4⟩
                subst hw4
                go_wp2
                go_ret2
                exact ⟨by rw [HE.out]; rfl, HB.out⟩
            · have hA : ((2 : Int) == q) = false := by have := HQ.out; simp; omega
              have hB : (2 : Int) < q := by have := HQ.out; omega
              have hlt2 : 3 < n := by omega
              obtain ⟨p2, hp2⟩ : ∃ p2, p2 = R[3]'(by rw [← HN.out]; exact hlt2) := ⟨_, rfl⟩
              have hDR2 : R.drop 3 = p2 :: R.drop 4 := drop_at R 3 p2 (by rw [← HN.out]; exact hlt2) hp2.symm
              have HLT2 := hid hlt2
              clear hp2 hq hlt2
              by_cases hxm : x ≤ 255
              · have hxv : x = v := by rw [hx]; exact sat_id v (by rw [← hx]; omega)
                have HE := hid ((show S = adr 65536 acc (p :: p2 :: R.drop 4) by rw [HW.out, HDR.out, hDR2]).trans (adr_on 65536 acc p p2 (R.drop 4) v hnp (by omega)))
                have HDR2 := hid hDR2
                have HXV := hid hxv
                clear hnp hx hxv hDR2
                have HSUM : Hid ((acc : Int) + (x : Int) * 256 = ((acc + v * 256 : Nat) : Int)) := by show _ = _; rw [HXV.out]; omega
                have hxi : (x : Int) ≤ 255 := by omega
                have hx0 : (0 : Int) ≤ (x : Int) := by omega
                have hai : (acc : Int) + 65536 ≤ 4294967296 := by omega
                have ha0 : (0 : Int) ≤ (acc : Int) := by omega
                have HVB : Hid (acc + v * 256 + 256 ≤ 4294967296) := by have := HXV.out; show _ ≤ _; omega
                have HWN : Hid (S = adr (mk 3) (acc + v * 256) (R.drop 3)) := by show _ = _; rw [HDR2.out]; exact HE.out
                clear hxm hx2 hacc
                generalize (x : Int) = X at hxi hx0 HSUM HV
                generalize (acc : Int) = AC at hai ha0 HSUM ⊢
                go_wp2_with fail
                refine (number_any Y _ hys).mono ?_
                rw [HYD.out, HV.out]
                rintro e w4 ⟨rfl, hw4⟩
                subst hw4
                go_wp2
                go_roundw
                case rel => exact ⟨3, acc + v * 256, by have := HLT2.out; omega, by go_num, by first | rfl | trivial, by first | exact int_eq HSUM.out | (rw [← HSUM.out]), by have := HVB.out; omega, fun _ => HVB.out, HWN⟩
                case measure => (have := HLT2.out; simp [intOf]; omega)
              · have HE := hid (prsV_none S ((show S = adr 65536 acc (p :: p2 :: R.drop 4) by rw [HW.out, HDR.out, hDR2]).trans (adr_on_no 65536 acc p p2 (R.drop 4) v hnp (fun h => hxm (by rw [hx]; unfold sat; omega)))))
                have hxi : ¬ (x : Int) ≤ 255 := by omega
                have hxi2 : (255 : Int) < (x : Int) := by omega
                have hx2i : (x : Int) ≤ 4294967296 := by omega
                clear hnp hx hDR2 hxm hx2
                generalize (x : Int) = X at hxi hxi2 hx2i HV
                generalize (acc : Int) = AC
                go_wp2_with fail
                refine (number_any Y _ hys).mono ?_
                rw [HYD.out, HV.out]
                rintro e w4 ⟨rfl, hw4⟩
                subst hw4
                go_wp2
                go_ret2
                exact ⟨by rw [HE.out]; rfl, HB.out⟩
        · simp only [mk] at hacc HW
          obtain ⟨p, hp⟩ : ∃ p, p = R[3]'(by rw [← HN.out]; exact hlt) := ⟨_, rfl⟩
          obtain ⟨Y, hY⟩ : ∃ Y, Y = strOf p := ⟨_, rfl⟩
          have hcl := (HCELL.out 3 (by rw [List.length_map, List.length_map, ← HN.out]; exact hlt))
          rw [List.getElem_map, List.getElem_map, ← hp, ← hY] at hcl
          try rw [Nat.add_zero] at hcl
          have HYD : Hid (Y.data.toList = p) := by show _ = _; rw [hY]; rfl
          have hys : Y.size ≤ 1073741824 := by
            rw [hY, size_strOf]
            have := HPART.out p (by rw [hp]; exact List.getElem_mem _)
            omega
          have HDR : Hid (R.drop 3 = p :: R.drop 4) := drop_at R 3 p (by rw [← HN.out]; exact hlt) hp.symm
          clear hp hY
          cases hnp : num p with
          | none =>
            have HV := hid (numC_none p hnp)
            have HE := hid (prsV_none S (by rw [HW.out, HDR.out]; exact adr_no _ _ _ _ hnp))
            clear hnp
            go_wp2_with fail
            refine (number_any Y _ hys).mono ?_
            rw [HYD.out, HV.out]
            rintro e w4 ⟨rfl, hw4⟩
            subst hw4
            go_wp2
            go_ret2
            exact ⟨by rw [HE.out]; rfl, HB.out⟩
          | some v =>
            have HV := hid (numC_some p v hnp)
            obtain ⟨x, hx⟩ : ∃ x, x = sat v := ⟨_, rfl⟩
            have hx2 : x ≤ 4294967296 := by rw [hx]; unfold sat; omega
            rw [← hx] at HV
            by_cases hq : n = 4
            · have hDE : R.drop 4 = [] := drop_end R _ (by rw [← HN.out]; exact hq)
              have hA : ((3 : Int) == q) = true := by have := HQ.out; simp; omega
              have hB : ¬ (3 : Int) < q := by have := HQ.out; omega
              have hC : 4 - q = 1 := by have := HQ.out; omega
              have HNQ := hid hq
              clear hq
              by_cases hxm : x < 256
              · have hxv : x = v := by rw [hx]; exact sat_id v (by rw [← hx]; omega)
                have HE := hid ((show S = adr 256 acc [p] by rw [HW.out, HDR.out, hDE]).trans (adr_last 256 acc p v hnp ((sat_lt v 256 (by omega)).2 (by rw [← hx]; exact hxm))))
                have HXV := hid hxv
                have HDE := hid hDE
                clear hnp hx hxv hDE
                have HSUM : Hid ((acc : Int) + (x : Int) = ((acc + v : Nat) : Int)) := by show _ = _; rw [HXV.out]; omega
                have hxi : (x : Int) < 256 := by omega
                have hx0 : (0 : Int) ≤ (x : Int) := by omega
                have hai : (acc : Int) + 256 ≤ 4294967296 := by omega
                have ha0 : (0 : Int) ≤ (acc : Int) := by omega
                have hvb : acc + v < 4294967296 := by have := HXV.out; omega
                have HVB := hid hvb
                clear hxm hx2 hacc hvb
                have HWN : Hid (S = adr (mk 4) (acc + v) (R.drop 4)) := by show _ = _; rw [HDE.out]; exact HE.out
                generalize (x : Int) = X at hxi hx0 HSUM HV
                generalize (acc : Int) = AC at hai ha0 HSUM ⊢
                go_wp2_with fail
                refine (number_any Y _ hys).mono ?_
                rw [HYD.out, HV.out]
                rintro e w4 ⟨rfl, hw4⟩
                subst hw4
                go_wp2
                go_roundw
                case rel => exact ⟨4, acc + v, by have := HNQ.out; omega, by go_num, by first | rfl | trivial, by first | exact int_eq HSUM.out | (rw [← HSUM.out]), HVB.out, fun h => absurd h (by have := HNQ.out; omega), HWN⟩
                case measure => (have := HNQ.out; simp [intOf]; omega)
              · have HE := hid (prsV_none S ((show S = adr 256 acc [p] by rw [HW.out, HDR.out, hDE]).trans (adr_last_no 256 acc p v hnp (fun h => hxm (by rw [hx]; exact (sat_lt v 256 (by omega)).1 h)))))
                have hxi : ¬ (x : Int) < 256 := by omega
                have hx0 : (0 : Int) ≤ (x : Int) := by omega
                have hx2i : (x : Int) ≤ 4294967296 := by omega
                clear hnp hx hDE hxm hx2
                generalize (x : Int) = X at hxi hx0 hx2i HV
                generalize (acc : Int) = AC
                go_wp2_with fail
                refine (number_any Y _ hys).mono ?_
                rw [HYD.out, HV.out]
                rintro e w4 ⟨rfl, hw4⟩
                subst hw4
                go_wp2
                go_ret2
                exact ⟨by rw [HE.out]; rfl, HB.out⟩
            · exact absurd hlt (by omega)
      · obtain rfl : k = n := by omega
        have HE := hid (prsV_some S acc (by rw [HW.out, drop_end R k HN.out.symm]; rfl))
        have ha0 : (0 : Int) ≤ (acc : Int) := by omega
        have hai : (acc : Int) < 4294967296 := by omega
        clear hacc0
        generalize (acc : Int) = AC at ha0 hai HE ⊢
        go_wp2
        go_ret2
        exact ⟨by rw [HE.out]; rfl, HB.out⟩
  · have h4i : (3 : Int) < (n : Int) - 1 := by omega
    have HE := hid (prsV_none S (by rw [HS2.out, if_neg (by rw [← HN.out]; exact h4)]))
    go_wp2
    go_ret2
    exact ⟨by rw [HE.out]; rfl, HB.out⟩
end Go.Proofs.YtnmkkejodkjjiaaDoor.QudE
