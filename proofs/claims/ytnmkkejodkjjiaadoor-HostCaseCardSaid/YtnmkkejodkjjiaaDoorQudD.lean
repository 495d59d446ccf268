/- IPv4 addresses: does a text end in a number, as the code tells it, and as the document does. -/
import Derived.Test.YtnmkkejodkjjiaaDoorQudC
namespace Go.Proofs.YtnmkkejodkjjiaaDoor.QudD
open Go.RowKit Go.Proofs.YtnmkkejodkjjiaaDoor.Base Go.Proofs.YtnmkkejodkjjiaaDoor.Base2 Go.Proofs.YtnmkkejodkjjiaaDoor.UtfA Go.Proofs.YtnmkkejodkjjiaaDoor.QudP Go.Proofs.YtnmkkejodkjjiaaDoor.QudA Go.Proofs.YtnmkkejodkjjiaaDoor.QudB Go.Proofs.YtnmkkejodkjjiaaDoor.QudC

theorem numC_none (L : List UInt8) (h : num L = none) : NumC L = .tuple #[.int .u64 0, .bool false] := by unfold NumC; rw [h]
theorem numC_some (L : List UInt8) (v : Nat) (h : num L = some v) : NumC L = .tuple #[.int .u64 (sat v), .bool true] := by unfold NumC; rw [h]
theorem numR_none (L : List UInt8) (h : num L = none) : NumR L = -1 := by unfold NumR; rw [h]; rfl
theorem numR_some (L : List UInt8) (v : Nat) (h : num L = some v) : ∃ D : Nat, NumR L = D ∧ D ≤ 17592186044431 ∧ ((D < 1099511627776 ∧ D = v) ∨ (1099511627776 ≤ D ∧ 1099511627776 ≤ v)) := by
  have hb := shp_base L
  have hv : v = val (shp L).1 (shp L).2 := by
    unfold num at h
    split at h
    · cases h
    · split at h
      · exact (Option.some.inj h).symm
      · cases h
  refine ⟨big (shp L).1 (shp L).2, by unfold NumR; rw [h]; rfl, big_le _ (by omega) _, ?_⟩
  have := big_rel (shp L).1 (by omega) (shp L).2
  rw [← hv] at this
  exact this
theorem lst_len (L : List UInt8) : (lst L).length ≤ L.length := by
  unfold lst
  cases h : (splt L).getLast? with
  | none => simp
  | some x => exact splt_part L x (List.mem_of_getLast? h)
set_option maxHeartbeats 4000000 in
theorem ends_any (s : ByteArray) (w : World) (hs : s.size ≤ 900000) : Calls Tryd.prog 53 #[.string s] w fun e w' => e = .returned (.bool (ends s.data.toList)) ∧ Below w.heap.size w w' := by
  have hsl : s.data.toList.length = s.size := Array.length_toList
  obtain ⟨K, hK⟩ : ∃ K, K = lst (unp s.data.toList) := ⟨_, rfl⟩
  obtain ⟨o, ho⟩ : ∃ o, o = ends s.data.toList := ⟨_, rfl⟩
  have ho2 : o = ((num K).isSome || (decide (K ≠ []) && digs 10 K)) := by rw [ho, hK]; rfl
  obtain ⟨U, hU⟩ : ∃ U, U = strOf (unp s.data.toList) := ⟨_, rfl⟩
  have hUd : U.data.toList = unp s.data.toList := by rw [hU]; rfl
  have hus : U.size ≤ 900000 := by rw [hU, size_strOf]; have := unp_len s.data.toList; omega
  obtain ⟨hd1, hd2, hd3⟩ := drop_last U
  rw [hUd, ← hK] at hd1
  obtain ⟨at_, hat⟩ : ∃ a, a = Lib.lastIndexByte U 46 := ⟨_, rfl⟩
  rw [← hat] at hd1 hd2 hd3
  obtain ⟨n, hn⟩ : ∃ n : Nat, (n : Int) = at_ + 1 := ⟨(at_ + 1).toNat, by omega⟩
  have hn2 : n = (at_ + 1).toNat := by omega
  rw [← hn2] at hd1
  obtain ⟨Y, hY⟩ : ∃ Y, Y = strOf K := ⟨_, rfl⟩
  have hYe : U.extract n U.size = Y := by rw [Regs.ext_drop _ _ _ rfl, hUd, hd1, hY]
  have hYd : Y.data.toList = K := by rw [hY]; rfl
  have hys : Y.size ≤ 1073741824 := by
    have h1 := lst_len (unp s.data.toList)
    have h2 := unp_len s.data.toList
    rw [hY, size_strOf, hK]; omega
  have hnu : (n : Int) ≤ (U.size : Int) := by omega
  have hn0 : (0 : Int) ≤ (n : Int) := by omega
  have hem : (Y.toList == []) = decide (K = []) := by rw [hY]; unfold strOf; rw [ByteArray.toList_mk, Bool.eq_iff_iff]; simp
  have HO := hid ho2
  have HU := hid hU
  have HAT := hid hat
  have HN : Hid (at_ + 1 = (n : Int)) := hn.symm
  have HYD := hid hYd
  rw [← ho]
  have ha1 : -1 ≤ at_ := hd2
  have ha2 : at_ < 900000 := by omega
  clear ho ho2 hK hU hUd hd1 hd2 hd3 hat hn hn2 hY hYd hsl
  go_enter Tryd.func53, Tryd.ntmps53
  go_wp2_with fail
  refine (unpoint_any s _ (by omega)).mono ?_
  rintro e w2 ⟨rfl, hw2⟩
  subst hw2
  rw [← HU.out]
  go_wp2_with fail
  refine (Tryd.strings_LastIndexByte U 46 _ (by omega)).mono ?_
  rintro e w3 ⟨rfl, hw3⟩
  subst hw3
  rw [← HAT.out]
  have hN := HN.out
  cases hk : num K with
  | some v =>
    have HV := hid (numC_some K v hk)
    have HE : Hid (o = true) := by show _ = _; rw [HO.out, hk]; rfl
    clear hk
    go_wp2_with fail
    refine (number_any Y _ hys).mono ?_
    rw [HYD.out, HV.out]
    rintro e w4 ⟨rfl, hw4⟩
    subst hw4
    go_wp2
    go_ret
    exact ⟨ret_bool HE.out.symm, Below.refl _ _⟩
  | none =>
    have HV := hid (numC_none K hk)
    have HE : Hid (o = (decide (K ≠ []) && digs 10 K)) := by show _ = _; rw [HO.out, hk]; rfl
    clear hk
    by_cases hke : K = []
    · have hem1 : (Y.toList == []) = true := by rw [hem]; exact decide_eq_true hke
      have hem2 : Y.toList = [] := by simpa using hem1
      have hem3 : (Y.toList != []) = false := by rw [bne, hem1]; rfl
      have HE2 : Hid (o = false) := by show _ = _; rw [HE.out, decide_eq_false (fun h => h hke)]; rfl
      clear hem hke
      go_wp2_with fail
      refine (number_any Y _ hys).mono ?_
      rw [HYD.out, HV.out]
      rintro e w4 ⟨rfl, hw4⟩
      subst hw4
      go_wp2
      go_ret
      exact ⟨ret_bool HE2.out.symm, Below.refl _ _⟩
    · have hem1 : (Y.toList == []) = false := by rw [hem]; exact decide_eq_false hke
      have hem2 : Y.toList.isEmpty = false := by
        cases h : Y.toList with
        | nil => rw [h] at hem1; cases hem1
        | cons _ _ => rfl
      have hem3 : (Y.toList != []) = true := by rw [bne, hem1]; rfl
      have HE2 : Hid (o = digs 10 K) := by show _ = _; rw [HE.out, decide_eq_true hke]; rfl
      clear hem hke
      go_wp2_with fail
      refine (number_any Y _ hys).mono ?_
      rw [HYD.out, HV.out]
      rintro e w4 ⟨rfl, hw4⟩
      subst hw4
      go_wp2_with fail
      refine (digits_any Y 10 _ hys).mono ?_
      rw [HYD.out]
      rintro e w5 ⟨rfl, hw5⟩
      subst hw5
      go_wp2
      go_ret
      exact ⟨ret_bool HE2.out.symm, Below.refl _ _⟩
theorem last_any {α : Type} (l : List α) (n : Nat) (hn : n = l.length) (h0 : 0 < n) : ∃ h : n - 1 < l.length, l.getLast? = some l[n - 1] := by
  subst hn
  exact ⟨by omega, by rw [List.getLast?_eq_getElem?, List.getElem?_eq_getElem]⟩
set_option maxHeartbeats 4000000 in
theorem refEnds_any (s : ByteArray) (w : World) (hs : s.size ≤ 900000) : Calls Tryd.prog 38 #[.string s] w fun e w' => e = .returned (.bool (ends s.data.toList)) ∧ Below w.heap.size w w' := by
  have hsl : s.data.toList.length = s.size := Array.length_toList
  obtain ⟨K, hK⟩ : ∃ K, K = lst (unp s.data.toList) := ⟨_, rfl⟩
  obtain ⟨o, ho⟩ : ∃ o, o = ends s.data.toList := ⟨_, rfl⟩
  have ho2 : o = ((num K).isSome || (decide (K ≠ []) && digs 10 K)) := by rw [ho, hK]; rfl
  obtain ⟨R, hR⟩ : ∃ R, R = prt (splt s.data.toList) := ⟨_, rfl⟩
  have hR2 : R = splt (unp s.data.toList) := by rw [hR, prt_splt]
  have hrl : R.length ≤ s.size + 1 := by have h1 := length_splt (unp s.data.toList); have h2 := unp_len s.data.toList; rw [hR2]; omega
  have hrp : 0 < R.length := by rw [hR2]; exact List.length_pos_iff.2 (splt_ne _)
  obtain ⟨hlt, hlast⟩ := last_any R R.length rfl hrp
  have hKR : R[R.length - 1] = K := by
    rw [hK]; unfold lst; rw [← hR2, hlast]; rfl
  obtain ⟨Y, hY⟩ : ∃ Y, Y = strOf K := ⟨_, rfl⟩
  have hYd : Y.data.toList = K := by rw [hY]; rfl
  have hyl : K.length = Y.size := by rw [hY, size_strOf]
  have hys : Y.size ≤ 900000 := by
    have h1 := lst_len (unp s.data.toList)
    have h2 := unp_len s.data.toList
    rw [hY, size_strOf, hK]; omega
  have hem : (Y.toList == []) = decide (K = []) := by rw [hY]; unfold strOf; rw [ByteArray.toList_mk, Bool.eq_iff_iff]; simp
  have HO := hid ho2
  have HR := hid hR
  have HYD := hid hYd
  have HYL := hid hyl
  have HKR : Hid (∀ n, n = R.length → ∃ h : n - 1 < R.length, R[n - 1] = K) := by
    rintro n rfl
    exact ⟨hlt, hKR⟩
  have HY := hid hY
  rw [← ho]
  clear ho ho2 hK hR hR2 hlast hKR hlt hY hYd hsl hyl
  go_enter Tryd.func38, Tryd.ntmps38
  go_wp2_with fail
  refine (refparts_any s _ hs).mono ?_
  rw [← HR.out]
  rintro e w2 ⟨A, n, c, rfl, hn, hnc, hcm, hrd, hb2⟩
  rw [← hn] at hrl hrp
  obtain ⟨h1, h2⟩ := HKR.out n hn
  obtain ⟨g, off, rfl, hg, hcell⟩ := hrd.spot hrp
  have hcl := hcell (n - 1) (by rw [List.length_map, List.length_map]; exact h1)
  rw [List.getElem_map, List.getElem_map, h2, ← HY.out] at hcl
  have HB := hid hb2
  have hni : ((n : Int) - 1).toNat = n - 1 := by omega
  unfold maxLen at hcm
  clear hn hrd hcell h1 h2 hb2
  obtain ⟨d0, hd0⟩ : ∃ d0, d0 = decide (K ≠ []) := ⟨_, rfl⟩
  have HD0 := hid hd0
  have hem1 : (Y.toList == []) = !d0 := by rw [hem, hd0]; by_cases h : K = [] <;> simp [h]
  have hem3 : (Y.toList != []) = d0 := by rw [bne, hem1, Bool.not_not]
  have hem2 : Y.toList.isEmpty = !d0 := by
    rw [← hem1]
    cases Y.toList <;> rfl
  clear hem hd0
  go_wp2
  go_loopw [5, 6, 19] (fun vd _ vk wr => ∃ k : Nat, k ≤ Y.size ∧ vk = .int .i64 (k : Int) ∧ wr = w2 ∧ vd = .bool (d0 && digs 10 (K.take k))) (fun _ _ vk _ => Y.size - (intOf vk).toNat)
  case atStart => exact ⟨0, Nat.zero_le _, rfl, rfl, by simp [digs]⟩
  case round =>
    obtain ⟨k, hk, rfl, rfl, rfl⟩ := hrel
    obtain ⟨d, hd⟩ : ∃ d, d = (d0 && digs 10 (K.take k)) := ⟨_, rfl⟩
    rw [← hd]
    have HD := hid hd
    clear hd
    by_cases hlt : k < Y.size
    · obtain ⟨x, hx⟩ : ∃ x, Y[k] = x := ⟨_, rfl⟩
      have hkl : k < K.length := by rw [HYL.out]; exact hlt
      have hxK : K[k] = x := by
        have : Y.data.toList[k]? = some x := by rw [← hx]; exact Lib.data_getElem? Y k hlt
        rw [HYD.out] at this
        obtain ⟨_, e⟩ := List.getElem?_eq_some_iff.1 this
        exact e
      have HS : Hid (K.take (k + 1) = K.take k ++ [x]) := by rw [← hxK]; exact take_snoc _ k hkl
      have HDG : Hid ((d0 && digs 10 (K.take (k + 1))) = (d && isD 10 x)) := by
        show _ = _
        rw [HS.out, HD.out]
        unfold digs
        rw [List.all_append, List.all_cons, List.all_nil, Bool.and_true, Bool.and_assoc]
      obtain ⟨b, hb⟩ : ∃ b, b = UtfA.digit x.toNat := ⟨_, rfl⟩
      have HB2 := hid hb
      have HBD : Hid (b = isD 10 x) := hb.trans (digit_isD x)
      clear hkl hxK hb
      cases d with
      | true =>
        go_wp2_with fail
        refine (RefA.digit_any _ _).mono ?_
        rintro e w3 ⟨rfl, hw3⟩
        subst hw3
        rw [← HB2.out]
        go_wp2
        go_roundw
        case rel => exact ⟨k + 1, by omega, by go_num, by first | rfl | trivial, by rw [HDG.out, HBD.out]; rfl⟩
        case measure => simp [intOf]; omega
      | false =>
        go_wp2
        go_roundw
        case rel => exact ⟨k + 1, by omega, by go_num, by first | rfl | trivial, by rw [HDG.out]; rfl⟩
        case measure => simp [intOf]; omega
    · obtain rfl : k = Y.size := by omega
      have HDD : Hid (d = (d0 && digs 10 K)) := by show _ = _; rw [HD.out, List.take_of_length_le (by rw [HYL.out]; exact Nat.le_refl _)]
      have HE : Hid (o = ((num K).isSome || d)) := by show _ = _; rw [HO.out, HDD.out, HD0.out]
      cases d with
      | true =>
        have HE2 : Hid (o = true) := by show _ = _; rw [HE.out, Bool.or_true]
        go_wp2
        go_ret
        exact ⟨ret_bool HE2.out.symm, HB.out⟩
      | false =>
        cases hk : num K with
        | none =>
          have HV := hid (numR_none K hk)
          have HE2 : Hid (o = false) := by show _ = _; rw [HE.out, hk]; rfl
          clear hk
          go_wp2_with fail
          refine (refNumber_any Y _ (by omega)).mono ?_
          rw [HYD.out, HV.out]
          rintro e w4 ⟨rfl, hb4⟩
          go_wp2
          go_ret
          exact ⟨ret_bool HE2.out.symm, bel HB.out hb4⟩
        | some v =>
          obtain ⟨D, hD, _, _⟩ := numR_some K v hk
          have HV := hid hD
          have HE2 : Hid (o = true) := by show _ = _; rw [HE.out, hk]; rfl
          have hD0 : (0 : Int) ≤ (D : Int) := by omega
          clear hk hD
          go_wp2_with fail
          refine (refNumber_any Y _ (by omega)).mono ?_
          rw [HYD.out, HV.out]
          rintro e w4 ⟨rfl, hb4⟩
          go_wp2
          go_ret
          exact ⟨ret_bool HE2.out.symm, bel HB.out hb4⟩
end Go.Proofs.YtnmkkejodkjjiaaDoor.QudD
