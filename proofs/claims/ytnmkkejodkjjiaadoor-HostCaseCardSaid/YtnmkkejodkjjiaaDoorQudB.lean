/- IPv4 addresses: the document's numbers. -/
import Derived.Test.YtnmkkejodkjjiaaDoorQudA
namespace Go.Proofs.YtnmkkejodkjjiaaDoor.QudB
open Go.RowKit Go.Proofs.YtnmkkejodkjjiaaDoor.Base Go.Proofs.YtnmkkejodkjjiaaDoor.Base2 Go.Proofs.YtnmkkejodkjjiaaDoor.UtfA Go.Proofs.YtnmkkejodkjjiaaDoor.QudP Go.Proofs.YtnmkkejodkjjiaaDoor.QudA

set_option maxRecDepth 100000 in
set_option maxHeartbeats 4000000 in
theorem refNumber_any (s : ByteArray) (w : World) (hs : s.size ≤ 1073741824) : Calls Tryd.prog 61 #[.string s] w fun e w' => e = .returned (.int .i64 (NumR s.data.toList)) ∧ Below w.heap.size w w' := by
  have hsz : s.data.toList.length = s.size := Array.length_toList
  match hL : s.data.toList with
  | [] =>
    have h0 : s.size = 0 := by rw [← hsz, hL]; rfl
    have hem : (s.toList == []) = true := by rw [Lib.toList_data, hL]; rfl
    have hem2 : s.toList = [] := by rw [Lib.toList_data, hL]
    clear hL hsz
    go_enter Tryd.func61, Tryd.ntmps61
    go_wp2
    go_ret
    exact ⟨rfl, Below.refl _ _⟩
  | [a] =>
    have h1 : s.size = 1 := by rw [← hsz, hL]; rfl
    have hzs : s.size ≤ 1073741824 := hs
    have hem : (s.toList == []) = false := by rw [Lib.toList_data, hL]; rfl
    have hem2 : s.toList.isEmpty = false := by rw [Lib.toList_data, hL]; rfl
    have HYES : Hid (digs 10 s.data.toList = true → NumR s.data.toList = big 10 s.data.toList) := fun h => numR_yes _ (by rw [hL]; simp) 10 _ (by rw [hL]; rfl) h
    have HNO : Hid (digs 10 s.data.toList = false → NumR s.data.toList = -1) := fun h => numR_no _ (by rw [hL]; simp) 10 _ (by rw [hL]; rfl) h
    rw [← hL]
    have h1i : ¬ (1 : Int) < (s.size : Int) := by omega
    have hb1 : Below w.heap.size w w := Below.refl _ _
    clear hL hsz
    go_enter Tryd.func61, Tryd.ntmps61
    have HL : Hid (s.data.toList.length = s.size) := Array.length_toList
    go_wp2
    go_loopw [4, 5, 6, 31] (fun vn _ _ vk wr => ∃ k : Nat, k ≤ s.size ∧ vk = .int .i64 (k : Int) ∧ wr = w ∧ vn = .int .i64 (big 10 (s.data.toList.take k)) ∧ Hid (digs 10 (s.data.toList.take k) = true)) (fun _ _ _ vk _ => s.size - (intOf vk).toNat)
    case atStart => exact ⟨0, Nat.zero_le _, rfl, rfl, rfl, rfl⟩
    case round =>
      obtain ⟨k, hk, rfl, rfl, rfl, HT⟩ := hrel
      obtain ⟨n, hn⟩ : ∃ n, n = big 10 (s.data.toList.take k) := ⟨_, rfl⟩
      have hn2 : n ≤ 17592186044431 := by rw [hn]; exact big_le 10 (by omega) _
      rw [← hn]
      have HN := hid hn
      have hn2i : (n : Int) ≤ 17592186044431 := by omega
      clear hn hn2
      by_cases hlt : k < s.size
      · obtain ⟨c, hc⟩ : ∃ c, s[k] = c := ⟨_, rfl⟩
        have hkl : k < s.data.toList.length := by rw [HL.out]; exact hlt
        have hcl : s.data.toList[k] = c := hc
        have HS : Hid (s.data.toList.take (k + 1) = s.data.toList.take k ++ [c]) := by rw [← hcl]; exact take_snoc _ k hkl
        have HM : Hid (c ∈ s.data.toList) := by show _ ∈ _; rw [← hcl]; exact List.getElem_mem _
        have HD : Hid (isD 10 c = (decide (0 ≤ hex c.toNat) && decide (hex c.toNat < (10 : Nat)))) := rfl
        obtain ⟨x, hx⟩ : ∃ x, x = hex c.toNat := ⟨_, rfl⟩
        have hx15 : x ≤ 15 := by rw [hx]; exact (hex_le c).2
        rw [← hx] at HD
        have HX := hid hx
        clear hcl hkl
        by_cases hx0 : 0 ≤ x
        · by_cases hxb : x < (10 : Nat)
          · have hOK : isD 10 c = true := by rw [HD.out, decide_eq_true hx0, decide_eq_true hxb]; rfl
            have HT2 : Hid (digs 10 (s.data.toList.take (k + 1)) = true) := by show _ = _; rw [HS.out]; unfold digs at HT ⊢; rw [List.all_append, HT.out, List.all_cons, hOK]; rfl
            have hxd : x = (dv c : Int) := by rw [hx]; exact hex_dv 10 c hOK
            have HB : Hid (big 10 (s.data.toList.take (k + 1)) = if n < 1099511627776 then n * 10 + dv c else n) := by show _ = _; rw [HS.out, big_snoc, ← HN.out]
            have hxb2 : x < 10 := by omega
            clear hOK hx hxb
            by_cases hnb : n < 1099511627776
            · have HZ : Hid (Value.int .i64 ((n : Int) * 10 + x) = .int .i64 (big 10 (s.data.toList.take (k + 1)))) := by
                refine int_eq ?_
                rw [HB.out, if_pos hnb, hxd]; omega
              have hnbi : (n : Int) < 1099511627776 := by omega
              clear hxd hnb HB
              have hn0 : 0 ≤ (n : Int) := by omega
              generalize (n : Int) = N at hn0 hn2i hnbi HZ ⊢
              go_wp2_with fail
              refine (RefA.hex_any _ _).mono ?_
              rintro e w2 ⟨rfl, hw2⟩
              subst hw2
              rw [← HX.out]
              go_wp2
              go_roundw
              case rel => exact ⟨k + 1, by omega, by go_num, by first | rfl | trivial, HZ.out, HT2⟩
              case measure => simp [intOf]; omega
            · have HZ : Hid (Value.int .i64 (n : Int) = .int .i64 (big 10 (s.data.toList.take (k + 1)))) := by
                refine int_eq ?_
                rw [HB.out, if_neg hnb]
              have hnbi : ¬ (n : Int) < 1099511627776 := by omega
              clear hxd hnb HB
              have hn0 : 0 ≤ (n : Int) := by omega
              generalize (n : Int) = N at hn0 hn2i hnbi HZ ⊢
              go_wp2_with fail
              refine (RefA.hex_any _ _).mono ?_
              rintro e w2 ⟨rfl, hw2⟩
              subst hw2
              rw [← HX.out]
              go_wp2
              go_roundw
              case rel => exact ⟨k + 1, by omega, by go_num, by first | rfl | trivial, HZ.out, HT2⟩
              case measure => simp [intOf]; omega
          · have HE := hid (HNO.out (List.all_eq_false.2 ⟨c, HM.out, by rw [HD.out, decide_eq_false hxb]; simp⟩))
            have hxb2 : ¬ x < 10 := by omega
            clear hx hxb
            go_wp2_with fail
            refine (RefA.hex_any _ _).mono ?_
            rintro e w2 ⟨rfl, hw2⟩
            subst hw2
            rw [← HX.out]
            go_wp2
            go_ret
            exact ⟨by rw [HE.out]; rfl, hb1⟩
        · have HE := hid (HNO.out (List.all_eq_false.2 ⟨c, HM.out, by rw [HD.out, decide_eq_false hx0]; simp⟩))
          clear hx
          go_wp2_with fail
          refine (RefA.hex_any _ _).mono ?_
          rintro e w2 ⟨rfl, hw2⟩
          subst hw2
          rw [← HX.out]
          go_wp2
          go_ret
          exact ⟨by rw [HE.out]; rfl, hb1⟩
      · obtain rfl : k = s.size := by omega
        have hfull : s.data.toList.take s.size = s.data.toList := List.take_of_length_le (by rw [HL.out]; exact Nat.le_refl _)
        have HE := hid (HYES.out (by have h := HT.out; rwa [hfull] at h))
        have HZ : Hid (n = big 10 s.data.toList) := by show _ = _; rw [HN.out, hfull]
        clear hfull
        go_wp2
        go_ret
        exact ⟨by rw [HE.out, HZ.out]; rfl, hb1⟩
  | a :: x :: r =>
    have h1 : 2 ≤ s.size := by rw [← hsz, hL]; simp
    have h0i : (0 : Int) < (s.size : Int) := by omega
    have h1j : (1 : Int) < (s.size : Int) := by omega
    have h2i : (2 : Int) ≤ (s.size : Int) := by omega
    have hem : (s.toList == []) = false := by rw [Lib.toList_data, hL]; rfl
    have hem2 : s.toList.isEmpty = false := by rw [Lib.toList_data, hL]; rfl
    have g0 : ∀ h, s[0]'h = a := fun h => by
      have : s.data.toList[0]? = some a := by rw [hL]; rfl
      have := List.getElem?_eq_some_iff.1 this
      obtain ⟨_, e⟩ := this
      exact e
    have g1 : ∀ h, s[1]'h = x := fun h => by
      have : s.data.toList[1]? = some x := by rw [hL]; rfl
      have := List.getElem?_eq_some_iff.1 this
      obtain ⟨_, e⟩ := this
      exact e
    have hneL : s.data.toList ≠ [] := by rw [hL]; simp
    rw [← hL]
    by_cases ha : a = 48
    · have ha2 : ((a.toNat : Int) == 48) = true := by rw [ha]; rfl
      by_cases hx : x = 120 ∨ x = 88
      · obtain ⟨Z, hZ⟩ : ∃ Z, Z = s.extract 2 s.size := ⟨_, rfl⟩
        have hZd : Z.data.toList = r := by rw [hZ, ext2 _ _ h1, hL]; rfl
        have hZs : s.extract 2 s.size = Z := hZ.symm
        have hzs : Z.size ≤ 1073741824 := by have : Z.data.toList.length = Z.size := Array.length_toList; rw [hZd] at this; rw [hL] at hsz; simp at hsz; omega
        have HYES : Hid (digs 16 Z.data.toList = true → NumR s.data.toList = big 16 Z.data.toList) := fun h => numR_yes _ hneL 16 _ (by rw [hL, shp_x _ _ _ ha hx, hZd]) h
        have HNO : Hid (digs 16 Z.data.toList = false → NumR s.data.toList = -1) := fun h => numR_no _ hneL 16 _ (by rw [hL, shp_x _ _ _ ha hx, hZd]) h
        have hcase : ((x.toNat : Int) == 120) = true ∨ ((x.toNat : Int) == 120) = false ∧ ((x.toNat : Int) == 88) = true := by
          rcases hx with rfl | rfl
          · exact .inl rfl
          · exact .inr ⟨rfl, rfl⟩
        clear hL hsz hZd hZ hneL ha hx
        rcases hcase with hq | ⟨hq, hq2⟩
        all_goals
          go_enter Tryd.func61, Tryd.ntmps61
          go_wp2_with fail
          go_region
          obtain ⟨w1, hw1, hb1⟩ : ∃ w1, w1 = w.drew ∧ Below w.heap.size w w1 := ⟨_, rfl, (Below.refl _ _).drew⟩
          rw [← hw1]
          clear hw1
          have HL : Hid (Z.data.toList.length = Z.size) := Array.length_toList
          go_wp2
          go_loopw [4, 5, 6, 31] (fun vn _ _ vk wr => ∃ k : Nat, k ≤ Z.size ∧ vk = .int .i64 (k : Int) ∧ wr = w1 ∧ vn = .int .i64 (big 16 (Z.data.toList.take k)) ∧ Hid (digs 16 (Z.data.toList.take k) = true)) (fun _ _ _ vk _ => Z.size - (intOf vk).toNat)
          case atStart => exact ⟨0, Nat.zero_le _, rfl, rfl, rfl, rfl⟩
          case round =>
            obtain ⟨k, hk, rfl, rfl, rfl, HT⟩ := hrel
            obtain ⟨n, hn⟩ : ∃ n, n = big 16 (Z.data.toList.take k) := ⟨_, rfl⟩
            have hn2 : n ≤ 17592186044431 := by rw [hn]; exact big_le 16 (by omega) _
            rw [← hn]
            have HN := hid hn
            have hn2i : (n : Int) ≤ 17592186044431 := by omega
            clear hn hn2
            by_cases hlt : k < Z.size
            · obtain ⟨c, hc⟩ : ∃ c, Z[k] = c := ⟨_, rfl⟩
              have hkl : k < Z.data.toList.length := by rw [HL.out]; exact hlt
              have hcl : Z.data.toList[k] = c := hc
              have HS : Hid (Z.data.toList.take (k + 1) = Z.data.toList.take k ++ [c]) := by rw [← hcl]; exact take_snoc _ k hkl
              have HM : Hid (c ∈ Z.data.toList) := by show _ ∈ _; rw [← hcl]; exact List.getElem_mem _
              have HD : Hid (isD 16 c = (decide (0 ≤ hex c.toNat) && decide (hex c.toNat < (16 : Nat)))) := rfl
              obtain ⟨x, hx⟩ : ∃ x, x = hex c.toNat := ⟨_, rfl⟩
              have hx15 : x ≤ 15 := by rw [hx]; exact (hex_le c).2
              rw [← hx] at HD
              have HX := hid hx
              clear hcl hkl
              by_cases hx0 : 0 ≤ x
              · by_cases hxb : x < (16 : Nat)
                · have hOK : isD 16 c = true := by rw [HD.out, decide_eq_true hx0, decide_eq_true hxb]; rfl
                  have HT2 : Hid (digs 16 (Z.data.toList.take (k + 1)) = true) := by show _ = _; rw [HS.out]; unfold digs at HT ⊢; rw [List.all_append, HT.out, List.all_cons, hOK]; rfl
                  have hxd : x = (dv c : Int) := by rw [hx]; exact hex_dv 16 c hOK
                  have HB : Hid (big 16 (Z.data.toList.take (k + 1)) = if n < 1099511627776 then n * 16 + dv c else n) := by show _ = _; rw [HS.out, big_snoc, ← HN.out]
                  have hxb2 : x < 16 := by omega
                  clear hOK hx hxb
                  by_cases hnb : n < 1099511627776
                  · have HZ : Hid (Value.int .i64 ((n : Int) * 16 + x) = .int .i64 (big 16 (Z.data.toList.take (k + 1)))) := by
                      refine int_eq ?_
                      rw [HB.out, if_pos hnb, hxd]; omega
                    have hnbi : (n : Int) < 1099511627776 := by omega
                    clear hxd hnb HB
                    have hn0 : 0 ≤ (n : Int) := by omega
                    generalize (n : Int) = N at hn0 hn2i hnbi HZ ⊢
                    go_wp2_with fail
                    refine (RefA.hex_any _ _).mono ?_
                    rintro e w2 ⟨rfl, hw2⟩
                    subst hw2
                    rw [← HX.out]
                    go_wp2
                    go_roundw
                    case rel => exact ⟨k + 1, by omega, by go_num, by first | rfl | trivial, HZ.out, HT2⟩
                    case measure => simp [intOf]; omega
                  · have HZ : Hid (Value.int .i64 (n : Int) = .int .i64 (big 16 (Z.data.toList.take (k + 1)))) := by
                      refine int_eq ?_
                      rw [HB.out, if_neg hnb]
                    have hnbi : ¬ (n : Int) < 1099511627776 := by omega
                    clear hxd hnb HB
                    have hn0 : 0 ≤ (n : Int) := by omega
                    generalize (n : Int) = N at hn0 hn2i hnbi HZ ⊢
                    go_wp2_with fail
                    refine (RefA.hex_any _ _).mono ?_
                    rintro e w2 ⟨rfl, hw2⟩
                    subst hw2
                    rw [← HX.out]
                    go_wp2
                    go_roundw
                    case rel => exact ⟨k + 1, by omega, by go_num, by first | rfl | trivial, HZ.out, HT2⟩
                    case measure => simp [intOf]; omega
                · have HE := hid (HNO.out (List.all_eq_false.2 ⟨c, HM.out, by rw [HD.out, decide_eq_false hxb]; simp⟩))
                  have hxb2 : ¬ x < 16 := by omega
                  clear hx hxb
                  go_wp2_with fail
                  refine (RefA.hex_any _ _).mono ?_
                  rintro e w2 ⟨rfl, hw2⟩
                  subst hw2
                  rw [← HX.out]
                  go_wp2
                  go_ret
                  exact ⟨by rw [HE.out]; rfl, hb1⟩
              · have HE := hid (HNO.out (List.all_eq_false.2 ⟨c, HM.out, by rw [HD.out, decide_eq_false hx0]; simp⟩))
                clear hx
                go_wp2_with fail
                refine (RefA.hex_any _ _).mono ?_
                rintro e w2 ⟨rfl, hw2⟩
                subst hw2
                rw [← HX.out]
                go_wp2
                go_ret
                exact ⟨by rw [HE.out]; rfl, hb1⟩
            · obtain rfl : k = Z.size := by omega
              have hfull : Z.data.toList.take Z.size = Z.data.toList := List.take_of_length_le (by rw [HL.out]; exact Nat.le_refl _)
              have HE := hid (HYES.out (by have h := HT.out; rwa [hfull] at h))
              have HZ : Hid (n = big 16 Z.data.toList) := by show _ = _; rw [HN.out, hfull]
              clear hfull
              go_wp2
              go_ret
              exact ⟨by rw [HE.out, HZ.out]; rfl, hb1⟩
      · obtain ⟨Z, hZ⟩ : ∃ Z, Z = s.extract 1 s.size := ⟨_, rfl⟩
        have hZd : Z.data.toList = x :: r := by rw [hZ, ext2 _ _ (by omega), hL]; rfl
        have hZs : s.extract 1 s.size = Z := hZ.symm
        have hzs : Z.size ≤ 1073741824 := by have : Z.data.toList.length = Z.size := Array.length_toList; rw [hZd] at this; rw [hL] at hsz; simp at hsz this; omega
        have HYES : Hid (digs 8 Z.data.toList = true → NumR s.data.toList = big 8 Z.data.toList) := fun h => numR_yes _ hneL 8 _ (by rw [hL, shp_8 _ _ _ ha hx, hZd]) h
        have HNO : Hid (digs 8 Z.data.toList = false → NumR s.data.toList = -1) := fun h => numR_no _ hneL 8 _ (by rw [hL, shp_8 _ _ _ ha hx, hZd]) h
        have hq : ((x.toNat : Int) == 120) = false := ne_u8 (d := 120) fun h => hx (.inl h)
        have hq2 : ((x.toNat : Int) == 88) = false := ne_u8 (d := 88) fun h => hx (.inr h)
        clear hL hsz hZd hZ hneL ha hx
        go_enter Tryd.func61, Tryd.ntmps61
        go_wp2_with fail
        go_region
        obtain ⟨w1, hw1, hb1⟩ : ∃ w1, w1 = w.drew ∧ Below w.heap.size w w1 := ⟨_, rfl, (Below.refl _ _).drew⟩
        rw [← hw1]
        clear hw1
        have HL : Hid (Z.data.toList.length = Z.size) := Array.length_toList
        go_wp2
        go_loopw [4, 5, 6, 31] (fun vn _ _ vk wr => ∃ k : Nat, k ≤ Z.size ∧ vk = .int .i64 (k : Int) ∧ wr = w1 ∧ vn = .int .i64 (big 8 (Z.data.toList.take k)) ∧ Hid (digs 8 (Z.data.toList.take k) = true)) (fun _ _ _ vk _ => Z.size - (intOf vk).toNat)
        case atStart => exact ⟨0, Nat.zero_le _, rfl, rfl, rfl, rfl⟩
        case round =>
          obtain ⟨k, hk, rfl, rfl, rfl, HT⟩ := hrel
          obtain ⟨n, hn⟩ : ∃ n, n = big 8 (Z.data.toList.take k) := ⟨_, rfl⟩
          have hn2 : n ≤ 17592186044431 := by rw [hn]; exact big_le 8 (by omega) _
          rw [← hn]
          have HN := hid hn
          have hn2i : (n : Int) ≤ 17592186044431 := by omega
          clear hn hn2
          by_cases hlt : k < Z.size
          · obtain ⟨c, hc⟩ : ∃ c, Z[k] = c := ⟨_, rfl⟩
            have hkl : k < Z.data.toList.length := by rw [HL.out]; exact hlt
            have hcl : Z.data.toList[k] = c := hc
            have HS : Hid (Z.data.toList.take (k + 1) = Z.data.toList.take k ++ [c]) := by rw [← hcl]; exact take_snoc _ k hkl
            have HM : Hid (c ∈ Z.data.toList) := by show _ ∈ _; rw [← hcl]; exact List.getElem_mem _
            have HD : Hid (isD 8 c = (decide (0 ≤ hex c.toNat) && decide (hex c.toNat < (8 : Nat)))) := rfl
            obtain ⟨x, hx⟩ : ∃ x, x = hex c.toNat := ⟨_, rfl⟩
            have hx15 : x ≤ 15 := by rw [hx]; exact (hex_le c).2
            rw [← hx] at HD
            have HX := hid hx
            clear hcl hkl
            by_cases hx0 : 0 ≤ x
            · by_cases hxb : x < (8 : Nat)
              · have hOK : isD 8 c = true := by rw [HD.out, decide_eq_true hx0, decide_eq_true hxb]; rfl
                have HT2 : Hid (digs 8 (Z.data.toList.take (k + 1)) = true) := by show _ = _; rw [HS.out]; unfold digs at HT ⊢; rw [List.all_append, HT.out, List.all_cons, hOK]; rfl
                have hxd : x = (dv c : Int) := by rw [hx]; exact hex_dv 8 c hOK
                have HB : Hid (big 8 (Z.data.toList.take (k + 1)) = if n < 1099511627776 then n * 8 + dv c else n) := by show _ = _; rw [HS.out, big_snoc, ← HN.out]
                have hxb2 : x < 8 := by omega
                clear hOK hx hxb
                by_cases hnb : n < 1099511627776
                · have HZ : Hid (Value.int .i64 ((n : Int) * 8 + x) = .int .i64 (big 8 (Z.data.toList.take (k + 1)))) := by
                    refine int_eq ?_
                    rw [HB.out, if_pos hnb, hxd]; omega
                  have hnbi : (n : Int) < 1099511627776 := by omega
                  clear hxd hnb HB
                  have hn0 : 0 ≤ (n : Int) := by omega
                  generalize (n : Int) = N at hn0 hn2i hnbi HZ ⊢
                  go_wp2_with fail
                  refine (RefA.hex_any _ _).mono ?_
                  rintro e w2 ⟨rfl, hw2⟩
                  subst hw2
                  rw [← HX.out]
                  go_wp2
                  go_roundw
                  case rel => exact ⟨k + 1, by omega, by go_num, by first | rfl | trivial, HZ.out, HT2⟩
                  case measure => simp [intOf]; omega
                · have HZ : Hid (Value.int .i64 (n : Int) = .int .i64 (big 8 (Z.data.toList.take (k + 1)))) := by
                    refine int_eq ?_
                    rw [HB.out, if_neg hnb]
                  have hnbi : ¬ (n : Int) < 1099511627776 := by omega
                  clear hxd hnb HB
                  have hn0 : 0 ≤ (n : Int) := by omega
                  generalize (n : Int) = N at hn0 hn2i hnbi HZ ⊢
                  go_wp2_with fail
                  refine (RefA.hex_any _ _).mono ?_
                  rintro e w2 ⟨rfl, hw2⟩
                  subst hw2
                  rw [← HX.out]
                  go_wp2
                  go_roundw
                  case rel => exact ⟨k + 1, by omega, by go_num, by first | rfl | trivial, HZ.out, HT2⟩
                  case measure => simp [intOf]; omega
              · have HE := hid (HNO.out (List.all_eq_false.2 ⟨c, HM.out, by rw [HD.out, decide_eq_false hxb]; simp⟩))
                have hxb2 : ¬ x < 8 := by omega
                clear hx hxb
                go_wp2_with fail
                refine (RefA.hex_any _ _).mono ?_
                rintro e w2 ⟨rfl, hw2⟩
                subst hw2
                rw [← HX.out]
                go_wp2
                go_ret
                exact ⟨by rw [HE.out]; rfl, hb1⟩
            · have HE := hid (HNO.out (List.all_eq_false.2 ⟨c, HM.out, by rw [HD.out, decide_eq_false hx0]; simp⟩))
              clear hx
              go_wp2_with fail
              refine (RefA.hex_any _ _).mono ?_
              rintro e w2 ⟨rfl, hw2⟩
              subst hw2
              rw [← HX.out]
              go_wp2
              go_ret
              exact ⟨by rw [HE.out]; rfl, hb1⟩
          · obtain rfl : k = Z.size := by omega
            have hfull : Z.data.toList.take Z.size = Z.data.toList := List.take_of_length_le (by rw [HL.out]; exact Nat.le_refl _)
            have HE := hid (HYES.out (by have h := HT.out; rwa [hfull] at h))
            have HZ : Hid (n = big 8 Z.data.toList) := by show _ = _; rw [HN.out, hfull]
            clear hfull
            go_wp2
            go_ret
            exact ⟨by rw [HE.out, HZ.out]; rfl, hb1⟩
    · have ha2 : ((a.toNat : Int) == 48) = false := ne_u8 (d := 48) ha
      have hzs : s.size ≤ 1073741824 := hs
      have HYES : Hid (digs 10 s.data.toList = true → NumR s.data.toList = big 10 s.data.toList) := fun h => numR_yes _ hneL 10 _ (by rw [hL, shp_10 _ _ _ ha]) h
      have HNO : Hid (digs 10 s.data.toList = false → NumR s.data.toList = -1) := fun h => numR_no _ hneL 10 _ (by rw [hL, shp_10 _ _ _ ha]) h
      have hb1 : Below w.heap.size w w := Below.refl _ _
      clear hL hsz hneL ha
      go_enter Tryd.func61, Tryd.ntmps61
      have HL : Hid (s.data.toList.length = s.size) := Array.length_toList
      go_wp2
      go_loopw [4, 5, 6, 31] (fun vn _ _ vk wr => ∃ k : Nat, k ≤ s.size ∧ vk = .int .i64 (k : Int) ∧ wr = w ∧ vn = .int .i64 (big 10 (s.data.toList.take k)) ∧ Hid (digs 10 (s.data.toList.take k) = true)) (fun _ _ _ vk _ => s.size - (intOf vk).toNat)
      case atStart => exact ⟨0, Nat.zero_le _, rfl, rfl, rfl, rfl⟩
      case round =>
        obtain ⟨k, hk, rfl, rfl, rfl, HT⟩ := hrel
        obtain ⟨n, hn⟩ : ∃ n, n = big 10 (s.data.toList.take k) := ⟨_, rfl⟩
        have hn2 : n ≤ 17592186044431 := by rw [hn]; exact big_le 10 (by omega) _
        rw [← hn]
        have HN := hid hn
        have hn2i : (n : Int) ≤ 17592186044431 := by omega
        clear hn hn2
        by_cases hlt : k < s.size
        · obtain ⟨c, hc⟩ : ∃ c, s[k] = c := ⟨_, rfl⟩
          have hkl : k < s.data.toList.length := by rw [HL.out]; exact hlt
          have hcl : s.data.toList[k] = c := hc
          have HS : Hid (s.data.toList.take (k + 1) = s.data.toList.take k ++ [c]) := by rw [← hcl]; exact take_snoc _ k hkl
          have HM : Hid (c ∈ s.data.toList) := by show _ ∈ _; rw [← hcl]; exact List.getElem_mem _
          have HD : Hid (isD 10 c = (decide (0 ≤ hex c.toNat) && decide (hex c.toNat < (10 : Nat)))) := rfl
          obtain ⟨x, hx⟩ : ∃ x, x = hex c.toNat := ⟨_, rfl⟩
          have hx15 : x ≤ 15 := by rw [hx]; exact (hex_le c).2
          rw [← hx] at HD
          have HX := hid hx
          clear hcl hkl
          by_cases hx0 : 0 ≤ x
          · by_cases hxb : x < (10 : Nat)
            · have hOK : isD 10 c = true := by rw [HD.out, decide_eq_true hx0, decide_eq_true hxb]; rfl
              have HT2 : Hid (digs 10 (s.data.toList.take (k + 1)) = true) := by show _ = _; rw [HS.out]; unfold digs at HT ⊢; rw [List.all_append, HT.out, List.all_cons, hOK]; rfl
              have hxd : x = (dv c : Int) := by rw [hx]; exact hex_dv 10 c hOK
              have HB : Hid (big 10 (s.data.toList.take (k + 1)) = if n < 1099511627776 then n * 10 + dv c else n) := by show _ = _; rw [HS.out, big_snoc, ← HN.out]
              have hxb2 : x < 10 := by omega
              clear hOK hx hxb
              by_cases hnb : n < 1099511627776
              · have HZ : Hid (Value.int .i64 ((n : Int) * 10 + x) = .int .i64 (big 10 (s.data.toList.take (k + 1)))) := by
                  refine int_eq ?_
                  rw [HB.out, if_pos hnb, hxd]; omega
                have hnbi : (n : Int) < 1099511627776 := by omega
                clear hxd hnb HB
                have hn0 : 0 ≤ (n : Int) := by omega
                generalize (n : Int) = N at hn0 hn2i hnbi HZ ⊢
                go_wp2_with fail
                refine (RefA.hex_any _ _).mono ?_
                rintro e w2 ⟨rfl, hw2⟩
                subst hw2
                rw [← HX.out]
                go_wp2
                go_roundw
                case rel => exact ⟨k + 1, by omega, by go_num, by first | rfl | trivial, HZ.out, HT2⟩
                case measure => simp [intOf]; omega
              · have HZ : Hid (Value.int .i64 (n : Int) = .int .i64 (big 10 (s.data.toList.take (k + 1)))) := by
                  refine int_eq ?_
                  rw [HB.out, if_neg hnb]
                have hnbi : ¬ (n : Int) < 1099511627776 := by omega
                clear hxd hnb HB
                have hn0 : 0 ≤ (n : Int) := by omega
                generalize (n : Int) = N at hn0 hn2i hnbi HZ ⊢
                go_wp2_with fail
                refine (RefA.hex_any _ _).mono ?_
                rintro e w2 ⟨rfl, hw2⟩
                subst hw2
                rw [← HX.out]
                go_wp2
                go_roundw
                case rel => exact ⟨k + 1, by omega, by go_num, by first | rfl | trivial, HZ.out, HT2⟩
                case measure => simp [intOf]; omega
            · have HE := hid (HNO.out (List.all_eq_false.2 ⟨c, HM.out, by rw [HD.out, decide_eq_false hxb]; simp⟩))
              have hxb2 : ¬ x < 10 := by omega
              clear hx hxb
              go_wp2_with fail
              refine (RefA.hex_any _ _).mono ?_
              rintro e w2 ⟨rfl, hw2⟩
              subst hw2
              rw [← HX.out]
              go_wp2
              go_ret
              exact ⟨by rw [HE.out]; rfl, hb1⟩
          · have HE := hid (HNO.out (List.all_eq_false.2 ⟨c, HM.out, by rw [HD.out, decide_eq_false hx0]; simp⟩))
            clear hx
            go_wp2_with fail
            refine (RefA.hex_any _ _).mono ?_
            rintro e w2 ⟨rfl, hw2⟩
            subst hw2
            rw [← HX.out]
            go_wp2
            go_ret
            exact ⟨by rw [HE.out]; rfl, hb1⟩
        · obtain rfl : k = s.size := by omega
          have hfull : s.data.toList.take s.size = s.data.toList := List.take_of_length_le (by rw [HL.out]; exact Nat.le_refl _)
          have HE := hid (HYES.out (by have h := HT.out; rwa [hfull] at h))
          have HZ : Hid (n = big 10 s.data.toList) := by show _ = _; rw [HN.out, hfull]
          clear hfull
          go_wp2
          go_ret
          exact ⟨by rw [HE.out, HZ.out]; rfl, hb1⟩
end Go.Proofs.YtnmkkejodkjjiaaDoor.QudB
