/- IPv4 addresses: digits and numbers, as the code reads them, and as the document does. -/
import Derived.Test.YtnmkkejodkjjiaaDoorQudP
import Derived.Test.YtnmkkejodkjjiaaDoorRefA
import Derived.Test.YtnmkkejodkjjiaaDoorRegt
import Derived.Test.YtnmkkejodkjjiaaDoorShelf
namespace Go.Proofs.YtnmkkejodkjjiaaDoor.QudA
open Go.RowKit Go.Proofs.YtnmkkejodkjjiaaDoor.Base Go.Proofs.YtnmkkejodkjjiaaDoor.Base2 Go.Proofs.YtnmkkejodkjjiaaDoor.UtfA Go.Proofs.YtnmkkejodkjjiaaDoor.QudP

theorem take_snoc {α : Type} (l : List α) (k : Nat) (h : k < l.length) : l.take (k + 1) = l.take k ++ [l[k]] := List.take_succ_eq_append_getElem h
theorem digs_at (b : Nat) (L : List UInt8) (h : digs b L = true) (k : Nat) (hk : k < L.length) : isD b L[k] = true := List.all_eq_true.1 h _ (List.getElem_mem _)
theorem hex_dv (b : Nat) (c : UInt8) (h : isD b c = true) : hex c.toNat = (dv c : Int) := by
  unfold isD at h
  rw [Bool.and_eq_true] at h
  have := of_decide_eq_true h.1
  unfold dv
  omega
theorem digits_any (s : ByteArray) (b : Nat) (w : World) (hs : s.size ≤ 1073741824) : Calls Tryd.prog 74 #[.string s, .int .i64 (b : Int)] w fun e w' => e = .returned (.bool (digs b s.data.toList)) ∧ w = w' := by
  have hl : s.data.toList.length = s.size := Array.length_toList
  have HL := hid hl
  clear hl
  go_enter Tryd.func74, Tryd.ntmps74
  go_wp2
  go_loopw [5, 6] (fun vk _ wr => ∃ k : Nat, k ≤ s.size ∧ vk = .int .i64 (k : Int) ∧ wr = w ∧ Hid (digs b (s.data.toList.take k) = true)) (fun vk _ _ => s.size - (intOf vk).toNat)
  case atStart => exact ⟨0, Nat.zero_le _, rfl, rfl, rfl⟩
  case round =>
    obtain ⟨k, hk, rfl, rfl, HT⟩ := hrel
    by_cases hlt : k < s.size
    · obtain ⟨c, hc⟩ : ∃ c, s[k] = c := ⟨_, rfl⟩
      have hkl : k < s.data.toList.length := by rw [HL.out]; exact hlt
      have hcl : s.data.toList[k] = c := hc
      have HS : Hid (s.data.toList.take (k + 1) = s.data.toList.take k ++ [c]) := by rw [← hcl]; exact take_snoc _ k hkl
      have HM : Hid (c ∈ s.data.toList) := by show _ ∈ _; rw [← hcl]; exact List.getElem_mem _
      have h0 : 0 ≤ (c.toNat : Int) := by omega
      have h1 : (c.toNat : Int) ≤ 255 := by have := c.toNat_lt; omega
      have hD : isD b c = (decide (0 ≤ hex c.toNat) && decide (hex c.toNat < b)) := rfl
      have HD := hid hD
      obtain ⟨x, hx⟩ : ∃ x, x = hex c.toNat := ⟨_, rfl⟩
      rw [← hx] at HD
      have HX := hid hx
      clear hcl hkl hD hx
      by_cases hx0 : 0 ≤ x
      · by_cases hxb : x < b
        · have HOK : Hid (isD b c = true) := by show _ = _; rw [HD.out, decide_eq_true hx0, decide_eq_true hxb]; rfl
          go_wp2_with fail
          refine (UtfA.hex_any _ _ h0 h1).mono ?_
          rintro e w2 ⟨rfl, hw2⟩
          subst hw2
          rw [← HX.out]
          go_wp2
          go_roundw
          case rel => exact ⟨k + 1, by omega, by go_num, by first | rfl | trivial, by show _ = _; rw [HS.out]; unfold digs at HT ⊢; rw [List.all_append, HT.out, List.all_cons, HOK.out]; rfl⟩
          case measure => simp [intOf]; omega
        · have HE : Hid (digs b s.data.toList = false) := by
            show _ = _
            refine List.all_eq_false.2 ⟨c, HM.out, ?_⟩
            rw [HD.out, decide_eq_false hxb]; simp
          go_wp2_with fail
          refine (UtfA.hex_any _ _ h0 h1).mono ?_
          rintro e w2 ⟨rfl, hw2⟩
          subst hw2
          rw [← HX.out]
          go_wp2
          go_ret
          exact ⟨ret_bool HE.out.symm, rfl⟩
      · have HE : Hid (digs b s.data.toList = false) := by
          show _ = _
          refine List.all_eq_false.2 ⟨c, HM.out, ?_⟩
          rw [HD.out, decide_eq_false hx0]; simp
        go_wp2_with fail
        refine (UtfA.hex_any _ _ h0 h1).mono ?_
        rintro e w2 ⟨rfl, hw2⟩
        subst hw2
        rw [← HX.out]
        go_wp2
        go_ret
        exact ⟨ret_bool HE.out.symm, rfl⟩
    · obtain rfl : k = s.size := by omega
      have HE : Hid (digs b s.data.toList = true) := by
        show _ = _
        have h := HT.out
        rwa [List.take_of_length_le (by rw [HL.out]; exact Nat.le_refl _)] at h
      go_wp2
      go_ret
      exact ⟨ret_bool HE.out.symm, rfl⟩
theorem ext2 (s : ByteArray) (k : Nat) (h : k ≤ s.size) : (s.extract k s.size).data.toList = s.data.toList.drop k := by rw [Regs.ext_drop s k s.size rfl]; rfl
theorem shp_x (a x : UInt8) (r : List UInt8) (ha : a = 48) (hx : x = 120 ∨ x = 88) : shp (a :: x :: r) = (16, r) := by unfold shp; simp only; rw [if_pos ha, if_pos hx]
theorem shp_8 (a x : UInt8) (r : List UInt8) (ha : a = 48) (hx : ¬ (x = 120 ∨ x = 88)) : shp (a :: x :: r) = (8, x :: r) := by unfold shp; simp only; rw [if_pos ha, if_neg hx]
theorem shp_10 (a x : UInt8) (r : List UInt8) (ha : a ≠ 48) : shp (a :: x :: r) = (10, a :: x :: r) := by unfold shp; simp only; rw [if_neg ha]
theorem pre2 (a x p q : UInt8) (r : List UInt8) : Lib.hasPrefix (a :: x :: r) [p, q] = (decide (a = p) && decide (x = q)) := by
  unfold Lib.hasPrefix
  simp [List.isPrefixOf, Bool.beq_eq_decide_eq, eq_comm]
theorem pre1 (a p q : UInt8) : Lib.hasPrefix [a] [p, q] = false := by simp [Lib.hasPrefix, List.isPrefixOf]
theorem ne_u8 {c d : UInt8} (h : c ≠ d) : ((c.toNat : Int) == (d.toNat : Int)) = false := by
  have : c.toNat ≠ d.toNat := fun e => h (UInt8.toNat_inj.1 e)
  simp; omega
/-- What the code's number answers. -/
def NumC (L : List UInt8) : Value := match num L with
  | some v => .tuple #[.int .u64 (sat v), .bool true]
  | none => .tuple #[.int .u64 0, .bool false]
theorem numC_yes (L : List UInt8) (hne : L ≠ []) (b : Nat) (r : List UInt8) (h : shp L = (b, r)) (hd : digs b r = true) : NumC L = .tuple #[.int .u64 (sat (val b r)), .bool true] := by
  unfold NumC num; rw [if_neg hne, h]; simp only; rw [if_pos hd]
theorem numC_no (L : List UInt8) (hne : L ≠ []) (b : Nat) (r : List UInt8) (h : shp L = (b, r)) (hd : digs b r = false) : NumC L = .tuple #[.int .u64 0, .bool false] := by
  unfold NumC num; rw [if_neg hne, h]; simp only; rw [hd, if_neg (by decide)]
/-- What the document's number answers. -/
def NumR (L : List UInt8) : Int := if (num L).isSome then (big (shp L).1 (shp L).2 : Int) else -1
theorem numR_yes (L : List UInt8) (hne : L ≠ []) (b : Nat) (r : List UInt8) (h : shp L = (b, r)) (hd : digs b r = true) : NumR L = big b r := by
  unfold NumR num; rw [if_neg hne, h]; simp only; rw [if_pos hd]; rfl
theorem numR_no (L : List UInt8) (hne : L ≠ []) (b : Nat) (r : List UInt8) (h : shp L = (b, r)) (hd : digs b r = false) : NumR L = -1 := by
  unfold NumR num; rw [if_neg hne, h]; simp only; rw [hd]; rfl
set_option maxHeartbeats 4000000 in
theorem number_any (s : ByteArray) (w : World) (hs : s.size ≤ 1073741824) : Calls Tryd.prog 73 #[.string s] w fun e w' => e = .returned (NumC s.data.toList) ∧ w = w' := by
  have hsz : s.data.toList.length = s.size := Array.length_toList
  match hL : s.data.toList with
  | [] =>
    have h0 : s.size = 0 := by rw [← hsz, hL]; rfl
    have hem : (s.toList == []) = true := by rw [Lib.toList_data, hL]; rfl
    have hem2 : s.toList = [] := by rw [Lib.toList_data, hL]
    clear hL hsz
    go_enter Tryd.func73, Tryd.ntmps73
    go_wp2
    go_ret2
    exact ⟨rfl, rfl⟩
  | [a] =>
    have h1 : s.size = 1 := by rw [← hsz, hL]; rfl
    have hzs : s.size ≤ 1073741824 := hs
    have hne : s.toList ≠ [] := by rw [Lib.toList_data, hL]; simp
    have hem : (s.toList == []) = false := by rw [Lib.toList_data, hL]; rfl
    have hem2 : s.toList.isEmpty = false := by rw [Lib.toList_data, hL]; rfl
    have HL1 := hid hL
    have HYES : Hid (digs 10 s.data.toList = true → NumC s.data.toList = .tuple #[.int .u64 (sat (val 10 s.data.toList)), .bool true]) := fun h => numC_yes _ (by rw [hL]; simp) 10 _ (by rw [hL]; rfl) h
    have HNO : Hid (digs 10 s.data.toList = false → NumC s.data.toList = .tuple #[.int .u64 0, .bool false]) := fun h => numC_no _ (by rw [hL]; simp) 10 _ (by rw [hL]; rfl) h
    have g0 : ∀ h, s[0]'h = a := fun h => by
      have : s.data.toList[0]? = some a := by rw [hL]; rfl
      have := List.getElem?_eq_some_iff.1 this
      obtain ⟨_, e⟩ := this
      exact e
    have HP : Hid (∀ q, Lib.hasPrefix s.data.toList [48, q] = false) := by intro q; rw [HL1.out, pre1]
    rw [← hL]
    clear hL hsz hne
    cases ha2 : ((a.toNat : Int) == 48)
    all_goals
      go_enter Tryd.func73, Tryd.ntmps73
      go_wp2_with fail
      refine (Tryd.strings_HasPrefix s ⟨#[48, 120]⟩ _).mono ?_
      rintro e w2 ⟨rfl, hw2⟩
      subst hw2
      rw [show (⟨#[48, 120]⟩ : ByteArray).data.toList = [48, 120] from rfl, HP.out]
      go_wp2_with fail
      refine (Tryd.strings_HasPrefix s ⟨#[48, 88]⟩ _).mono ?_
      rintro e w2 ⟨rfl, hw2⟩
      subst hw2
      rw [show (⟨#[48, 88]⟩ : ByteArray).data.toList = [48, 88] from rfl, HP.out]
      go_wp2_with fail
      refine (digits_any s 10 _ hzs).mono ?_
      rintro e w2 ⟨rfl, hw2⟩
      subst hw2
      cases hd : digs 10 s.data.toList with
      | false =>
        have HE := hid (HNO.out hd)
        clear hd
        go_wp2
        go_ret2
        exact ⟨by rw [HE.out]; rfl, rfl⟩
      | true =>
        have HE := hid (HYES.out hd)
        have HD := hid hd
        have HL : Hid (s.data.toList.length = s.size) := Array.length_toList
        clear hd
        go_wp2
        go_loopw [6, 7] (fun vn vk wr => ∃ k : Nat, k ≤ s.size ∧ vk = .int .i64 (k : Int) ∧ wr = w2 ∧ vn = .int .u64 (sat (val 10 (s.data.toList.take k)))) (fun _ vk _ => s.size - (intOf vk).toNat)
        case atStart => exact ⟨0, Nat.zero_le _, rfl, rfl, rfl⟩
        case round =>
          obtain ⟨k, hk, rfl, rfl, rfl⟩ := hrel
          obtain ⟨v, hv⟩ : ∃ v, v = val 10 (s.data.toList.take k) := ⟨_, rfl⟩
          obtain ⟨n, hn⟩ : ∃ n, n = sat v := ⟨_, rfl⟩
          have hn2 : n ≤ 4294967296 := by rw [hn]; unfold sat; omega
          rw [← hv, ← hn]
          have HV := hid hv
          have HN := hid hn
          clear hv hn
          by_cases hlt : k < s.size
          · obtain ⟨c, hc⟩ : ∃ c, s[k] = c := ⟨_, rfl⟩
            have hkl : k < s.data.toList.length := by rw [HL.out]; exact hlt
            have hcl : s.data.toList[k] = c := hc
            have HS : Hid (s.data.toList.take (k + 1) = s.data.toList.take k ++ [c]) := by rw [← hcl]; exact take_snoc _ k hkl
            have hD : isD 10 c = true := by rw [← hcl]; exact digs_at _ _ HD.out k hkl
            have HX := hid (hex_dv 10 c hD)
            obtain ⟨d, hd⟩ : ∃ d, d = dv c := ⟨_, rfl⟩
            have hd15 : d ≤ 15 := by rw [hd]; exact dv_le c
            rw [← hd] at HX
            have HDD := hid hd
            have h0 : 0 ≤ (c.toNat : Int) := by omega
            have h1 : (c.toNat : Int) ≤ 255 := by have := c.toNat_lt; omega
            have HN2 : Hid (sat (val 10 (s.data.toList.take (k + 1))) = min (n * 10 + d) 4294967296) := by
              show _ = _
              rw [HS.out, val_snoc, ← HV.out, ← HDD.out, HN.out, sat_step v 10 d (by omega)]
            clear hcl hkl hD hd
            have HZ : Hid (Value.int .u64 (min ((n : Int) * 10 + (d : Int)) 4294967296) = .int .u64 (sat (val 10 (s.data.toList.take (k + 1))))) := by
              refine int_eq ?_
              rw [HN2.out]; omega
            go_wp2_with fail
            refine (UtfA.hex_any _ _ h0 h1).mono ?_
            rintro e w2 ⟨rfl, hw2⟩
            subst hw2
            rw [HX.out]
            go_wp2
            go_roundw
            case rel => exact ⟨k + 1, by omega, by go_num, by first | rfl | trivial, HZ.out⟩
            case measure => simp [intOf]; omega
          · obtain rfl : k = s.size := by omega
            have HZ : Hid (n = sat (val 10 s.data.toList)) := by
              show _ = _
              rw [HN.out, HV.out, List.take_of_length_le (by rw [HL.out]; exact Nat.le_refl _)]
            go_wp2
            go_ret2
            exact ⟨by rw [HE.out, HZ.out]; rfl, rfl⟩
  | a :: x :: r =>
    have h1 : 2 ≤ s.size := by rw [← hsz, hL]; simp
    have h1i : (2 : Int) ≤ (s.size : Int) := by omega
    have h0i : (0 : Int) < (s.size : Int) := by omega
    have h1j : (1 : Int) < (s.size : Int) := by omega
    have hem : (s.toList == []) = false := by rw [Lib.toList_data, hL]; rfl
    have hem2 : s.toList.isEmpty = false := by rw [Lib.toList_data, hL]; rfl
    have g0 : ∀ h, s[0]'h = a := fun h => by
      have : s.data.toList[0]? = some a := by rw [hL]; rfl
      have := List.getElem?_eq_some_iff.1 this
      obtain ⟨_, e⟩ := this
      exact e
    have HL1 := hid hL
    have hneL : s.data.toList ≠ [] := by rw [hL]; simp
    rw [← hL]
    by_cases ha : a = 48
    · by_cases hx : x = 120 ∨ x = 88
      · obtain ⟨Z, hZ⟩ : ∃ Z, Z = s.extract 2 s.size := ⟨_, rfl⟩
        have hZd : Z.data.toList = r := by rw [hZ, ext2 _ _ h1, hL]; rfl
        have hZs : s.extract 2 s.size = Z := hZ.symm
        have hzs : Z.size ≤ 1073741824 := by have : Z.data.toList.length = Z.size := Array.length_toList; rw [hZd] at this; rw [hL] at hsz; simp at hsz; omega
        have HYES : Hid (digs 16 Z.data.toList = true → NumC s.data.toList = .tuple #[.int .u64 (sat (val 16 Z.data.toList)), .bool true]) := fun h => numC_yes _ hneL 16 _ (by rw [hL, shp_x _ _ _ ha hx, hZd]) h
        have HNO : Hid (digs 16 Z.data.toList = false → NumC s.data.toList = .tuple #[.int .u64 0, .bool false]) := fun h => numC_no _ hneL 16 _ (by rw [hL, shp_x _ _ _ ha hx, hZd]) h
        clear hL hsz hZd hZ hneL
        rcases hx with hx | hx
        · have HP : Hid (Lib.hasPrefix s.data.toList [48, 120] = true) := by show _ = _; rw [HL1.out, pre2, ha, hx]; rfl
          clear ha hx g0
          go_enter Tryd.func73, Tryd.ntmps73
          go_wp2_with fail
          refine (Tryd.strings_HasPrefix s ⟨#[48, 120]⟩ _).mono ?_
          rintro e w2 ⟨rfl, hw2⟩
          subst hw2
          rw [show (⟨#[48, 120]⟩ : ByteArray).data.toList = [48, 120] from rfl, HP.out]
          go_wp2_with fail
          refine (digits_any Z 16 _ hzs).mono ?_
          rintro e w2 ⟨rfl, hw2⟩
          subst hw2
          cases hd : digs 16 Z.data.toList with
          | false =>
            have HE := hid (HNO.out hd)
            clear hd
            go_wp2
            go_ret2
            exact ⟨by rw [HE.out]; rfl, rfl⟩
          | true =>
            have HE := hid (HYES.out hd)
            have HD := hid hd
            have HL : Hid (Z.data.toList.length = Z.size) := Array.length_toList
            clear hd
            go_wp2
            go_loopw [6, 7] (fun vn vk wr => ∃ k : Nat, k ≤ Z.size ∧ vk = .int .i64 (k : Int) ∧ wr = w2 ∧ vn = .int .u64 (sat (val 16 (Z.data.toList.take k)))) (fun _ vk _ => Z.size - (intOf vk).toNat)
            case atStart => exact ⟨0, Nat.zero_le _, rfl, rfl, rfl⟩
            case round =>
              obtain ⟨k, hk, rfl, rfl, rfl⟩ := hrel
              obtain ⟨v, hv⟩ : ∃ v, v = val 16 (Z.data.toList.take k) := ⟨_, rfl⟩
              obtain ⟨n, hn⟩ : ∃ n, n = sat v := ⟨_, rfl⟩
              have hn2 : n ≤ 4294967296 := by rw [hn]; unfold sat; omega
              rw [← hv, ← hn]
              have HV := hid hv
              have HN := hid hn
              clear hv hn
              by_cases hlt : k < Z.size
              · obtain ⟨c, hc⟩ : ∃ c, Z[k] = c := ⟨_, rfl⟩
                have hkl : k < Z.data.toList.length := by rw [HL.out]; exact hlt
                have hcl : Z.data.toList[k] = c := hc
                have HS : Hid (Z.data.toList.take (k + 1) = Z.data.toList.take k ++ [c]) := by rw [← hcl]; exact take_snoc _ k hkl
                have hD : isD 16 c = true := by rw [← hcl]; exact digs_at _ _ HD.out k hkl
                have HX := hid (hex_dv 16 c hD)
                obtain ⟨d, hd⟩ : ∃ d, d = dv c := ⟨_, rfl⟩
                have hd15 : d ≤ 15 := by rw [hd]; exact dv_le c
                rw [← hd] at HX
                have HDD := hid hd
                have h0 : 0 ≤ (c.toNat : Int) := by omega
                have h1 : (c.toNat : Int) ≤ 255 := by have := c.toNat_lt; omega
                have HN2 : Hid (sat (val 16 (Z.data.toList.take (k + 1))) = min (n * 16 + d) 4294967296) := by
                  show _ = _
                  rw [HS.out, val_snoc, ← HV.out, ← HDD.out, HN.out, sat_step v 16 d (by omega)]
                clear hcl hkl hD hd
                have HZ : Hid (Value.int .u64 (min ((n : Int) * 16 + (d : Int)) 4294967296) = .int .u64 (sat (val 16 (Z.data.toList.take (k + 1))))) := by
                  refine int_eq ?_
                  rw [HN2.out]; omega
                go_wp2_with fail
                refine (UtfA.hex_any _ _ h0 h1).mono ?_
                rintro e w2 ⟨rfl, hw2⟩
                subst hw2
                rw [HX.out]
                go_wp2
                go_roundw
                case rel => exact ⟨k + 1, by omega, by go_num, by first | rfl | trivial, HZ.out⟩
                case measure => simp [intOf]; omega
              · obtain rfl : k = Z.size := by omega
                have HZ : Hid (n = sat (val 16 Z.data.toList)) := by
                  show _ = _
                  rw [HN.out, HV.out, List.take_of_length_le (by rw [HL.out]; exact Nat.le_refl _)]
                go_wp2
                go_ret2
                exact ⟨by rw [HE.out, HZ.out]; rfl, rfl⟩
        · have HP : Hid (Lib.hasPrefix s.data.toList [48, 120] = false) := by show _ = _; rw [HL1.out, pre2, ha, hx]; rfl
          have HP2 : Hid (Lib.hasPrefix s.data.toList [48, 88] = true) := by show _ = _; rw [HL1.out, pre2, ha, hx]; rfl
          clear ha hx g0
          go_enter Tryd.func73, Tryd.ntmps73
          go_wp2_with fail
          refine (Tryd.strings_HasPrefix s ⟨#[48, 120]⟩ _).mono ?_
          rintro e w2 ⟨rfl, hw2⟩
          subst hw2
          rw [show (⟨#[48, 120]⟩ : ByteArray).data.toList = [48, 120] from rfl, HP.out]
          go_wp2_with fail
          refine (Tryd.strings_HasPrefix s ⟨#[48, 88]⟩ _).mono ?_
          rintro e w2 ⟨rfl, hw2⟩
          subst hw2
          rw [show (⟨#[48, 88]⟩ : ByteArray).data.toList = [48, 88] from rfl, HP2.out]
          go_wp2_with fail
          refine (digits_any Z 16 _ hzs).mono ?_
          rintro e w2 ⟨rfl, hw2⟩
          subst hw2
          cases hd : digs 16 Z.data.toList with
          | false =>
            have HE := hid (HNO.out hd)
            clear hd
            go_wp2
            go_ret2
            exact ⟨by rw [HE.out]; rfl, rfl⟩
          | true =>
            have HE := hid (HYES.out hd)
            have HD := hid hd
            have HL : Hid (Z.data.toList.length = Z.size) := Array.length_toList
            clear hd
            go_wp2
            go_loopw [6, 7] (fun vn vk wr => ∃ k : Nat, k ≤ Z.size ∧ vk = .int .i64 (k : Int) ∧ wr = w2 ∧ vn = .int .u64 (sat (val 16 (Z.data.toList.take k)))) (fun _ vk _ => Z.size - (intOf vk).toNat)
            case atStart => exact ⟨0, Nat.zero_le _, rfl, rfl, rfl⟩
            case round =>
              obtain ⟨k, hk, rfl, rfl, rfl⟩ := hrel
              obtain ⟨v, hv⟩ : ∃ v, v = val 16 (Z.data.toList.take k) := ⟨_, rfl⟩
              obtain ⟨n, hn⟩ : ∃ n, n = sat v := ⟨_, rfl⟩
              have hn2 : n ≤ 4294967296 := by rw [hn]; unfold sat; omega
              rw [← hv, ← hn]
              have HV := hid hv
              have HN := hid hn
              clear hv hn
              by_cases hlt : k < Z.size
              · obtain ⟨c, hc⟩ : ∃ c, Z[k] = c := ⟨_, rfl⟩
                have hkl : k < Z.data.toList.length := by rw [HL.out]; exact hlt
                have hcl : Z.data.toList[k] = c := hc
                have HS : Hid (Z.data.toList.take (k + 1) = Z.data.toList.take k ++ [c]) := by rw [← hcl]; exact take_snoc _ k hkl
                have hD : isD 16 c = true := by rw [← hcl]; exact digs_at _ _ HD.out k hkl
                have HX := hid (hex_dv 16 c hD)
                obtain ⟨d, hd⟩ : ∃ d, d = dv c := ⟨_, rfl⟩
                have hd15 : d ≤ 15 := by rw [hd]; exact dv_le c
                rw [← hd] at HX
                have HDD := hid hd
                have h0 : 0 ≤ (c.toNat : Int) := by omega
                have h1 : (c.toNat : Int) ≤ 255 := by have := c.toNat_lt; omega
                have HN2 : Hid (sat (val 16 (Z.data.toList.take (k + 1))) = min (n * 16 + d) 4294967296) := by
                  show _ = _
                  rw [HS.out, val_snoc, ← HV.out, ← HDD.out, HN.out, sat_step v 16 d (by omega)]
                clear hcl hkl hD hd
                have HZ : Hid (Value.int .u64 (min ((n : Int) * 16 + (d : Int)) 4294967296) = .int .u64 (sat (val 16 (Z.data.toList.take (k + 1))))) := by
                  refine int_eq ?_
                  rw [HN2.out]; omega
                go_wp2_with fail
                refine (UtfA.hex_any _ _ h0 h1).mono ?_
                rintro e w2 ⟨rfl, hw2⟩
                subst hw2
                rw [HX.out]
                go_wp2
                go_roundw
                case rel => exact ⟨k + 1, by omega, by go_num, by first | rfl | trivial, HZ.out⟩
                case measure => simp [intOf]; omega
              · obtain rfl : k = Z.size := by omega
                have HZ : Hid (n = sat (val 16 Z.data.toList)) := by
                  show _ = _
                  rw [HN.out, HV.out, List.take_of_length_le (by rw [HL.out]; exact Nat.le_refl _)]
                go_wp2
                go_ret2
                exact ⟨by rw [HE.out, HZ.out]; rfl, rfl⟩
      · obtain ⟨Z, hZ⟩ : ∃ Z, Z = s.extract 1 s.size := ⟨_, rfl⟩
        have hZd : Z.data.toList = x :: r := by rw [hZ, ext2 _ _ (by omega), hL]; rfl
        have hZs : s.extract 1 s.size = Z := hZ.symm
        have hzs : Z.size ≤ 1073741824 := by have : Z.data.toList.length = Z.size := Array.length_toList; rw [hZd] at this; rw [hL] at hsz; simp at hsz this; omega
        have HYES : Hid (digs 8 Z.data.toList = true → NumC s.data.toList = .tuple #[.int .u64 (sat (val 8 Z.data.toList)), .bool true]) := fun h => numC_yes _ hneL 8 _ (by rw [hL, shp_8 _ _ _ ha hx, hZd]) h
        have HNO : Hid (digs 8 Z.data.toList = false → NumC s.data.toList = .tuple #[.int .u64 0, .bool false]) := fun h => numC_no _ hneL 8 _ (by rw [hL, shp_8 _ _ _ ha hx, hZd]) h
        have HP : Hid (Lib.hasPrefix s.data.toList [48, 120] = false) := by show _ = _; rw [HL1.out, pre2, decide_eq_false (fun h => hx (.inl h)), Bool.and_false]
        have HP2 : Hid (Lib.hasPrefix s.data.toList [48, 88] = false) := by show _ = _; rw [HL1.out, pre2, decide_eq_false (fun h => hx (.inr h)), Bool.and_false]
        have g48 : ∀ h, s[0]'h = 48 := fun h => by rw [g0 h, ha]
        clear hL hsz hZd hZ hneL ha hx g0
        go_enter Tryd.func73, Tryd.ntmps73
        go_wp2_with fail
        refine (Tryd.strings_HasPrefix s ⟨#[48, 120]⟩ _).mono ?_
        rintro e w2 ⟨rfl, hw2⟩
        subst hw2
        rw [show (⟨#[48, 120]⟩ : ByteArray).data.toList = [48, 120] from rfl, HP.out]
        go_wp2_with fail
        refine (Tryd.strings_HasPrefix s ⟨#[48, 88]⟩ _).mono ?_
        rintro e w2 ⟨rfl, hw2⟩
        subst hw2
        rw [show (⟨#[48, 88]⟩ : ByteArray).data.toList = [48, 88] from rfl, HP2.out]
        go_wp2_with fail
        refine (digits_any Z 8 _ hzs).mono ?_
        rintro e w2 ⟨rfl, hw2⟩
        subst hw2
        cases hd : digs 8 Z.data.toList with
        | false =>
          have HE := hid (HNO.out hd)
          clear hd
          go_wp2
          go_ret2
          exact ⟨by rw [HE.out]; rfl, rfl⟩
        | true =>
          have HE := hid (HYES.out hd)
          have HD := hid hd
          have HL : Hid (Z.data.toList.length = Z.size) := Array.length_toList
          clear hd
          go_wp2
          go_loopw [6, 7] (fun vn vk wr => ∃ k : Nat, k ≤ Z.size ∧ vk = .int .i64 (k : Int) ∧ wr = w2 ∧ vn = .int .u64 (sat (val 8 (Z.data.toList.take k)))) (fun _ vk _ => Z.size - (intOf vk).toNat)
          case atStart => exact ⟨0, Nat.zero_le _, rfl, rfl, rfl⟩
          case round =>
            obtain ⟨k, hk, rfl, rfl, rfl⟩ := hrel
            obtain ⟨v, hv⟩ : ∃ v, v = val 8 (Z.data.toList.take k) := ⟨_, rfl⟩
            obtain ⟨n, hn⟩ : ∃ n, n = sat v := ⟨_, rfl⟩
            have hn2 : n ≤ 4294967296 := by rw [hn]; unfold sat; omega
            rw [← hv, ← hn]
            have HV := hid hv
            have HN := hid hn
            clear hv hn
            by_cases hlt : k < Z.size
            · obtain ⟨c, hc⟩ : ∃ c, Z[k] = c := ⟨_, rfl⟩
              have hkl : k < Z.data.toList.length := by rw [HL.out]; exact hlt
              have hcl : Z.data.toList[k] = c := hc
              have HS : Hid (Z.data.toList.take (k + 1) = Z.data.toList.take k ++ [c]) := by rw [← hcl]; exact take_snoc _ k hkl
              have hD : isD 8 c = true := by rw [← hcl]; exact digs_at _ _ HD.out k hkl
              have HX := hid (hex_dv 8 c hD)
              obtain ⟨d, hd⟩ : ∃ d, d = dv c := ⟨_, rfl⟩
              have hd15 : d ≤ 15 := by rw [hd]; exact dv_le c
              rw [← hd] at HX
              have HDD := hid hd
              have h0 : 0 ≤ (c.toNat : Int) := by omega
              have h1 : (c.toNat : Int) ≤ 255 := by have := c.toNat_lt; omega
              have HN2 : Hid (sat (val 8 (Z.data.toList.take (k + 1))) = min (n * 8 + d) 4294967296) := by
                show _ = _
                rw [HS.out, val_snoc, ← HV.out, ← HDD.out, HN.out, sat_step v 8 d (by omega)]
              clear hcl hkl hD hd
              have HZ : Hid (Value.int .u64 (min ((n : Int) * 8 + (d : Int)) 4294967296) = .int .u64 (sat (val 8 (Z.data.toList.take (k + 1))))) := by
                refine int_eq ?_
                rw [HN2.out]; omega
              go_wp2_with fail
              refine (UtfA.hex_any _ _ h0 h1).mono ?_
              rintro e w2 ⟨rfl, hw2⟩
              subst hw2
              rw [HX.out]
              go_wp2
              go_roundw
              case rel => exact ⟨k + 1, by omega, by go_num, by first | rfl | trivial, HZ.out⟩
              case measure => simp [intOf]; omega
            · obtain rfl : k = Z.size := by omega
              have HZ : Hid (n = sat (val 8 Z.data.toList)) := by
                show _ = _
                rw [HN.out, HV.out, List.take_of_length_le (by rw [HL.out]; exact Nat.le_refl _)]
              go_wp2
              go_ret2
              exact ⟨by rw [HE.out, HZ.out]; rfl, rfl⟩
    · have HYES : Hid (digs 10 s.data.toList = true → NumC s.data.toList = .tuple #[.int .u64 (sat (val 10 s.data.toList)), .bool true]) := fun h => numC_yes _ hneL 10 _ (by rw [hL, shp_10 _ _ _ ha]) h
      have HNO : Hid (digs 10 s.data.toList = false → NumC s.data.toList = .tuple #[.int .u64 0, .bool false]) := fun h => numC_no _ hneL 10 _ (by rw [hL, shp_10 _ _ _ ha]) h
      have HP : Hid (∀ q, Lib.hasPrefix s.data.toList [48, q] = false) := by intro q; rw [HL1.out, pre2, decide_eq_false ha, Bool.false_and]
      have ha2 : ((a.toNat : Int) == 48) = false := ne_u8 (d := 48) ha
      have hzs : s.size ≤ 1073741824 := hs
      clear hL hsz hneL ha
      go_enter Tryd.func73, Tryd.ntmps73
      go_wp2_with fail
      refine (Tryd.strings_HasPrefix s ⟨#[48, 120]⟩ _).mono ?_
      rintro e w2 ⟨rfl, hw2⟩
      subst hw2
      rw [show (⟨#[48, 120]⟩ : ByteArray).data.toList = [48, 120] from rfl, HP.out]
      go_wp2_with fail
      refine (Tryd.strings_HasPrefix s ⟨#[48, 88]⟩ _).mono ?_
      rintro e w2 ⟨rfl, hw2⟩
      subst hw2
      rw [show (⟨#[48, 88]⟩ : ByteArray).data.toList = [48, 88] from rfl, HP.out]
      go_wp2_with fail
      refine (digits_any s 10 _ hzs).mono ?_
      rintro e w2 ⟨rfl, hw2⟩
      subst hw2
      cases hd : digs 10 s.data.toList with
      | false =>
        have HE := hid (HNO.out hd)
        clear hd
        go_wp2
        go_ret2
        exact ⟨by rw [HE.out]; rfl, rfl⟩
      | true =>
        have HE := hid (HYES.out hd)
        have HD := hid hd
        have HL : Hid (s.data.toList.length = s.size) := Array.length_toList
        clear hd
        go_wp2
        go_loopw [6, 7] (fun vn vk wr => ∃ k : Nat, k ≤ s.size ∧ vk = .int .i64 (k : Int) ∧ wr = w2 ∧ vn = .int .u64 (sat (val 10 (s.data.toList.take k)))) (fun _ vk _ => s.size - (intOf vk).toNat)
        case atStart => exact ⟨0, Nat.zero_le _, rfl, rfl, rfl⟩
        case round =>
          obtain ⟨k, hk, rfl, rfl, rfl⟩ := hrel
          obtain ⟨v, hv⟩ : ∃ v, v = val 10 (s.data.toList.take k) := ⟨_, rfl⟩
          obtain ⟨n, hn⟩ : ∃ n, n = sat v := ⟨_, rfl⟩
          have hn2 : n ≤ 4294967296 := by rw [hn]; unfold sat; omega
          rw [← hv, ← hn]
          have HV := hid hv
          have HN := hid hn
          clear hv hn
          by_cases hlt : k < s.size
          · obtain ⟨c, hc⟩ : ∃ c, s[k] = c := ⟨_, rfl⟩
            have hkl : k < s.data.toList.length := by rw [HL.out]; exact hlt
            have hcl : s.data.toList[k] = c := hc
            have HS : Hid (s.data.toList.take (k + 1) = s.data.toList.take k ++ [c]) := by rw [← hcl]; exact take_snoc _ k hkl
            have hD : isD 10 c = true := by rw [← hcl]; exact digs_at _ _ HD.out k hkl
            have HX := hid (hex_dv 10 c hD)
            obtain ⟨d, hd⟩ : ∃ d, d = dv c := ⟨_, rfl⟩
            have hd15 : d ≤ 15 := by rw [hd]; exact dv_le c
            rw [← hd] at HX
            have HDD := hid hd
            have h0 : 0 ≤ (c.toNat : Int) := by omega
            have h1 : (c.toNat : Int) ≤ 255 := by have := c.toNat_lt; omega
            have HN2 : Hid (sat (val 10 (s.data.toList.take (k + 1))) = min (n * 10 + d) 4294967296) := by
              show _ = _
              rw [HS.out, val_snoc, ← HV.out, ← HDD.out, HN.out, sat_step v 10 d (by omega)]
            clear hcl hkl hD hd
            have HZ : Hid (Value.int .u64 (min ((n : Int) * 10 + (d : Int)) 4294967296) = .int .u64 (sat (val 10 (s.data.toList.take (k + 1))))) := by
              refine int_eq ?_
              rw [HN2.out]; omega
            go_wp2_with fail
            refine (UtfA.hex_any _ _ h0 h1).mono ?_
            rintro e w2 ⟨rfl, hw2⟩
            subst hw2
            rw [HX.out]
            go_wp2
            go_roundw
            case rel => exact ⟨k + 1, by omega, by go_num, by first | rfl | trivial, HZ.out⟩
            case measure => simp [intOf]; omega
          · obtain rfl : k = s.size := by omega
            have HZ : Hid (n = sat (val 10 s.data.toList)) := by
              show _ = _
              rw [HN.out, HV.out, List.take_of_length_le (by rw [HL.out]; exact Nat.le_refl _)]
            go_wp2
            go_ret2
            exact ⟨by rw [HE.out, HZ.out]; rfl, rfl⟩
end Go.Proofs.YtnmkkejodkjjiaaDoor.QudA
