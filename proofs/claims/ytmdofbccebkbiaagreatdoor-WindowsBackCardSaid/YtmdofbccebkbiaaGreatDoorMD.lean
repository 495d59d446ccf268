/- Texts that belong together: Ov, QudB, Rh, Ri, wS, QudF, Bc, QudH, VP. -/
import Derived.Test.YtmdofbccebkbiaaGreatDoorMA
import Derived.Test.YtmdofbccebkbiaaGreatDoorShelf
import Derived.Test.YtmdofbccebkbiaaGreatDoorShelf3
import Derived.Test.YtmdofbccebkbiaaGreatDoorME
import Derived.Laws.BitsAllLaws
set_option linter.unusedSimpArgs false
set_option linter.unusedVariables false
set_option maxRecDepth 100000
set_option maxHeartbeats 64000000
namespace Go.Proofs.YtmdofbccebkbiaaGreatDoor.Ov
open Go.RowKit Base aT dM mX
theorem take_snoc {α : Type} (l : List α) (k : Nat) (h : k < l.length) : l.take (k + 1) = l.take k ++ [l[k]] := List.take_succ_eq_append_getElem h
theorem CQ (b : Nat) (L : List UInt8) (h : dH b L = true) (k : Nat) (hk : k < L.length) : jV b L[k] = true := List.all_eq_true.1 h _ (List.getElem_mem _)
theorem pX (b : Nat) (c : UInt8) (h : jV b c = true) : hex c.toNat = (dv c : Int) := by
 unfold jV at h
 rw [Bool.and_eq_true] at h
 have := of_decide_eq_true h.1
 unfold dv
 omega
theorem nZ (s : ByteArray) (b : Nat) (w : World) (hs : s.size ≤ 1073741824) : Calls Tryz.prog 256 #[.string s, .int .i64 (b : Int)] w fun e w' => e = .returned (.bool (dH b s.data.toList)) ∧ w = w' := by
 have hl : s.data.toList.length = s.size := Array.length_toList
 have HL := hid hl
 clear hl
 go_enter Tryz.func256, Tryz.ntmps256
 go_wp2
 go_loopw [5, 6] (fun vk _ wr => ∃ k : Nat, k ≤ s.size ∧ vk = .int .i64 (k : Int) ∧ wr = w ∧ Hid (dH b (s.data.toList.take k) = true)) (fun vk _ _ => s.size - (intOf vk).toNat)
 case atStart => exact ⟨0, Nat.zero_le _, rfl, rfl, rfl⟩
 case round =>
  obtain ⟨k, hk, rfl, rfl, HT⟩ := hrel
  by_cases hlt : k < s.size
  ·obtain ⟨c, hc⟩ : ∃ c, s[k] = c := ⟨_, rfl⟩
   have hkl : k < s.data.toList.length := by rw [HL.out]; exact hlt
   have hcl : s.data.toList[k] = c := hc
   have HS : Hid (s.data.toList.take (k + 1) = s.data.toList.take k ++ [c]) := by rw [← hcl]; exact take_snoc _ k hkl
   have HM : Hid (c ∈ s.data.toList) := by show _ ∈ _; rw [← hcl]; exact List.getElem_mem _
   have h0 : 0 ≤ (c.toNat : Int) := by omega
   have h1 : (c.toNat : Int) ≤ 255 := by have := c.toNat_lt; omega
   have hD : jV b c = (decide (0 ≤ hex c.toNat) && decide (hex c.toNat < b)) := rfl
   have HD := hid hD
   obtain ⟨x, hx⟩ : ∃ x, x = hex c.toNat := ⟨_, rfl⟩
   rw [← hx] at HD
   have HX := hid hx
   clear hcl hkl hD hx
   by_cases hx0 : 0 ≤ x
   ·by_cases hxb : x < b
    ·have HOK : Hid (jV b c = true) := by show _ = _; rw [HD.out, decide_eq_true hx0, decide_eq_true hxb]; rfl
     go_wp2_with fail
     refine (dM.dG _ _ h0 h1).mono ?_
     rintro e w2 ⟨rfl, hw2⟩
     subst hw2
     rw [← HX.out]
     go_wp2
     go_roundw
     case rel => exact ⟨k + 1, by omega, by go_num, by first | rfl | trivial, by show _ = _; rw [HS.out]; unfold dH at HT ⊢; rw [List.all_append, HT.out, List.all_cons, HOK.out]; rfl⟩
     case measure => simp [intOf]; omega
    ·have HE : Hid (dH b s.data.toList = false) := by
      show _ = _
      refine List.all_eq_false.2 ⟨c, HM.out, ?_⟩
      rw [HD.out, decide_eq_false hxb]; simp
     go_wp2_with fail
     refine (dM.dG _ _ h0 h1).mono ?_
     rintro e w2 ⟨rfl, hw2⟩
     subst hw2
     rw [← HX.out]
     go_wp2
     go_ret
     exact ⟨aj HE.out.symm, rfl⟩
   ·have HE : Hid (dH b s.data.toList = false) := by
     show _ = _
     refine List.all_eq_false.2 ⟨c, HM.out, ?_⟩
     rw [HD.out, decide_eq_false hx0]; simp
    go_wp2_with fail
    refine (dM.dG _ _ h0 h1).mono ?_
    rintro e w2 ⟨rfl, hw2⟩
    subst hw2
    rw [← HX.out]
    go_wp2
    go_ret
    exact ⟨aj HE.out.symm, rfl⟩
  ·obtain rfl : k = s.size := by omega
   have HE : Hid (dH b s.data.toList = true) := by
    show _ = _
    have h := HT.out
    rwa [List.take_of_length_le (by rw [HL.out]; exact Nat.le_refl _)] at h
   go_wp2
   go_ret
   exact ⟨aj HE.out.symm, rfl⟩
theorem ext2 (s : ByteArray) (k : Nat) (h : k ≤ s.size) : (s.extract k s.size).data.toList = s.data.toList.drop k := by rw [eH.ext_drop s k s.size rfl]; rfl
theorem Vo (a x : UInt8) (r : List UInt8) (ha : a = 48) (hx : x = 120 ∨ x = 88) : BZ (a :: x :: r) = (16, r) := by unfold BZ; simp only; rw [if_pos ha, if_pos hx]
theorem Vm (a x : UInt8) (r : List UInt8) (ha : a = 48) (hx : ¬ (x = 120 ∨ x = 88)) : BZ (a :: x :: r) = (8, x :: r) := by unfold BZ; simp only; rw [if_pos ha, if_neg hx]
theorem NH (a x : UInt8) (r : List UInt8) (ha : a ≠ 48) : BZ (a :: x :: r) = (10, a :: x :: r) := by unfold BZ; simp only; rw [if_neg ha]
theorem pre2 (a x p q : UInt8) (r : List UInt8) : Lib.hasPrefix (a :: x :: r) [p, q] = (decide (a = p) && decide (x = q)) := by
 unfold Lib.hasPrefix
 simp [List.isPrefixOf, Bool.beq_eq_decide_eq, eq_comm]
theorem pre1 (a p q : UInt8) : Lib.hasPrefix [a] [p, q] = false := by simp [Lib.hasPrefix, List.isPrefixOf]
theorem uq {c d : UInt8} (h : c ≠ d) : ((c.toNat : Int) == (d.toNat : Int)) = false := by
 have : c.toNat ≠ d.toNat := fun e => h (UInt8.toNat_inj.1 e)
 simp; omega
def xH (L : List UInt8) : Value := match num L with
 | some v => .tuple #[.int .u64 (sat v), .bool true]
 | none => .tuple #[.int .u64 0, .bool false]
theorem Dt (L : List UInt8) (hne : L ≠ []) (b : Nat) (r : List UInt8) (h : BZ L = (b, r)) (hd : dH b r = true) : xH L = .tuple #[.int .u64 (sat (val b r)), .bool true] := by
 unfold xH num; rw [if_neg hne, h]; simp only; rw [if_pos hd]
theorem Gh (L : List UInt8) (hne : L ≠ []) (b : Nat) (r : List UInt8) (h : BZ L = (b, r)) (hd : dH b r = false) : xH L = .tuple #[.int .u64 0, .bool false] := by
 unfold xH num; rw [if_neg hne, h]; simp only; rw [hd, if_neg (by decide)]
def xI (L : List UInt8) : Int := if (num L).isSome then (big (BZ L).1 (BZ L).2 : Int) else -1
theorem Du (L : List UInt8) (hne : L ≠ []) (b : Nat) (r : List UInt8) (h : BZ L = (b, r)) (hd : dH b r = true) : xI L = big b r := by
 unfold xI num; rw [if_neg hne, h]; simp only; rw [if_pos hd]; rfl
theorem Gi (L : List UInt8) (hne : L ≠ []) (b : Nat) (r : List UInt8) (h : BZ L = (b, r)) (hd : dH b r = false) : xI L = -1 := by
 unfold xI num; rw [if_neg hne, h]; simp only; rw [hd]; rfl
theorem dn (s : ByteArray) (w : World) (hs : s.size ≤ 1073741824) : Calls Tryz.prog 255 #[.string s] w fun e w' => e = .returned (xH s.data.toList) ∧ w = w' := by
 have hsz : s.data.toList.length = s.size := Array.length_toList
 match hL : s.data.toList with
 | [] =>
  have h0 : s.size = 0 := by rw [← hsz, hL]; rfl
  have hem : (s.toList == []) = true := by rw [Lib.toList_data, hL]; rfl
  have JH : s.toList = [] := by rw [Lib.toList_data, hL]
  clear hL hsz
  go_enter Tryz.func255, Tryz.ntmps255
  go_wp2
  go_ret2
  exact ⟨rfl, rfl⟩
 | [a] =>
  have h1 : s.size = 1 := by rw [← hsz, hL]; rfl
  have hzs : s.size ≤ 1073741824 := hs
  have hne : s.toList ≠ [] := by rw [Lib.toList_data, hL]; simp
  have hem : (s.toList == []) = false := by rw [Lib.toList_data, hL]; rfl
  have JH : s.toList.isEmpty = false := by rw [Lib.toList_data, hL]; rfl
  have JV := hid hL
  have zT : Hid (dH 10 s.data.toList = true → xH s.data.toList = .tuple #[.int .u64 (sat (val 10 s.data.toList)), .bool true]) := fun h => Dt _ (by rw [hL]; simp) 10 _ (by rw [hL]; rfl) h
  have mM : Hid (dH 10 s.data.toList = false → xH s.data.toList = .tuple #[.int .u64 0, .bool false]) := fun h => Gh _ (by rw [hL]; simp) 10 _ (by rw [hL]; rfl) h
  have g0 : ∀ h, s[0]'h = a := fun h => by
   have : s.data.toList[0]? = some a := by rw [hL]; rfl
   have := List.getElem?_eq_some_iff.1 this
   obtain ⟨_, e⟩ := this
   exact e
  have HP : Hid (∀ q, Lib.hasPrefix s.data.toList [48, q] = false) := by intro q; rw [JV.out, pre1]
  rw [← hL]
  clear hL hsz hne
  cases ha2 : ((a.toNat : Int) == 48)
  all_goals
   go_enter Tryz.func255, Tryz.ntmps255
   go_wp2_with fail
   refine (Tryz.strings_HasPrefix s ⟨#[48, 120]⟩ _).mono ?_
   rintro e w2 ⟨rfl, hw2⟩
   subst hw2
   rw [show (⟨#[48, 120]⟩ : ByteArray).data.toList = [48, 120] from rfl, HP.out]
   go_wp2_with fail
   refine (Tryz.strings_HasPrefix s ⟨#[48, 88]⟩ _).mono ?_
   rintro e w2 ⟨rfl, hw2⟩
   subst hw2
   rw [show (⟨#[48, 88]⟩ : ByteArray).data.toList = [48, 88] from rfl, HP.out]
   go_wp2_with fail
   refine (nZ s 10 _ hzs).mono ?_
   rintro e w2 ⟨rfl, hw2⟩
   subst hw2
   cases hd : dH 10 s.data.toList with
   | false =>
    have HE := hid (mM.out hd)
    clear hd
    go_wp2
    go_ret2
    exact ⟨by rw [HE.out]; rfl, rfl⟩
   | true =>
    have HE := hid (zT.out hd)
    have HD := hid hd
    have HL : Hid (s.data.toList.length = s.size) := Array.length_toList
    clear hd
    go_wp2
    go_loopw [6, 7] (fun vn vk wr => ∃ k : Nat, k ≤ s.size ∧ vk = .int .i64 (k : Int) ∧ wr = w2 ∧ vn = .int .u64 (sat (val 10 (s.data.toList.take k)))) (fun _ vk _ => s.size - (intOf vk).toNat)
    case atStart => exact ⟨0, Nat.zero_le _, rfl, rfl, rfl⟩
    case round =>
     obtain ⟨k, hk, rfl, rfl, rfl⟩ := hrel
     obtain ⟨v, hv⟩ : ∃ v, v = val 10 (s.data.toList.take k) := ⟨_, rfl⟩
     obtain ⟨n, hn⟩ : ∃ n, n = sat v := ⟨_, rfl⟩
     have hn2 : n ≤ 4294967296 := by rw [hn]; unfold sat; omega
     rw [← hv, ← hn]
     have HV := hid hv
     have HN := hid hn
     clear hv hn
     by_cases hlt : k < s.size
     ·obtain ⟨c, hc⟩ : ∃ c, s[k] = c := ⟨_, rfl⟩
      have hkl : k < s.data.toList.length := by rw [HL.out]; exact hlt
      have hcl : s.data.toList[k] = c := hc
      have HS : Hid (s.data.toList.take (k + 1) = s.data.toList.take k ++ [c]) := by rw [← hcl]; exact take_snoc _ k hkl
      have hD : jV 10 c = true := by rw [← hcl]; exact CQ _ _ HD.out k hkl
      have HX := hid (pX 10 c hD)
      obtain ⟨d, hd⟩ : ∃ d, d = dv c := ⟨_, rfl⟩
      have Za : d ≤ 15 := by rw [hd]; exact KA c
      rw [← hd] at HX
      have Jv := hid hd
      have h0 : 0 ≤ (c.toNat : Int) := by omega
      have h1 : (c.toNat : Int) ≤ 255 := by have := c.toNat_lt; omega
      have AV : Hid (sat (val 10 (s.data.toList.take (k + 1))) = min (n * 10 + d) 4294967296) := by
       show _ = _
       rw [HS.out, iQ, ← HV.out, ← Jv.out, HN.out, yM v 10 d (by omega)]
      clear hcl hkl hD hd
      have HZ : Hid (Value.int .u64 (min ((n : Int) * 10 + (d : Int)) 4294967296) = .int .u64 (sat (val 10 (s.data.toList.take (k + 1))))) := by
       refine int_eq ?_
       rw [AV.out]; omega
      go_wp2_with fail
      refine (dM.dG _ _ h0 h1).mono ?_
      rintro e w2 ⟨rfl, hw2⟩
      subst hw2
      rw [HX.out]
      go_wp2
      go_roundw
      case rel => exact ⟨k + 1, by omega, by go_num, by first | rfl | trivial, HZ.out⟩
      case measure => simp [intOf]; omega
     ·obtain rfl : k = s.size := by omega
      have HZ : Hid (n = sat (val 10 s.data.toList)) := by
       show _ = _
       rw [HN.out, HV.out, List.take_of_length_le (by rw [HL.out]; exact Nat.le_refl _)]
      go_wp2
      go_ret2
      exact ⟨by rw [HE.out, HZ.out]; rfl, rfl⟩
 | a :: x :: r =>
  have h1 : 2 ≤ s.size := by rw [← hsz, hL]; simp
  have h1i : (2 : Int) ≤ (s.size : Int) := by omega
  have h0i : (0 : Int) < (s.size : Int) := by omega
  have h1j : (1 : Int) < (s.size : Int) := by omega
  have hem : (s.toList == []) = false := by rw [Lib.toList_data, hL]; rfl
  have JH : s.toList.isEmpty = false := by rw [Lib.toList_data, hL]; rfl
  have g0 : ∀ h, s[0]'h = a := fun h => by
   have : s.data.toList[0]? = some a := by rw [hL]; rfl
   have := List.getElem?_eq_some_iff.1 this
   obtain ⟨_, e⟩ := this
   exact e
  have JV := hid hL
  have vM : s.data.toList ≠ [] := by rw [hL]; simp
  rw [← hL]
  by_cases ha : a = 48
  ·by_cases hx : x = 120 ∨ x = 88
   ·obtain ⟨Z, hZ⟩ : ∃ Z, Z = s.extract 2 s.size := ⟨_, rfl⟩
    have MZ : Z.data.toList = r := by rw [hZ, ext2 _ _ h1, hL]; rfl
    have hZs : s.extract 2 s.size = Z := hZ.symm
    have hzs : Z.size ≤ 1073741824 := by have : Z.data.toList.length = Z.size := Array.length_toList; rw [MZ] at this; rw [hL] at hsz; simp at hsz; omega
    have zT : Hid (dH 16 Z.data.toList = true → xH s.data.toList = .tuple #[.int .u64 (sat (val 16 Z.data.toList)), .bool true]) := fun h => Dt _ vM 16 _ (by rw [hL, Vo _ _ _ ha hx, MZ]) h
    have mM : Hid (dH 16 Z.data.toList = false → xH s.data.toList = .tuple #[.int .u64 0, .bool false]) := fun h => Gh _ vM 16 _ (by rw [hL, Vo _ _ _ ha hx, MZ]) h
    clear hL hsz MZ hZ vM
    rcases hx with hx | hx
    ·have HP : Hid (Lib.hasPrefix s.data.toList [48, 120] = true) := by show _ = _; rw [JV.out, pre2, ha, hx]; rfl
     clear ha hx g0
     go_enter Tryz.func255, Tryz.ntmps255
     go_wp2_with fail
     refine (Tryz.strings_HasPrefix s ⟨#[48, 120]⟩ _).mono ?_
     rintro e w2 ⟨rfl, hw2⟩
     subst hw2
     rw [show (⟨#[48, 120]⟩ : ByteArray).data.toList = [48, 120] from rfl, HP.out]
     go_wp2_with fail
     refine (nZ Z 16 _ hzs).mono ?_
     rintro e w2 ⟨rfl, hw2⟩
     subst hw2
     cases hd : dH 16 Z.data.toList with
     | false =>
      have HE := hid (mM.out hd)
      clear hd
      go_wp2
      go_ret2
      exact ⟨by rw [HE.out]; rfl, rfl⟩
     | true =>
      have HE := hid (zT.out hd)
      have HD := hid hd
      have HL : Hid (Z.data.toList.length = Z.size) := Array.length_toList
      clear hd
      go_wp2
      go_loopw [6, 7] (fun vn vk wr => ∃ k : Nat, k ≤ Z.size ∧ vk = .int .i64 (k : Int) ∧ wr = w2 ∧ vn = .int .u64 (sat (val 16 (Z.data.toList.take k)))) (fun _ vk _ => Z.size - (intOf vk).toNat)
      case atStart => exact ⟨0, Nat.zero_le _, rfl, rfl, rfl⟩
      case round =>
       obtain ⟨k, hk, rfl, rfl, rfl⟩ := hrel
       obtain ⟨v, hv⟩ : ∃ v, v = val 16 (Z.data.toList.take k) := ⟨_, rfl⟩
       obtain ⟨n, hn⟩ : ∃ n, n = sat v := ⟨_, rfl⟩
       have hn2 : n ≤ 4294967296 := by rw [hn]; unfold sat; omega
       rw [← hv, ← hn]
       have HV := hid hv
       have HN := hid hn
       clear hv hn
       by_cases hlt : k < Z.size
       ·obtain ⟨c, hc⟩ : ∃ c, Z[k] = c := ⟨_, rfl⟩
        have hkl : k < Z.data.toList.length := by rw [HL.out]; exact hlt
        have hcl : Z.data.toList[k] = c := hc
        have HS : Hid (Z.data.toList.take (k + 1) = Z.data.toList.take k ++ [c]) := by rw [← hcl]; exact take_snoc _ k hkl
        have hD : jV 16 c = true := by rw [← hcl]; exact CQ _ _ HD.out k hkl
        have HX := hid (pX 16 c hD)
        obtain ⟨d, hd⟩ : ∃ d, d = dv c := ⟨_, rfl⟩
        have Za : d ≤ 15 := by rw [hd]; exact KA c
        rw [← hd] at HX
        have Jv := hid hd
        have h0 : 0 ≤ (c.toNat : Int) := by omega
        have h1 : (c.toNat : Int) ≤ 255 := by have := c.toNat_lt; omega
        have AV : Hid (sat (val 16 (Z.data.toList.take (k + 1))) = min (n * 16 + d) 4294967296) := by
         show _ = _
         rw [HS.out, iQ, ← HV.out, ← Jv.out, HN.out, yM v 16 d (by omega)]
        clear hcl hkl hD hd
        have HZ : Hid (Value.int .u64 (min ((n : Int) * 16 + (d : Int)) 4294967296) = .int .u64 (sat (val 16 (Z.data.toList.take (k + 1))))) := by
         refine int_eq ?_
         rw [AV.out]; omega
        go_wp2_with fail
        refine (dM.dG _ _ h0 h1).mono ?_
        rintro e w2 ⟨rfl, hw2⟩
        subst hw2
        rw [HX.out]
        go_wp2
        go_roundw
        case rel => exact ⟨k + 1, by omega, by go_num, by first | rfl | trivial, HZ.out⟩
        case measure => simp [intOf]; omega
       ·obtain rfl : k = Z.size := by omega
        have HZ : Hid (n = sat (val 16 Z.data.toList)) := by
         show _ = _
         rw [HN.out, HV.out, List.take_of_length_le (by rw [HL.out]; exact Nat.le_refl _)]
        go_wp2
        go_ret2
        exact ⟨by rw [HE.out, HZ.out]; rfl, rfl⟩
    ·have HP : Hid (Lib.hasPrefix s.data.toList [48, 120] = false) := by show _ = _; rw [JV.out, pre2, ha, hx]; rfl
     have HP2 : Hid (Lib.hasPrefix s.data.toList [48, 88] = true) := by show _ = _; rw [JV.out, pre2, ha, hx]; rfl
     clear ha hx g0
     go_enter Tryz.func255, Tryz.ntmps255
     go_wp2_with fail
     refine (Tryz.strings_HasPrefix s ⟨#[48, 120]⟩ _).mono ?_
     rintro e w2 ⟨rfl, hw2⟩
     subst hw2
     rw [show (⟨#[48, 120]⟩ : ByteArray).data.toList = [48, 120] from rfl, HP.out]
     go_wp2_with fail
     refine (Tryz.strings_HasPrefix s ⟨#[48, 88]⟩ _).mono ?_
     rintro e w2 ⟨rfl, hw2⟩
     subst hw2
     rw [show (⟨#[48, 88]⟩ : ByteArray).data.toList = [48, 88] from rfl, HP2.out]
     go_wp2_with fail
     refine (nZ Z 16 _ hzs).mono ?_
     rintro e w2 ⟨rfl, hw2⟩
     subst hw2
     cases hd : dH 16 Z.data.toList with
     | false =>
      have HE := hid (mM.out hd)
      clear hd
      go_wp2
      go_ret2
      exact ⟨by rw [HE.out]; rfl, rfl⟩
     | true =>
      have HE := hid (zT.out hd)
      have HD := hid hd
      have HL : Hid (Z.data.toList.length = Z.size) := Array.length_toList
      clear hd
      go_wp2
      go_loopw [6, 7] (fun vn vk wr => ∃ k : Nat, k ≤ Z.size ∧ vk = .int .i64 (k : Int) ∧ wr = w2 ∧ vn = .int .u64 (sat (val 16 (Z.data.toList.take k)))) (fun _ vk _ => Z.size - (intOf vk).toNat)
      case atStart => exact ⟨0, Nat.zero_le _, rfl, rfl, rfl⟩
      case round =>
       obtain ⟨k, hk, rfl, rfl, rfl⟩ := hrel
       obtain ⟨v, hv⟩ : ∃ v, v = val 16 (Z.data.toList.take k) := ⟨_, rfl⟩
       obtain ⟨n, hn⟩ : ∃ n, n = sat v := ⟨_, rfl⟩
       have hn2 : n ≤ 4294967296 := by rw [hn]; unfold sat; omega
       rw [← hv, ← hn]
       have HV := hid hv
       have HN := hid hn
       clear hv hn
       by_cases hlt : k < Z.size
       ·obtain ⟨c, hc⟩ : ∃ c, Z[k] = c := ⟨_, rfl⟩
        have hkl : k < Z.data.toList.length := by rw [HL.out]; exact hlt
        have hcl : Z.data.toList[k] = c := hc
        have HS : Hid (Z.data.toList.take (k + 1) = Z.data.toList.take k ++ [c]) := by rw [← hcl]; exact take_snoc _ k hkl
        have hD : jV 16 c = true := by rw [← hcl]; exact CQ _ _ HD.out k hkl
        have HX := hid (pX 16 c hD)
        obtain ⟨d, hd⟩ : ∃ d, d = dv c := ⟨_, rfl⟩
        have Za : d ≤ 15 := by rw [hd]; exact KA c
        rw [← hd] at HX
        have Jv := hid hd
        have h0 : 0 ≤ (c.toNat : Int) := by omega
        have h1 : (c.toNat : Int) ≤ 255 := by have := c.toNat_lt; omega
        have AV : Hid (sat (val 16 (Z.data.toList.take (k + 1))) = min (n * 16 + d) 4294967296) := by
         show _ = _
         rw [HS.out, iQ, ← HV.out, ← Jv.out, HN.out, yM v 16 d (by omega)]
        clear hcl hkl hD hd
        have HZ : Hid (Value.int .u64 (min ((n : Int) * 16 + (d : Int)) 4294967296) = .int .u64 (sat (val 16 (Z.data.toList.take (k + 1))))) := by
         refine int_eq ?_
         rw [AV.out]; omega
        go_wp2_with fail
        refine (dM.dG _ _ h0 h1).mono ?_
        rintro e w2 ⟨rfl, hw2⟩
        subst hw2
        rw [HX.out]
        go_wp2
        go_roundw
        case rel => exact ⟨k + 1, by omega, by go_num, by first | rfl | trivial, HZ.out⟩
        case measure => simp [intOf]; omega
       ·obtain rfl : k = Z.size := by omega
        have HZ : Hid (n = sat (val 16 Z.data.toList)) := by
         show _ = _
         rw [HN.out, HV.out, List.take_of_length_le (by rw [HL.out]; exact Nat.le_refl _)]
        go_wp2
        go_ret2
        exact ⟨by rw [HE.out, HZ.out]; rfl, rfl⟩
   ·obtain ⟨Z, hZ⟩ : ∃ Z, Z = s.extract 1 s.size := ⟨_, rfl⟩
    have MZ : Z.data.toList = x :: r := by rw [hZ, ext2 _ _ (by omega), hL]; rfl
    have hZs : s.extract 1 s.size = Z := hZ.symm
    have hzs : Z.size ≤ 1073741824 := by have : Z.data.toList.length = Z.size := Array.length_toList; rw [MZ] at this; rw [hL] at hsz; simp at hsz this; omega
    have zT : Hid (dH 8 Z.data.toList = true → xH s.data.toList = .tuple #[.int .u64 (sat (val 8 Z.data.toList)), .bool true]) := fun h => Dt _ vM 8 _ (by rw [hL, Vm _ _ _ ha hx, MZ]) h
    have mM : Hid (dH 8 Z.data.toList = false → xH s.data.toList = .tuple #[.int .u64 0, .bool false]) := fun h => Gh _ vM 8 _ (by rw [hL, Vm _ _ _ ha hx, MZ]) h
    have HP : Hid (Lib.hasPrefix s.data.toList [48, 120] = false) := by show _ = _; rw [JV.out, pre2, decide_eq_false (fun h => hx (.inl h)), Bool.and_false]
    have HP2 : Hid (Lib.hasPrefix s.data.toList [48, 88] = false) := by show _ = _; rw [JV.out, pre2, decide_eq_false (fun h => hx (.inr h)), Bool.and_false]
    have g48 : ∀ h, s[0]'h = 48 := fun h => by rw [g0 h, ha]
    clear hL hsz MZ hZ vM ha hx g0
    go_enter Tryz.func255, Tryz.ntmps255
    go_wp2_with fail
    refine (Tryz.strings_HasPrefix s ⟨#[48, 120]⟩ _).mono ?_
    rintro e w2 ⟨rfl, hw2⟩
    subst hw2
    rw [show (⟨#[48, 120]⟩ : ByteArray).data.toList = [48, 120] from rfl, HP.out]
    go_wp2_with fail
    refine (Tryz.strings_HasPrefix s ⟨#[48, 88]⟩ _).mono ?_
    rintro e w2 ⟨rfl, hw2⟩
    subst hw2
    rw [show (⟨#[48, 88]⟩ : ByteArray).data.toList = [48, 88] from rfl, HP2.out]
    go_wp2_with fail
    refine (nZ Z 8 _ hzs).mono ?_
    rintro e w2 ⟨rfl, hw2⟩
    subst hw2
    cases hd : dH 8 Z.data.toList with
    | false =>
     have HE := hid (mM.out hd)
     clear hd
     go_wp2
     go_ret2
     exact ⟨by rw [HE.out]; rfl, rfl⟩
    | true =>
     have HE := hid (zT.out hd)
     have HD := hid hd
     have HL : Hid (Z.data.toList.length = Z.size) := Array.length_toList
     clear hd
     go_wp2
     go_loopw [6, 7] (fun vn vk wr => ∃ k : Nat, k ≤ Z.size ∧ vk = .int .i64 (k : Int) ∧ wr = w2 ∧ vn = .int .u64 (sat (val 8 (Z.data.toList.take k)))) (fun _ vk _ => Z.size - (intOf vk).toNat)
     case atStart => exact ⟨0, Nat.zero_le _, rfl, rfl, rfl⟩
     case round =>
      obtain ⟨k, hk, rfl, rfl, rfl⟩ := hrel
      obtain ⟨v, hv⟩ : ∃ v, v = val 8 (Z.data.toList.take k) := ⟨_, rfl⟩
      obtain ⟨n, hn⟩ : ∃ n, n = sat v := ⟨_, rfl⟩
      have hn2 : n ≤ 4294967296 := by rw [hn]; unfold sat; omega
      rw [← hv, ← hn]
      have HV := hid hv
      have HN := hid hn
      clear hv hn
      by_cases hlt : k < Z.size
      ·obtain ⟨c, hc⟩ : ∃ c, Z[k] = c := ⟨_, rfl⟩
       have hkl : k < Z.data.toList.length := by rw [HL.out]; exact hlt
       have hcl : Z.data.toList[k] = c := hc
       have HS : Hid (Z.data.toList.take (k + 1) = Z.data.toList.take k ++ [c]) := by rw [← hcl]; exact take_snoc _ k hkl
       have hD : jV 8 c = true := by rw [← hcl]; exact CQ _ _ HD.out k hkl
       have HX := hid (pX 8 c hD)
       obtain ⟨d, hd⟩ : ∃ d, d = dv c := ⟨_, rfl⟩
       have Za : d ≤ 15 := by rw [hd]; exact KA c
       rw [← hd] at HX
       have Jv := hid hd
       have h0 : 0 ≤ (c.toNat : Int) := by omega
       have h1 : (c.toNat : Int) ≤ 255 := by have := c.toNat_lt; omega
       have AV : Hid (sat (val 8 (Z.data.toList.take (k + 1))) = min (n * 8 + d) 4294967296) := by
        show _ = _
        rw [HS.out, iQ, ← HV.out, ← Jv.out, HN.out, yM v 8 d (by omega)]
       clear hcl hkl hD hd
       have HZ : Hid (Value.int .u64 (min ((n : Int) * 8 + (d : Int)) 4294967296) = .int .u64 (sat (val 8 (Z.data.toList.take (k + 1))))) := by
        refine int_eq ?_
        rw [AV.out]; omega
       go_wp2_with fail
       refine (dM.dG _ _ h0 h1).mono ?_
       rintro e w2 ⟨rfl, hw2⟩
       subst hw2
       rw [HX.out]
       go_wp2
       go_roundw
       case rel => exact ⟨k + 1, by omega, by go_num, by first | rfl | trivial, HZ.out⟩
       case measure => simp [intOf]; omega
      ·obtain rfl : k = Z.size := by omega
       have HZ : Hid (n = sat (val 8 Z.data.toList)) := by
        show _ = _
        rw [HN.out, HV.out, List.take_of_length_le (by rw [HL.out]; exact Nat.le_refl _)]
       go_wp2
       go_ret2
       exact ⟨by rw [HE.out, HZ.out]; rfl, rfl⟩
  ·have zT : Hid (dH 10 s.data.toList = true → xH s.data.toList = .tuple #[.int .u64 (sat (val 10 s.data.toList)), .bool true]) := fun h => Dt _ vM 10 _ (by rw [hL, NH _ _ _ ha]) h
   have mM : Hid (dH 10 s.data.toList = false → xH s.data.toList = .tuple #[.int .u64 0, .bool false]) := fun h => Gh _ vM 10 _ (by rw [hL, NH _ _ _ ha]) h
   have HP : Hid (∀ q, Lib.hasPrefix s.data.toList [48, q] = false) := by intro q; rw [JV.out, pre2, decide_eq_false ha, Bool.false_and]
   have ha2 : ((a.toNat : Int) == 48) = false := uq (d := 48) ha
   have hzs : s.size ≤ 1073741824 := hs
   clear hL hsz vM ha
   go_enter Tryz.func255, Tryz.ntmps255
   go_wp2_with fail
   refine (Tryz.strings_HasPrefix s ⟨#[48, 120]⟩ _).mono ?_
   rintro e w2 ⟨rfl, hw2⟩
   subst hw2
   rw [show (⟨#[48, 120]⟩ : ByteArray).data.toList = [48, 120] from rfl, HP.out]
   go_wp2_with fail
   refine (Tryz.strings_HasPrefix s ⟨#[48, 88]⟩ _).mono ?_
   rintro e w2 ⟨rfl, hw2⟩
   subst hw2
   rw [show (⟨#[48, 88]⟩ : ByteArray).data.toList = [48, 88] from rfl, HP.out]
   go_wp2_with fail
   refine (nZ s 10 _ hzs).mono ?_
   rintro e w2 ⟨rfl, hw2⟩
   subst hw2
   cases hd : dH 10 s.data.toList with
   | false =>
    have HE := hid (mM.out hd)
    clear hd
    go_wp2
    go_ret2
    exact ⟨by rw [HE.out]; rfl, rfl⟩
   | true =>
    have HE := hid (zT.out hd)
    have HD := hid hd
    have HL : Hid (s.data.toList.length = s.size) := Array.length_toList
    clear hd
    go_wp2
    go_loopw [6, 7] (fun vn vk wr => ∃ k : Nat, k ≤ s.size ∧ vk = .int .i64 (k : Int) ∧ wr = w2 ∧ vn = .int .u64 (sat (val 10 (s.data.toList.take k)))) (fun _ vk _ => s.size - (intOf vk).toNat)
    case atStart => exact ⟨0, Nat.zero_le _, rfl, rfl, rfl⟩
    case round =>
     obtain ⟨k, hk, rfl, rfl, rfl⟩ := hrel
     obtain ⟨v, hv⟩ : ∃ v, v = val 10 (s.data.toList.take k) := ⟨_, rfl⟩
     obtain ⟨n, hn⟩ : ∃ n, n = sat v := ⟨_, rfl⟩
     have hn2 : n ≤ 4294967296 := by rw [hn]; unfold sat; omega
     rw [← hv, ← hn]
     have HV := hid hv
     have HN := hid hn
     clear hv hn
     by_cases hlt : k < s.size
     ·obtain ⟨c, hc⟩ : ∃ c, s[k] = c := ⟨_, rfl⟩
      have hkl : k < s.data.toList.length := by rw [HL.out]; exact hlt
      have hcl : s.data.toList[k] = c := hc
      have HS : Hid (s.data.toList.take (k + 1) = s.data.toList.take k ++ [c]) := by rw [← hcl]; exact take_snoc _ k hkl
      have hD : jV 10 c = true := by rw [← hcl]; exact CQ _ _ HD.out k hkl
      have HX := hid (pX 10 c hD)
      obtain ⟨d, hd⟩ : ∃ d, d = dv c := ⟨_, rfl⟩
      have Za : d ≤ 15 := by rw [hd]; exact KA c
      rw [← hd] at HX
      have Jv := hid hd
      have h0 : 0 ≤ (c.toNat : Int) := by omega
      have h1 : (c.toNat : Int) ≤ 255 := by have := c.toNat_lt; omega
      have AV : Hid (sat (val 10 (s.data.toList.take (k + 1))) = min (n * 10 + d) 4294967296) := by
       show _ = _
       rw [HS.out, iQ, ← HV.out, ← Jv.out, HN.out, yM v 10 d (by omega)]
      clear hcl hkl hD hd
      have HZ : Hid (Value.int .u64 (min ((n : Int) * 10 + (d : Int)) 4294967296) = .int .u64 (sat (val 10 (s.data.toList.take (k + 1))))) := by
       refine int_eq ?_
       rw [AV.out]; omega
      go_wp2_with fail
      refine (dM.dG _ _ h0 h1).mono ?_
      rintro e w2 ⟨rfl, hw2⟩
      subst hw2
      rw [HX.out]
      go_wp2
      go_roundw
      case rel => exact ⟨k + 1, by omega, by go_num, by first | rfl | trivial, HZ.out⟩
      case measure => simp [intOf]; omega
     ·obtain rfl : k = s.size := by omega
      have HZ : Hid (n = sat (val 10 s.data.toList)) := by
       show _ = _
       rw [HN.out, HV.out, List.take_of_length_le (by rw [HL.out]; exact Nat.le_refl _)]
      go_wp2
      go_ret2
      exact ⟨by rw [HE.out, HZ.out]; rfl, rfl⟩
end Go.Proofs.YtmdofbccebkbiaaGreatDoor.Ov
namespace Go.Proofs.YtmdofbccebkbiaaGreatDoor.QudB
open Go.RowKit Base aT dM mX Ov
theorem bH (s : ByteArray) (w : World) (hs : s.size ≤ 1073741824) : Calls Tryz.prog 246 #[.string s] w fun e w' => e = .returned (.int .i64 (xI s.data.toList)) ∧ Below w.heap.size w w' := by
 have hsz : s.data.toList.length = s.size := Array.length_toList
 match hL : s.data.toList with
 | [] =>
  have h0 : s.size = 0 := by rw [← hsz, hL]; rfl
  have hem : (s.toList == []) = true := by rw [Lib.toList_data, hL]; rfl
  have JH : s.toList = [] := by rw [Lib.toList_data, hL]
  clear hL hsz
  go_enter Tryz.func246, Tryz.ntmps246
  go_wp2
  go_ret
  exact ⟨rfl, Below.refl _ _⟩
 | [a] =>
  have h1 : s.size = 1 := by rw [← hsz, hL]; rfl
  have hzs : s.size ≤ 1073741824 := hs
  have hem : (s.toList == []) = false := by rw [Lib.toList_data, hL]; rfl
  have JH : s.toList.isEmpty = false := by rw [Lib.toList_data, hL]; rfl
  have zT : Hid (dH 10 s.data.toList = true → xI s.data.toList = big 10 s.data.toList) := fun h => Du _ (by rw [hL]; simp) 10 _ (by rw [hL]; rfl) h
  have mM : Hid (dH 10 s.data.toList = false → xI s.data.toList = -1) := fun h => Gi _ (by rw [hL]; simp) 10 _ (by rw [hL]; rfl) h
  rw [← hL]
  have h1i : ¬ (1 : Int) < (s.size : Int) := by omega
  have hb1 : Below w.heap.size w w := Below.refl _ _
  clear hL hsz
  go_enter Tryz.func246, Tryz.ntmps246
  have HL : Hid (s.data.toList.length = s.size) := Array.length_toList
  go_wp2
  go_loopw [4, 5, 6, 31] (fun vn _ _ vk wr => ∃ k : Nat, k ≤ s.size ∧ vk = .int .i64 (k : Int) ∧ wr = w ∧ vn = .int .i64 (big 10 (s.data.toList.take k)) ∧ Hid (dH 10 (s.data.toList.take k) = true)) (fun _ _ _ vk _ => s.size - (intOf vk).toNat)
  case atStart => exact ⟨0, Nat.zero_le _, rfl, rfl, rfl, rfl⟩
  case round =>
   obtain ⟨k, hk, rfl, rfl, rfl, HT⟩ := hrel
   obtain ⟨n, hn⟩ : ∃ n, n = big 10 (s.data.toList.take k) := ⟨_, rfl⟩
   have hn2 : n ≤ 17592186044431 := by rw [hn]; exact G7 10 (by omega) _
   rw [← hn]
   have HN := hid hn
   have H8 : (n : Int) ≤ 17592186044431 := by omega
   clear hn hn2
   by_cases hlt : k < s.size
   ·obtain ⟨c, hc⟩ : ∃ c, s[k] = c := ⟨_, rfl⟩
    have hkl : k < s.data.toList.length := by rw [HL.out]; exact hlt
    have hcl : s.data.toList[k] = c := hc
    have HS : Hid (s.data.toList.take (k + 1) = s.data.toList.take k ++ [c]) := by rw [← hcl]; exact take_snoc _ k hkl
    have HM : Hid (c ∈ s.data.toList) := by show _ ∈ _; rw [← hcl]; exact List.getElem_mem _
    have HD : Hid (jV 10 c = (decide (0 ≤ hex c.toNat) && decide (hex c.toNat < (10 : Nat)))) := rfl
    obtain ⟨x, hx⟩ : ∃ x, x = hex c.toNat := ⟨_, rfl⟩
    have hx15 : x ≤ 15 := by rw [hx]; exact (qQ c).2
    rw [← hx] at HD
    have HX := hid hx
    clear hcl hkl
    by_cases hx0 : 0 ≤ x
    ·by_cases hxb : x < (10 : Nat)
     ·have RZ : jV 10 c = true := by rw [HD.out, decide_eq_true hx0, decide_eq_true hxb]; rfl
      have HT2 : Hid (dH 10 (s.data.toList.take (k + 1)) = true) := by show _ = _; rw [HS.out]; unfold dH at HT ⊢; rw [List.all_append, HT.out, List.all_cons, RZ]; rfl
      have hxd : x = (dv c : Int) := by rw [hx]; exact pX 10 c RZ
      have HB : Hid (big 10 (s.data.toList.take (k + 1)) = if n < 1099511627776 then n * 10 + dv c else n) := by show _ = _; rw [HS.out, tV, ← HN.out]
      have SA : x < 10 := by omega
      clear RZ hx hxb
      by_cases hnb : n < 1099511627776
      ·have HZ : Hid (Value.int .i64 ((n : Int) * 10 + x) = .int .i64 (big 10 (s.data.toList.take (k + 1)))) := by
        refine int_eq ?_
        rw [HB.out, if_pos hnb, hxd]; omega
       have Bq : (n : Int) < 1099511627776 := by omega
       clear hxd hnb HB
       have hn0 : 0 ≤ (n : Int) := by omega
       generalize (n : Int) = N at hn0 H8 Bq HZ ⊢
       go_wp2_with fail
       refine (kM.dG _ _).mono ?_
       rintro e w2 ⟨rfl, hw2⟩
       subst hw2
       rw [← HX.out]
       go_wp2
       go_roundw
       case rel => exact ⟨k + 1, by omega, by go_num, by first | rfl | trivial, HZ.out, HT2⟩
       case measure => simp [intOf]; omega
      ·have HZ : Hid (Value.int .i64 (n : Int) = .int .i64 (big 10 (s.data.toList.take (k + 1)))) := by
        refine int_eq ?_
        rw [HB.out, if_neg hnb]
       have Bq : ¬ (n : Int) < 1099511627776 := by omega
       clear hxd hnb HB
       have hn0 : 0 ≤ (n : Int) := by omega
       generalize (n : Int) = N at hn0 H8 Bq HZ ⊢
       go_wp2_with fail
       refine (kM.dG _ _).mono ?_
       rintro e w2 ⟨rfl, hw2⟩
       subst hw2
       rw [← HX.out]
       go_wp2
       go_roundw
       case rel => exact ⟨k + 1, by omega, by go_num, by first | rfl | trivial, HZ.out, HT2⟩
       case measure => simp [intOf]; omega
     ·have HE := hid (mM.out (List.all_eq_false.2 ⟨c, HM.out, by rw [HD.out, decide_eq_false hxb]; simp⟩))
      have SA : ¬ x < 10 := by omega
      clear hx hxb
      go_wp2_with fail
      refine (kM.dG _ _).mono ?_
      rintro e w2 ⟨rfl, hw2⟩
      subst hw2
      rw [← HX.out]
      go_wp2
      go_ret
      exact ⟨by rw [HE.out]; rfl, hb1⟩
    ·have HE := hid (mM.out (List.all_eq_false.2 ⟨c, HM.out, by rw [HD.out, decide_eq_false hx0]; simp⟩))
     clear hx
     go_wp2_with fail
     refine (kM.dG _ _).mono ?_
     rintro e w2 ⟨rfl, hw2⟩
     subst hw2
     rw [← HX.out]
     go_wp2
     go_ret
     exact ⟨by rw [HE.out]; rfl, hb1⟩
   ·obtain rfl : k = s.size := by omega
    have hfull : s.data.toList.take s.size = s.data.toList := List.take_of_length_le (by rw [HL.out]; exact Nat.le_refl _)
    have HE := hid (zT.out (by have h := HT.out; rwa [hfull] at h))
    have HZ : Hid (n = big 10 s.data.toList) := by show _ = _; rw [HN.out, hfull]
    clear hfull
    go_wp2
    go_ret
    exact ⟨by rw [HE.out, HZ.out]; rfl, hb1⟩
 | a :: x :: r =>
  have h1 : 2 ≤ s.size := by rw [← hsz, hL]; simp
  have h0i : (0 : Int) < (s.size : Int) := by omega
  have h1j : (1 : Int) < (s.size : Int) := by omega
  have h2i : (2 : Int) ≤ (s.size : Int) := by omega
  have hem : (s.toList == []) = false := by rw [Lib.toList_data, hL]; rfl
  have JH : s.toList.isEmpty = false := by rw [Lib.toList_data, hL]; rfl
  have g0 : ∀ h, s[0]'h = a := fun h => by
   have : s.data.toList[0]? = some a := by rw [hL]; rfl
   have := List.getElem?_eq_some_iff.1 this
   obtain ⟨_, e⟩ := this
   exact e
  have g1 : ∀ h, s[1]'h = x := fun h => by
   have : s.data.toList[1]? = some x := by rw [hL]; rfl
   have := List.getElem?_eq_some_iff.1 this
   obtain ⟨_, e⟩ := this
   exact e
  have vM : s.data.toList ≠ [] := by rw [hL]; simp
  rw [← hL]
  by_cases ha : a = 48
  ·have ha2 : ((a.toNat : Int) == 48) = true := by rw [ha]; rfl
   by_cases hx : x = 120 ∨ x = 88
   ·obtain ⟨Z, hZ⟩ : ∃ Z, Z = s.extract 2 s.size := ⟨_, rfl⟩
    have MZ : Z.data.toList = r := by rw [hZ, ext2 _ _ h1, hL]; rfl
    have hZs : s.extract 2 s.size = Z := hZ.symm
    have hzs : Z.size ≤ 1073741824 := by have : Z.data.toList.length = Z.size := Array.length_toList; rw [MZ] at this; rw [hL] at hsz; simp at hsz; omega
    have zT : Hid (dH 16 Z.data.toList = true → xI s.data.toList = big 16 Z.data.toList) := fun h => Du _ vM 16 _ (by rw [hL, Vo _ _ _ ha hx, MZ]) h
    have mM : Hid (dH 16 Z.data.toList = false → xI s.data.toList = -1) := fun h => Gi _ vM 16 _ (by rw [hL, Vo _ _ _ ha hx, MZ]) h
    have hcase : ((x.toNat : Int) == 120) = true ∨ ((x.toNat : Int) == 120) = false ∧ ((x.toNat : Int) == 88) = true := by
     rcases hx with rfl | rfl
     ·exact .inl rfl
     ·exact .inr ⟨rfl, rfl⟩
    clear hL hsz MZ hZ vM ha hx
    rcases hcase with hq | ⟨hq, hq2⟩
    all_goals
     go_enter Tryz.func246, Tryz.ntmps246
     go_wp2_with fail
     go_region
     obtain ⟨w1, hw1, hb1⟩ : ∃ w1, w1 = w.drew ∧ Below w.heap.size w w1 := ⟨_, rfl, (Below.refl _ _).drew⟩
     rw [← hw1]
     clear hw1
     have HL : Hid (Z.data.toList.length = Z.size) := Array.length_toList
     go_wp2
     go_loopw [4, 5, 6, 31] (fun vn _ _ vk wr => ∃ k : Nat, k ≤ Z.size ∧ vk = .int .i64 (k : Int) ∧ wr = w1 ∧ vn = .int .i64 (big 16 (Z.data.toList.take k)) ∧ Hid (dH 16 (Z.data.toList.take k) = true)) (fun _ _ _ vk _ => Z.size - (intOf vk).toNat)
     case atStart => exact ⟨0, Nat.zero_le _, rfl, rfl, rfl, rfl⟩
     case round =>
      obtain ⟨k, hk, rfl, rfl, rfl, HT⟩ := hrel
      obtain ⟨n, hn⟩ : ∃ n, n = big 16 (Z.data.toList.take k) := ⟨_, rfl⟩
      have hn2 : n ≤ 17592186044431 := by rw [hn]; exact G7 16 (by omega) _
      rw [← hn]
      have HN := hid hn
      have H8 : (n : Int) ≤ 17592186044431 := by omega
      clear hn hn2
      by_cases hlt : k < Z.size
      ·obtain ⟨c, hc⟩ : ∃ c, Z[k] = c := ⟨_, rfl⟩
       have hkl : k < Z.data.toList.length := by rw [HL.out]; exact hlt
       have hcl : Z.data.toList[k] = c := hc
       have HS : Hid (Z.data.toList.take (k + 1) = Z.data.toList.take k ++ [c]) := by rw [← hcl]; exact take_snoc _ k hkl
       have HM : Hid (c ∈ Z.data.toList) := by show _ ∈ _; rw [← hcl]; exact List.getElem_mem _
       have HD : Hid (jV 16 c = (decide (0 ≤ hex c.toNat) && decide (hex c.toNat < (16 : Nat)))) := rfl
       obtain ⟨x, hx⟩ : ∃ x, x = hex c.toNat := ⟨_, rfl⟩
       have hx15 : x ≤ 15 := by rw [hx]; exact (qQ c).2
       rw [← hx] at HD
       have HX := hid hx
       clear hcl hkl
       by_cases hx0 : 0 ≤ x
       ·by_cases hxb : x < (16 : Nat)
        ·have RZ : jV 16 c = true := by rw [HD.out, decide_eq_true hx0, decide_eq_true hxb]; rfl
         have HT2 : Hid (dH 16 (Z.data.toList.take (k + 1)) = true) := by show _ = _; rw [HS.out]; unfold dH at HT ⊢; rw [List.all_append, HT.out, List.all_cons, RZ]; rfl
         have hxd : x = (dv c : Int) := by rw [hx]; exact pX 16 c RZ
         have HB : Hid (big 16 (Z.data.toList.take (k + 1)) = if n < 1099511627776 then n * 16 + dv c else n) := by show _ = _; rw [HS.out, tV, ← HN.out]
         have SA : x < 16 := by omega
         clear RZ hx hxb
         by_cases hnb : n < 1099511627776
         ·have HZ : Hid (Value.int .i64 ((n : Int) * 16 + x) = .int .i64 (big 16 (Z.data.toList.take (k + 1)))) := by
           refine int_eq ?_
           rw [HB.out, if_pos hnb, hxd]; omega
          have Bq : (n : Int) < 1099511627776 := by omega
          clear hxd hnb HB
          have hn0 : 0 ≤ (n : Int) := by omega
          generalize (n : Int) = N at hn0 H8 Bq HZ ⊢
          go_wp2_with fail
          refine (kM.dG _ _).mono ?_
          rintro e w2 ⟨rfl, hw2⟩
          subst hw2
          rw [← HX.out]
          go_wp2
          go_roundw
          case rel => exact ⟨k + 1, by omega, by go_num, by first | rfl | trivial, HZ.out, HT2⟩
          case measure => simp [intOf]; omega
         ·have HZ : Hid (Value.int .i64 (n : Int) = .int .i64 (big 16 (Z.data.toList.take (k + 1)))) := by
           refine int_eq ?_
           rw [HB.out, if_neg hnb]
          have Bq : ¬ (n : Int) < 1099511627776 := by omega
          clear hxd hnb HB
          have hn0 : 0 ≤ (n : Int) := by omega
          generalize (n : Int) = N at hn0 H8 Bq HZ ⊢
          go_wp2_with fail
          refine (kM.dG _ _).mono ?_
          rintro e w2 ⟨rfl, hw2⟩
          subst hw2
          rw [← HX.out]
          go_wp2
          go_roundw
          case rel => exact ⟨k + 1, by omega, by go_num, by first | rfl | trivial, HZ.out, HT2⟩
          case measure => simp [intOf]; omega
        ·have HE := hid (mM.out (List.all_eq_false.2 ⟨c, HM.out, by rw [HD.out, decide_eq_false hxb]; simp⟩))
         have SA : ¬ x < 16 := by omega
         clear hx hxb
         go_wp2_with fail
         refine (kM.dG _ _).mono ?_
         rintro e w2 ⟨rfl, hw2⟩
         subst hw2
         rw [← HX.out]
         go_wp2
         go_ret
         exact ⟨by rw [HE.out]; rfl, hb1⟩
       ·have HE := hid (mM.out (List.all_eq_false.2 ⟨c, HM.out, by rw [HD.out, decide_eq_false hx0]; simp⟩))
        clear hx
        go_wp2_with fail
        refine (kM.dG _ _).mono ?_
        rintro e w2 ⟨rfl, hw2⟩
        subst hw2
        rw [← HX.out]
        go_wp2
        go_ret
        exact ⟨by rw [HE.out]; rfl, hb1⟩
      ·obtain rfl : k = Z.size := by omega
       have hfull : Z.data.toList.take Z.size = Z.data.toList := List.take_of_length_le (by rw [HL.out]; exact Nat.le_refl _)
       have HE := hid (zT.out (by have h := HT.out; rwa [hfull] at h))
       have HZ : Hid (n = big 16 Z.data.toList) := by show _ = _; rw [HN.out, hfull]
       clear hfull
       go_wp2
       go_ret
       exact ⟨by rw [HE.out, HZ.out]; rfl, hb1⟩
   ·obtain ⟨Z, hZ⟩ : ∃ Z, Z = s.extract 1 s.size := ⟨_, rfl⟩
    have MZ : Z.data.toList = x :: r := by rw [hZ, ext2 _ _ (by omega), hL]; rfl
    have hZs : s.extract 1 s.size = Z := hZ.symm
    have hzs : Z.size ≤ 1073741824 := by have : Z.data.toList.length = Z.size := Array.length_toList; rw [MZ] at this; rw [hL] at hsz; simp at hsz this; omega
    have zT : Hid (dH 8 Z.data.toList = true → xI s.data.toList = big 8 Z.data.toList) := fun h => Du _ vM 8 _ (by rw [hL, Vm _ _ _ ha hx, MZ]) h
    have mM : Hid (dH 8 Z.data.toList = false → xI s.data.toList = -1) := fun h => Gi _ vM 8 _ (by rw [hL, Vm _ _ _ ha hx, MZ]) h
    have hq : ((x.toNat : Int) == 120) = false := uq (d := 120) fun h => hx (.inl h)
    have hq2 : ((x.toNat : Int) == 88) = false := uq (d := 88) fun h => hx (.inr h)
    clear hL hsz MZ hZ vM ha hx
    go_enter Tryz.func246, Tryz.ntmps246
    go_wp2_with fail
    go_region
    obtain ⟨w1, hw1, hb1⟩ : ∃ w1, w1 = w.drew ∧ Below w.heap.size w w1 := ⟨_, rfl, (Below.refl _ _).drew⟩
    rw [← hw1]
    clear hw1
    have HL : Hid (Z.data.toList.length = Z.size) := Array.length_toList
    go_wp2
    go_loopw [4, 5, 6, 31] (fun vn _ _ vk wr => ∃ k : Nat, k ≤ Z.size ∧ vk = .int .i64 (k : Int) ∧ wr = w1 ∧ vn = .int .i64 (big 8 (Z.data.toList.take k)) ∧ Hid (dH 8 (Z.data.toList.take k) = true)) (fun _ _ _ vk _ => Z.size - (intOf vk).toNat)
    case atStart => exact ⟨0, Nat.zero_le _, rfl, rfl, rfl, rfl⟩
    case round =>
     obtain ⟨k, hk, rfl, rfl, rfl, HT⟩ := hrel
     obtain ⟨n, hn⟩ : ∃ n, n = big 8 (Z.data.toList.take k) := ⟨_, rfl⟩
     have hn2 : n ≤ 17592186044431 := by rw [hn]; exact G7 8 (by omega) _
     rw [← hn]
     have HN := hid hn
     have H8 : (n : Int) ≤ 17592186044431 := by omega
     clear hn hn2
     by_cases hlt : k < Z.size
     ·obtain ⟨c, hc⟩ : ∃ c, Z[k] = c := ⟨_, rfl⟩
      have hkl : k < Z.data.toList.length := by rw [HL.out]; exact hlt
      have hcl : Z.data.toList[k] = c := hc
      have HS : Hid (Z.data.toList.take (k + 1) = Z.data.toList.take k ++ [c]) := by rw [← hcl]; exact take_snoc _ k hkl
      have HM : Hid (c ∈ Z.data.toList) := by show _ ∈ _; rw [← hcl]; exact List.getElem_mem _
      have HD : Hid (jV 8 c = (decide (0 ≤ hex c.toNat) && decide (hex c.toNat < (8 : Nat)))) := rfl
      obtain ⟨x, hx⟩ : ∃ x, x = hex c.toNat := ⟨_, rfl⟩
      have hx15 : x ≤ 15 := by rw [hx]; exact (qQ c).2
      rw [← hx] at HD
      have HX := hid hx
      clear hcl hkl
      by_cases hx0 : 0 ≤ x
      ·by_cases hxb : x < (8 : Nat)
       ·have RZ : jV 8 c = true := by rw [HD.out, decide_eq_true hx0, decide_eq_true hxb]; rfl
        have HT2 : Hid (dH 8 (Z.data.toList.take (k + 1)) = true) := by show _ = _; rw [HS.out]; unfold dH at HT ⊢; rw [List.all_append, HT.out, List.all_cons, RZ]; rfl
        have hxd : x = (dv c : Int) := by rw [hx]; exact pX 8 c RZ
        have HB : Hid (big 8 (Z.data.toList.take (k + 1)) = if n < 1099511627776 then n * 8 + dv c else n) := by show _ = _; rw [HS.out, tV, ← HN.out]
        have SA : x < 8 := by omega
        clear RZ hx hxb
        by_cases hnb : n < 1099511627776
        ·have HZ : Hid (Value.int .i64 ((n : Int) * 8 + x) = .int .i64 (big 8 (Z.data.toList.take (k + 1)))) := by
          refine int_eq ?_
          rw [HB.out, if_pos hnb, hxd]; omega
         have Bq : (n : Int) < 1099511627776 := by omega
         clear hxd hnb HB
         have hn0 : 0 ≤ (n : Int) := by omega
         generalize (n : Int) = N at hn0 H8 Bq HZ ⊢
         go_wp2_with fail
         refine (kM.dG _ _).mono ?_
         rintro e w2 ⟨rfl, hw2⟩
         subst hw2
         rw [← HX.out]
         go_wp2
         go_roundw
         case rel => exact ⟨k + 1, by omega, by go_num, by first | rfl | trivial, HZ.out, HT2⟩
         case measure => simp [intOf]; omega
        ·have HZ : Hid (Value.int .i64 (n : Int) = .int .i64 (big 8 (Z.data.toList.take (k + 1)))) := by
          refine int_eq ?_
          rw [HB.out, if_neg hnb]
         have Bq : ¬ (n : Int) < 1099511627776 := by omega
         clear hxd hnb HB
         have hn0 : 0 ≤ (n : Int) := by omega
         generalize (n : Int) = N at hn0 H8 Bq HZ ⊢
         go_wp2_with fail
         refine (kM.dG _ _).mono ?_
         rintro e w2 ⟨rfl, hw2⟩
         subst hw2
         rw [← HX.out]
         go_wp2
         go_roundw
         case rel => exact ⟨k + 1, by omega, by go_num, by first | rfl | trivial, HZ.out, HT2⟩
         case measure => simp [intOf]; omega
       ·have HE := hid (mM.out (List.all_eq_false.2 ⟨c, HM.out, by rw [HD.out, decide_eq_false hxb]; simp⟩))
        have SA : ¬ x < 8 := by omega
        clear hx hxb
        go_wp2_with fail
        refine (kM.dG _ _).mono ?_
        rintro e w2 ⟨rfl, hw2⟩
        subst hw2
        rw [← HX.out]
        go_wp2
        go_ret
        exact ⟨by rw [HE.out]; rfl, hb1⟩
      ·have HE := hid (mM.out (List.all_eq_false.2 ⟨c, HM.out, by rw [HD.out, decide_eq_false hx0]; simp⟩))
       clear hx
       go_wp2_with fail
       refine (kM.dG _ _).mono ?_
       rintro e w2 ⟨rfl, hw2⟩
       subst hw2
       rw [← HX.out]
       go_wp2
       go_ret
       exact ⟨by rw [HE.out]; rfl, hb1⟩
     ·obtain rfl : k = Z.size := by omega
      have hfull : Z.data.toList.take Z.size = Z.data.toList := List.take_of_length_le (by rw [HL.out]; exact Nat.le_refl _)
      have HE := hid (zT.out (by have h := HT.out; rwa [hfull] at h))
      have HZ : Hid (n = big 8 Z.data.toList) := by show _ = _; rw [HN.out, hfull]
      clear hfull
      go_wp2
      go_ret
      exact ⟨by rw [HE.out, HZ.out]; rfl, hb1⟩
  ·have ha2 : ((a.toNat : Int) == 48) = false := uq (d := 48) ha
   have hzs : s.size ≤ 1073741824 := hs
   have zT : Hid (dH 10 s.data.toList = true → xI s.data.toList = big 10 s.data.toList) := fun h => Du _ vM 10 _ (by rw [hL, NH _ _ _ ha]) h
   have mM : Hid (dH 10 s.data.toList = false → xI s.data.toList = -1) := fun h => Gi _ vM 10 _ (by rw [hL, NH _ _ _ ha]) h
   have hb1 : Below w.heap.size w w := Below.refl _ _
   clear hL hsz vM ha
   go_enter Tryz.func246, Tryz.ntmps246
   have HL : Hid (s.data.toList.length = s.size) := Array.length_toList
   go_wp2
   go_loopw [4, 5, 6, 31] (fun vn _ _ vk wr => ∃ k : Nat, k ≤ s.size ∧ vk = .int .i64 (k : Int) ∧ wr = w ∧ vn = .int .i64 (big 10 (s.data.toList.take k)) ∧ Hid (dH 10 (s.data.toList.take k) = true)) (fun _ _ _ vk _ => s.size - (intOf vk).toNat)
   case atStart => exact ⟨0, Nat.zero_le _, rfl, rfl, rfl, rfl⟩
   case round =>
    obtain ⟨k, hk, rfl, rfl, rfl, HT⟩ := hrel
    obtain ⟨n, hn⟩ : ∃ n, n = big 10 (s.data.toList.take k) := ⟨_, rfl⟩
    have hn2 : n ≤ 17592186044431 := by rw [hn]; exact G7 10 (by omega) _
    rw [← hn]
    have HN := hid hn
    have H8 : (n : Int) ≤ 17592186044431 := by omega
    clear hn hn2
    by_cases hlt : k < s.size
    ·obtain ⟨c, hc⟩ : ∃ c, s[k] = c := ⟨_, rfl⟩
     have hkl : k < s.data.toList.length := by rw [HL.out]; exact hlt
     have hcl : s.data.toList[k] = c := hc
     have HS : Hid (s.data.toList.take (k + 1) = s.data.toList.take k ++ [c]) := by rw [← hcl]; exact take_snoc _ k hkl
     have HM : Hid (c ∈ s.data.toList) := by show _ ∈ _; rw [← hcl]; exact List.getElem_mem _
     have HD : Hid (jV 10 c = (decide (0 ≤ hex c.toNat) && decide (hex c.toNat < (10 : Nat)))) := rfl
     obtain ⟨x, hx⟩ : ∃ x, x = hex c.toNat := ⟨_, rfl⟩
     have hx15 : x ≤ 15 := by rw [hx]; exact (qQ c).2
     rw [← hx] at HD
     have HX := hid hx
     clear hcl hkl
     by_cases hx0 : 0 ≤ x
     ·by_cases hxb : x < (10 : Nat)
      ·have RZ : jV 10 c = true := by rw [HD.out, decide_eq_true hx0, decide_eq_true hxb]; rfl
       have HT2 : Hid (dH 10 (s.data.toList.take (k + 1)) = true) := by show _ = _; rw [HS.out]; unfold dH at HT ⊢; rw [List.all_append, HT.out, List.all_cons, RZ]; rfl
       have hxd : x = (dv c : Int) := by rw [hx]; exact pX 10 c RZ
       have HB : Hid (big 10 (s.data.toList.take (k + 1)) = if n < 1099511627776 then n * 10 + dv c else n) := by show _ = _; rw [HS.out, tV, ← HN.out]
       have SA : x < 10 := by omega
       clear RZ hx hxb
       by_cases hnb : n < 1099511627776
       ·have HZ : Hid (Value.int .i64 ((n : Int) * 10 + x) = .int .i64 (big 10 (s.data.toList.take (k + 1)))) := by
         refine int_eq ?_
         rw [HB.out, if_pos hnb, hxd]; omega
        have Bq : (n : Int) < 1099511627776 := by omega
        clear hxd hnb HB
        have hn0 : 0 ≤ (n : Int) := by omega
        generalize (n : Int) = N at hn0 H8 Bq HZ ⊢
        go_wp2_with fail
        refine (kM.dG _ _).mono ?_
        rintro e w2 ⟨rfl, hw2⟩
        subst hw2
        rw [← HX.out]
        go_wp2
        go_roundw
        case rel => exact ⟨k + 1, by omega, by go_num, by first | rfl | trivial, HZ.out, HT2⟩
        case measure => simp [intOf]; omega
       ·have HZ : Hid (Value.int .i64 (n : Int) = .int .i64 (big 10 (s.data.toList.take (k + 1)))) := by
         refine int_eq ?_
         rw [HB.out, if_neg hnb]
        have Bq : ¬ (n : Int) < 1099511627776 := by omega
        clear hxd hnb HB
        have hn0 : 0 ≤ (n : Int) := by omega
        generalize (n : Int) = N at hn0 H8 Bq HZ ⊢
        go_wp2_with fail
        refine (kM.dG _ _).mono ?_
        rintro e w2 ⟨rfl, hw2⟩
        subst hw2
        rw [← HX.out]
        go_wp2
        go_roundw
        case rel => exact ⟨k + 1, by omega, by go_num, by first | rfl | trivial, HZ.out, HT2⟩
        case measure => simp [intOf]; omega
      ·have HE := hid (mM.out (List.all_eq_false.2 ⟨c, HM.out, by rw [HD.out, decide_eq_false hxb]; simp⟩))
       have SA : ¬ x < 10 := by omega
       clear hx hxb
       go_wp2_with fail
       refine (kM.dG _ _).mono ?_
       rintro e w2 ⟨rfl, hw2⟩
       subst hw2
       rw [← HX.out]
       go_wp2
       go_ret
       exact ⟨by rw [HE.out]; rfl, hb1⟩
     ·have HE := hid (mM.out (List.all_eq_false.2 ⟨c, HM.out, by rw [HD.out, decide_eq_false hx0]; simp⟩))
      clear hx
      go_wp2_with fail
      refine (kM.dG _ _).mono ?_
      rintro e w2 ⟨rfl, hw2⟩
      subst hw2
      rw [← HX.out]
      go_wp2
      go_ret
      exact ⟨by rw [HE.out]; rfl, hb1⟩
    ·obtain rfl : k = s.size := by omega
     have hfull : s.data.toList.take s.size = s.data.toList := List.take_of_length_le (by rw [HL.out]; exact Nat.le_refl _)
     have HE := hid (zT.out (by have h := HT.out; rwa [hfull] at h))
     have HZ : Hid (n = big 10 s.data.toList) := by show _ = _; rw [HN.out, hfull]
     clear hfull
     go_wp2
     go_ret
     exact ⟨by rw [HE.out, HZ.out]; rfl, hb1⟩
end Go.Proofs.YtmdofbccebkbiaaGreatDoor.QudB
namespace Go.Proofs.YtmdofbccebkbiaaGreatDoor.Rh
open Go.RowKit Base aT kW dM mX Ov
def Max (w : World) : Prop := ∃ m, w.cell? ⟨2, 0, none⟩ = some (.int .i64 m)
theorem FI (s : ByteArray) (w : World) (hs : s.size ≤ 1073741824) : Calls Tryz.prog 254 #[.string s] w fun e w' => e = .returned (.string (strOf (xg s.data.toList))) ∧ w = w' := by
 go_enter Tryz.func254, Tryz.ntmps254
 go_wp2_with fail
 refine (Tryz.strings_TrimSuffix s ⟨#[46]⟩ _ (by omega)).mono ?_
 rintro e w2 ⟨rfl, hw2⟩
 subst hw2
 go_wp2
 go_ret
 exact ⟨rfl, rfl⟩
theorem sD : ∀ (L : List UInt8) (k : Nat), L.count 46 ≤ k → Lib.splitK [46] 0 k L = bY L
 | [], 0, _ => rfl
 | [], k + 1, _ => rfl
 | b :: l, 0, h => by
  have hb : b ≠ 46 := by rintro rfl; simp at h
  have ih := sD l 0 (by rw [List.count_cons_of_ne (by simpa using hb)] at h; exact h)
  show [b :: l] = _
  rw [bY, if_neg hb, ← ih]
  rfl
 | b :: l, k + 1, h => by
  by_cases hb : b = 46
  ·subst hb
   have ih := sD l k (by simp at h; omega)
   have e : Lib.index (46 :: l) [46] = 0 := by rw [Lib.index, if_pos (by simp [List.isPrefixOf])]
   rw [bY, if_pos rfl, Lib.splitK, e, if_neg (by decide)]
   show [] :: _ = _
   rw [← ih]
   rfl
  ·have hc : l.count 46 ≤ k + 1 := by rw [List.count_cons_of_ne (by simpa using hb)] at h; exact h
   have ih := sD l (k + 1) hc
   have e : Lib.index (b :: l) [46] = if Lib.index l [46] == -1 then -1 else Lib.index l [46] + 1 := by rw [Lib.index, if_neg (by simp [List.isPrefixOf, Ne.symm hb])]
   rw [Lib.splitK] at ih ⊢
   rw [bY, if_neg hb, ← ih, e]
   by_cases hm : Lib.index l [46] = -1
   ·rw [hm]
    rfl
   ·have hge := Lib.index_ge l [46]
    obtain ⟨j, hj⟩ : ∃ j : Nat, Lib.index l [46] = j := ⟨(Lib.index l [46]).toNat, by omega⟩
    have h1 : ((j : Int) == -1) = false := beq_eq_false_iff_ne.2 (by omega)
    have h2 : ((j : Int) + 1 == -1) = false := beq_eq_false_iff_ne.2 (by omega)
    have h3 : ((j : Int) + 1).toNat = j + 1 := by omega
    simp only [hj, h1, Bool.false_eq_true, if_false, h2, h3]
    simp
def Read (w : World) (l : List (List UInt8)) (e : Ending) (w' : World) : Prop := ∃ A n c, e = .returned (.slice A n c) ∧ n = l.length ∧ n ≤ c ∧ c ≤ maxLen ∧ bK w' A n ((l.map strOf).map Value.string) ∧ Below w.heap.size w w'
theorem Xl (s : ByteArray) (w : World) (hs : s.size ≤ 1073741824) (hM : Max w) : Calls Tryz.prog 67 #[.string s, .string ⟨#[46]⟩] w (Read w (bY s.data.toList)) := by
 obtain ⟨m, hm⟩ := hM
 refine (Tryz.strings_Split s ⟨#[46]⟩ m w (by omega) hm (Nat.le_refl _)).mono ?_
 rintro e w' ⟨rfl, rfl⟩
 have hd := Lib.splitB_data ⟨#[46]⟩ 0 (Lib.countB s ⟨#[46]⟩) s
 rw [show (⟨#[46]⟩ : ByteArray).data.toList = [46] from rfl, sD _ _ (by rw [← Lib.count_one]; exact Nat.le_refl _)] at hd
 have hl := Lib.splitB_all ⟨#[46]⟩ (Nat.le_refl _) 0 _ s rfl
 have hc := Lib.countB_le ⟨#[46]⟩ (Nat.le_refl _) s.size s (Nat.le_refl _)
 generalize Lib.splitB ⟨#[46]⟩ 0 (Lib.countB s ⟨#[46]⟩) s = B at hd hl ⊢
 have hB : B = (bY s.data.toList).map strOf := by
  rw [← hd, List.map_map]
  conv => lhs; rw [← List.map_id B]
  exact List.map_congr_left fun x _ => (aS x).symm
 unfold Read
 rw [← hB]
 refine ⟨_, _, _, rfl, by rw [← hl, hB, List.length_map], Nat.le_refl _, by unfold maxLen; omega, ?_, (Below.refl _ _).alloc (Nat.le_refl _) _⟩
 exact bK.kG (by rw [List.length_map, hl]) (by simp) (fun j hj => by
  rw [Nat.zero_add, World.cell?_alloc_mark]
  simp)
theorem nC : (Tryz.prog.info? 9).map (fun i => (i.zero, i.size, i.bytes)) = some (some (.string ByteArray.empty), 1, 16) := by kernel_rfl
theorem ext_mid (s : ByteArray) (a b : Nat) : s.extract a b = strOf ((s.data.toList.take b).drop a) := by
 apply ByteArray.ext
 apply Array.ext'
 rw [ByteArray.data_extract]
 simp only [strOf, Array.toList_extract, List.extract_eq_take_drop]
 rw [List.drop_take]
def AY (w : World) (l : List (List UInt8)) (e : Ending) (w' : World) : Prop := ∃ v, e = .returned v ∧ w'.ownsRow w.heap.size 9 1 v l.length ((l.map strOf).map Value.string) ∧ Below w.heap.size w w'
theorem Nw (s : ByteArray) (w : World) (hs : s.size ≤ 900000) :
  Calls Tryz.prog 70 #[.string s, .int .u8 46] w (AY w (bY s.data.toList)) := by
 have hsl : s.data.toList.length = s.size := Array.length_toList
 obtain ⟨i0, hi, hz0, hz1, hz2⟩ := info_parts nC
 have HSL := hid hsl
 clear hsl
 obtain ⟨R, hR⟩ : ∃ R, R = bY s.data.toList := ⟨_, rfl⟩
 have hrl : R.length ≤ s.size + 1 := by have := pF s.data.toList; rw [← hR, HSL.out] at this; exact this
 rw [← hR]
 have HR := hid hR
 clear hR
 go_enter Tryz.func70, Tryz.ntmps70
 go_wp2
 go_loopw [5, 6, 7, 11] (fun vo vf _ vk wr => ∃ (k f : Nat) (xs : List (List UInt8)), k ≤ s.size + 1 ∧ f ≤ k ∧ xs.length ≤ k ∧ vk = .int .i64 (k : Int) ∧ vf = .int .i64 (f : Int) ∧ Hid (wr.ownsRow w.heap.size 9 1 vo xs.length ((xs.map strOf).map Value.string)) ∧ Hid (Below w.heap.size w wr) ∧ Hid (k ≤ s.size → bY (s.data.toList.take k) = xs ++ [(s.data.toList.take k).drop f]) ∧ Hid (k = s.size + 1 → R = xs)) (fun _ _ _ vk _ => s.size + 1 - (intOf vk).toNat)
 case atStart => exact ⟨0, 0, [], Nat.zero_le _, Nat.le_refl _, Nat.le_refl _, rfl, rfl, World.ownsRow_nil _ _ _ _, Below.refl _ _, fun _ => rfl, fun h => absurd h (by omega)⟩
 case round =>
  obtain ⟨k, f, xs, hk1, hfk, hxk, rfl, rfl, HO, HB, HW, HE⟩ := hrel
  obtain ⟨m, hm⟩ : ∃ m, m = xs.length := ⟨_, rfl⟩
  rw [← hm] at hxk
  have HM := hid hm
  clear hm
  by_cases hlt : k < s.size + 1
  ·have HW2 : Hid (bY (s.data.toList.take k) = xs ++ [(s.data.toList.take k).drop f]) := HW.out (by omega)
   clear HW HE
   obtain ⟨X, hX⟩ : ∃ X, X = s.extract f k := ⟨_, rfl⟩
   have hxe : s.extract f k = X := hX.symm
   have HX : Hid (X = strOf ((s.data.toList.take k).drop f)) := by show _ = _; rw [hX, ext_mid]
   have hfi : (f : Int) ≤ (k : Int) := by omega
   clear hX
   by_cases hks : k < s.size
   ·obtain ⟨c, hc⟩ : ∃ c, s[k] = c := ⟨_, rfl⟩
    have hkl : k < s.data.toList.length := by rw [HSL.out]; exact hks
    have hcl : s.data.toList[k] = c := hc
    have HS : Hid (s.data.toList.take (k + 1) = s.data.toList.take k ++ [c]) := by rw [← hcl]; exact take_snoc _ k hkl
    have HTL : Hid ((s.data.toList.take k).length = k) := by show _ = _; rw [List.length_take, HSL.out]; omega
    have q1 : ((k : Int) == (s.size : Int)) = false := by simp; omega
    have hki : (k : Int) ≤ (s.size : Int) := by omega
    clear hkl hcl
    by_cases h46 : c = 46
    ·have q2 : ((c.toNat : Int) == 46) = true := by rw [h46]; rfl
     have HN : Hid (bY (s.data.toList.take (k + 1)) = (xs ++ [(s.data.toList.take k).drop f]) ++ [(s.data.toList.take (k + 1)).drop (k + 1)]) := by
      show _ = _
      rw [HS.out, h46, sS, HW2.out]
      congr 2
      rw [List.drop_eq_nil_of_le]
      rw [List.length_append, HTL.out]
      exact Nat.le_refl _
     have XP : Hid (k + 1 = s.size + 1 → R = xs ++ [(s.data.toList.take k).drop f]) := fun h => absurd h (by omega)
     have hown := HO.out
     have hbel := HB.out
     rw [← HM.out] at hown
     clear h46
     go_wp2_with (at_builtin; refine bC rfl _ _ 23 rfl w.heap.size 9 i0 (.string ByteArray.empty) 16 Tryz.underlying23 hi hz0 hz1 hz2 rfl _ m _ rfl hown hbel hbel.size [.string X] 1 rfl rfl (by intro u hu; simp at hu; subst hu; rfl) (by unfold maxLen; omega) (by omega) ?_)
     intro v7 w7 dF dh
     have HX7 : Hid (w7.ownsRow w.heap.size 9 1 v7 (xs ++ [(s.data.toList.take k).drop f]).length (((xs ++ [(s.data.toList.take k).drop f]).map strOf).map Value.string)) := by
      show World.ownsRow _ _ _ _ _ _ _
      rw [List.length_append, List.map_append, List.map_append, ← HM.out]
      show World.ownsRow _ _ _ _ _ (m + 1) (_ ++ [Value.string (strOf ((s.data.toList.take k).drop f))])
      rw [← HX.out]
      simpa using dF
     have HY := hid dh
     clear hown hbel dF dh
     go_wp2
     go_roundw
     case rel => exact ⟨k + 1, k + 1, xs ++ [(s.data.toList.take k).drop f], by omega, Nat.le_refl _, by rw [List.length_append, ← HM.out]; show m + 1 ≤ _; omega, by go_num, by go_num, HX7, HY, fun _ => HN.out, XP⟩
     case measure => simp [intOf]; omega
    ·have q2 : ((c.toNat : Int) == 46) = false := uq (d := 46) h46
     have HN : Hid (bY (s.data.toList.take (k + 1)) = xs ++ [(s.data.toList.take (k + 1)).drop f]) := by
      show _ = _
      obtain ⟨xs', x', e1, e2⟩ := pY c h46 (s.data.toList.take k)
      have h3 := HW2.out.symm.trans e1
      obtain ⟨h4, h5⟩ := List.append_inj' h3 rfl
      have h5 : (s.data.toList.take k).drop f = x' := by simpa using h5
      rw [HS.out, e2, ← h4, ← h5, List.drop_append_of_le_length (by rw [HTL.out]; exact hfk)]
     have XP : Hid (k + 1 = s.size + 1 → R = xs) := fun h => absurd h (by omega)
     clear h46
     go_wp2
     go_roundw
     case rel => exact ⟨k + 1, f, xs, by omega, by omega, by rw [← HM.out]; omega, by go_num, rfl, HO, HB, fun _ => HN.out, XP⟩
     case measure => simp [intOf]; omega
   ·have hke : k = s.size := by omega
    have q1 : ((k : Int) == (s.size : Int)) = true := by simp; omega
    have hki : (k : Int) ≤ (s.size : Int) := by omega
    have XP : Hid (k + 1 = s.size + 1 → R = xs ++ [(s.data.toList.take k).drop f]) := by
     intro _
     rw [← HW2.out, HR.out, List.take_of_length_le (by rw [HSL.out, hke]; exact Nat.le_refl _)]
    have HFW : Hid (k + 1 ≤ s.size → bY (s.data.toList.take (k + 1)) = (xs ++ [(s.data.toList.take k).drop f]) ++ [(s.data.toList.take (k + 1)).drop (k + 1)]) := fun h => absurd h (by omega)
    have hown := HO.out
    have hbel := HB.out
    rw [← HM.out] at hown
    clear hke
    go_wp2_with (at_builtin; refine bC rfl _ _ 23 rfl w.heap.size 9 i0 (.string ByteArray.empty) 16 Tryz.underlying23 hi hz0 hz1 hz2 rfl _ m _ rfl hown hbel hbel.size [.string X] 1 rfl rfl (by intro u hu; simp at hu; subst hu; rfl) (by unfold maxLen; omega) (by omega) ?_)
    intro v7 w7 dF dh
    have HX7 : Hid (w7.ownsRow w.heap.size 9 1 v7 (xs ++ [(s.data.toList.take k).drop f]).length (((xs ++ [(s.data.toList.take k).drop f]).map strOf).map Value.string)) := by
     show World.ownsRow _ _ _ _ _ _ _
     rw [List.length_append, List.map_append, List.map_append, ← HM.out]
     show World.ownsRow _ _ _ _ _ (m + 1) (_ ++ [Value.string (strOf ((s.data.toList.take k).drop f))])
     rw [← HX.out]
     simpa using dF
    have HY := hid dh
    clear hown hbel dF dh
    go_wp2
    go_roundw
    case rel => exact ⟨k + 1, k + 1, xs ++ [(s.data.toList.take k).drop f], by omega, Nat.le_refl _, by rw [List.length_append, ← HM.out]; show m + 1 ≤ _; omega, by go_num, by go_num, HX7, HY, HFW, XP⟩
    case measure => simp [intOf]; omega
  ·obtain rfl : k = s.size + 1 := by omega
   obtain ⟨vA, vc, rfl, _, _, _⟩ := aU HO.out
   have HXX : Hid (AY w R (.returned (.slice vA xs.length vc)) wr) := by
    rw [HE.out rfl]
    exact ⟨_, rfl, HO.out, HB.out⟩
   go_wp2
   go_ret
   exact HXX.out
theorem DL (s : ByteArray) (w : World) (hs : s.size ≤ 900000) : Calls Tryz.prog 245 #[.string s] w (Read w (prt (bY s.data.toList))) := by
 have hsl : s.data.toList.length = s.size := Array.length_toList
 obtain ⟨R, hR⟩ : ∃ R, R = bY s.data.toList := ⟨_, rfl⟩
 have hrl : R.length ≤ s.size + 1 := by have := pF s.data.toList; rw [← hR, hsl] at this; exact this
 have Sr : 0 < R.length := by rw [hR]; exact List.length_pos_iff.2 (oN _)
 obtain ⟨n, hn⟩ : ∃ n, n = R.length := ⟨_, rfl⟩
 rw [← hR]
 have HR := hid hR
 rw [← hn] at hrl Sr
 have HN := hid hn
 clear hR hsl hn
 go_enter Tryz.func245, Tryz.ntmps245
 go_wp2_with fail
 refine (Nw s _ hs).mono ?_
 rw [← HR.out]
 rintro e w2 ⟨v2, rfl, hown2, hb2⟩
 rw [← HN.out] at hown2
 obtain ⟨A, c, rfl, hnc, hcm, hrd⟩ := aU hown2
 have sV := hid hrd
 have HB := hid hb2
 have HCM := hid hcm
 clear hown2 hrd hb2
 unfold maxLen at hcm
 obtain ⟨g, off, rfl, hg, hcell⟩ := sV.out.spot Sr
 by_cases h1 : 1 < n
 ·have hcl := hcell (n - 1) (by rw [List.length_map, List.length_map, ← HN.out]; omega)
  rw [List.getElem_map, List.getElem_map] at hcl
  obtain ⟨x, hx⟩ : ∃ x, x = R[n - 1]'(by rw [← HN.out]; omega) := ⟨_, rfl⟩
  rw [← hx] at hcl
  have Ua : Hid (R.getLast? = some x) := by
   show _ = _
   rw [List.getLast?_eq_getElem?, ← HN.out, hx, List.getElem?_eq_getElem]
  have hni : ((n : Int) - 1).toNat = n - 1 := by omega
  have hi1 : (1 : Int) < (n : Int) := by omega
  have hnm : off + ((n : Int) - 1).toNat = off + (n - 1) := by omega
  obtain ⟨X, hX⟩ : ∃ X, X = strOf x := ⟨_, rfl⟩
  rw [← hX] at hcl
  clear hcell hx
  by_cases hxe : x = []
  ·have hem : (X.toList == []) = true := by rw [hX, hxe]; unfold strOf; rw [ByteArray.toList_mk]; rfl
   have JH : X.toList = [] := by rw [hX, hxe]; unfold strOf; rw [ByteArray.toList_mk]
   have HP : Hid (prt R = R.take (n - 1)) := by show _ = _; unfold prt; rw [if_pos ⟨by rw [← HN.out]; exact h1, by rw [Ua.out, hxe]⟩, ← HN.out]
   have HX : Hid (Read w (prt R) (.returned (.slice (some ⟨g, off, none⟩) (n - 1) c)) w2) := by
    rw [HP.out]
    refine ⟨_, _, _, rfl, by rw [List.length_take, ← HN.out]; omega, by omega, HCM.out, ?_, HB.out⟩
    have := sV.out.upto (n - 1) (by omega)
    rw [List.map_take, List.map_take]
    exact this
   clear hxe hX
   go_wp2
   go_ret
   first | exact HX.out | (have := HX.out; simpa [hni] using this)
  ·have hem : (X.toList == []) = false := by rw [hX]; unfold strOf; rw [ByteArray.toList_mk]; simpa using hxe
   have JH : X.toList.isEmpty = false := by rw [hX]; unfold strOf; rw [ByteArray.toList_mk]; simpa using hxe
   have HP : Hid (prt R = R) := by show _ = _; unfold prt; rw [if_neg (fun h => hxe (by have := h.2; rw [Ua.out] at this; simpa using this))]
   have HX : Hid (Read w (prt R) (.returned (.slice (some ⟨g, off, none⟩) n c)) w2) := by
    rw [HP.out]
    exact ⟨_, _, _, rfl, HN.out, hnc, HCM.out, sV.out, HB.out⟩
   clear hxe hX
   go_wp2
   go_ret
   exact HX.out
 ·have HP : Hid (prt R = R) := by show _ = _; unfold prt; rw [if_neg (fun h => h1 (by rw [HN.out]; exact h.1))]
  have hi1 : ¬ (1 : Int) < (n : Int) := by omega
  have HX : Hid (Read w (prt R) (.returned (.slice (some ⟨g, off, none⟩) n c)) w2) := by
   rw [HP.out]
   exact ⟨_, _, _, rfl, HN.out, hnc, HCM.out, sV.out, HB.out⟩
  clear hcell
  go_wp2
  go_ret
  exact HX.out
end Go.Proofs.YtmdofbccebkbiaaGreatDoor.Rh
namespace Go.Proofs.YtmdofbccebkbiaaGreatDoor.Ri
open Go.RowKit Base aT dM mX Ov QudB Rh
theorem uy (L : List UInt8) (h : num L = none) : xH L = .tuple #[.int .u64 0, .bool false] := by unfold xH; rw [h]
theorem uz (L : List UInt8) (v : Nat) (h : num L = some v) : xH L = .tuple #[.int .u64 (sat v), .bool true] := by unfold xH; rw [h]
theorem uD (L : List UInt8) (h : num L = none) : xI L = -1 := by unfold xI; rw [h]; rfl
theorem uG (L : List UInt8) (v : Nat) (h : num L = some v) : ∃ D : Nat, xI L = D ∧ D ≤ 17592186044431 ∧ ((D < 1099511627776 ∧ D = v) ∨ (1099511627776 ≤ D ∧ 1099511627776 ≤ v)) := by
 have hb := aau L
 have hv : v = val (BZ L).1 (BZ L).2 := by
  unfold num at h
  split at h
  ·cases h
  ·split at h
   ·exact (Option.some.inj h).symm
   ·cases h
 refine ⟨big (BZ L).1 (BZ L).2, by unfold xI; rw [h]; rfl, G7 _ (by omega) _, ?_⟩
 have := big_rel (BZ L).1 (by omega) (BZ L).2
 rw [← hv] at this
 exact this
theorem UW (L : List UInt8) : (lst L).length ≤ L.length := by
 unfold lst
 cases h : (bY L).getLast? with
 | none => simp
 | some x => exact oz L x (List.mem_of_getLast? h)
theorem YS (s : ByteArray) (w : World) (hs : s.size ≤ 900000) : Calls Tryz.prog 232 #[.string s] w fun e w' => e = .returned (.bool (ends s.data.toList)) ∧ Below w.heap.size w w' := by
 have hsl : s.data.toList.length = s.size := Array.length_toList
 obtain ⟨K, hK⟩ : ∃ K, K = lst (xg s.data.toList) := ⟨_, rfl⟩
 obtain ⟨o, ho⟩ : ∃ o, o = ends s.data.toList := ⟨_, rfl⟩
 have ho2 : o = ((num K).isSome || (decide (K ≠ []) && dH 10 K)) := by rw [ho, hK]; rfl
 obtain ⟨U, hU⟩ : ∃ U, U = strOf (xg s.data.toList) := ⟨_, rfl⟩
 have hUd : U.data.toList = xg s.data.toList := by rw [hU]; rfl
 have hus : U.size ≤ 900000 := by rw [hU, ah]; have := zL s.data.toList; omega
 obtain ⟨hd1, hd2, hd3⟩ := Wj U
 rw [hUd, ← hK] at hd1
 obtain ⟨at_, hat⟩ : ∃ a, a = Lib.lastIndexByte U 46 := ⟨_, rfl⟩
 rw [← hat] at hd1 hd2 hd3
 obtain ⟨n, hn⟩ : ∃ n : Nat, (n : Int) = at_ + 1 := ⟨(at_ + 1).toNat, by omega⟩
 have hn2 : n = (at_ + 1).toNat := by omega
 rw [← hn2] at hd1
 obtain ⟨Y, hY⟩ : ∃ Y, Y = strOf K := ⟨_, rfl⟩
 have hYe : U.extract n U.size = Y := by rw [eH.ext_drop _ _ _ rfl, hUd, hd1, hY]
 have hYd : Y.data.toList = K := by rw [hY]; rfl
 have hys : Y.size ≤ 1073741824 := by
  have h1 := UW (xg s.data.toList)
  have h2 := zL s.data.toList
  rw [hY, ah, hK]; omega
 have hnu : (n : Int) ≤ (U.size : Int) := by omega
 have hn0 : (0 : Int) ≤ (n : Int) := by omega
 have hem : (Y.toList == []) = decide (K = []) := by rw [hY]; unfold strOf; rw [ByteArray.toList_mk, Bool.eq_iff_iff]; simp
 have HO := hid ho2
 have HU := hid hU
 have HAT := hid hat
 have HN : Hid (at_ + 1 = (n : Int)) := hn.symm
 have jK := hid hYd
 rw [← ho]
 have ha1 : -1 ≤ at_ := hd2
 have ha2 : at_ < 900000 := by omega
 clear ho ho2 hK hU hUd hd1 hd2 hd3 hat hn hn2 hY hYd hsl
 go_enter Tryz.func232, Tryz.ntmps232
 go_wp2_with fail
 refine (FI s _ (by omega)).mono ?_
 rintro e w2 ⟨rfl, hw2⟩
 subst hw2
 rw [← HU.out]
 go_wp2_with fail
 refine (Tryz.strings_LastIndexByte U 46 _ (by omega)).mono ?_
 rintro e w3 ⟨rfl, hw3⟩
 subst hw3
 rw [← HAT.out]
 have hN := HN.out
 cases hk : num K with
 | some v =>
  have HV := hid (uz K v hk)
  have HE : Hid (o = true) := by show _ = _; rw [HO.out, hk]; rfl
  clear hk
  go_wp2_with fail
  refine (dn Y _ hys).mono ?_
  rw [jK.out, HV.out]
  rintro e w4 ⟨rfl, hw4⟩
  subst hw4
  go_wp2
  go_ret
  exact ⟨aj HE.out.symm, Below.refl _ _⟩
 | none =>
  have HV := hid (uy K hk)
  have HE : Hid (o = (decide (K ≠ []) && dH 10 K)) := by show _ = _; rw [HO.out, hk]; rfl
  clear hk
  by_cases hke : K = []
  ·have Na : (Y.toList == []) = true := by rw [hem]; exact decide_eq_true hke
   have JH : Y.toList = [] := by simpa using Na
   have hem3 : (Y.toList != []) = false := by rw [bne, Na]; rfl
   have HE2 : Hid (o = false) := by show _ = _; rw [HE.out, decide_eq_false (fun h => h hke)]; rfl
   clear hem hke
   go_wp2_with fail
   refine (dn Y _ hys).mono ?_
   rw [jK.out, HV.out]
   rintro e w4 ⟨rfl, hw4⟩
   subst hw4
   go_wp2
   go_ret
   exact ⟨aj HE2.out.symm, Below.refl _ _⟩
  ·have Na : (Y.toList == []) = false := by rw [hem]; exact decide_eq_false hke
   have JH : Y.toList.isEmpty = false := by
    cases h : Y.toList with
    | nil => rw [h] at Na; cases Na
    | cons _ _ => rfl
   have hem3 : (Y.toList != []) = true := by rw [bne, Na]; rfl
   have HE2 : Hid (o = dH 10 K) := by show _ = _; rw [HE.out, decide_eq_true hke]; rfl
   clear hem hke
   go_wp2_with fail
   refine (dn Y _ hys).mono ?_
   rw [jK.out, HV.out]
   rintro e w4 ⟨rfl, hw4⟩
   subst hw4
   go_wp2_with fail
   refine (nZ Y 10 _ hys).mono ?_
   rw [jK.out]
   rintro e w5 ⟨rfl, hw5⟩
   subst hw5
   go_wp2
   go_ret
   exact ⟨aj HE2.out.symm, Below.refl _ _⟩
theorem last_any {α : Type} (l : List α) (n : Nat) (hn : n = l.length) (h0 : 0 < n) : ∃ h : n - 1 < l.length, l.getLast? = some l[n - 1] := by
 subst hn
 exact ⟨by omega, by rw [List.getLast?_eq_getElem?, List.getElem?_eq_getElem]⟩
theorem Fj (s : ByteArray) (w : World) (hs : s.size ≤ 900000) : Calls Tryz.prog 226 #[.string s] w fun e w' => e = .returned (.bool (ends s.data.toList)) ∧ Below w.heap.size w w' := by
 have hsl : s.data.toList.length = s.size := Array.length_toList
 obtain ⟨K, hK⟩ : ∃ K, K = lst (xg s.data.toList) := ⟨_, rfl⟩
 obtain ⟨o, ho⟩ : ∃ o, o = ends s.data.toList := ⟨_, rfl⟩
 have ho2 : o = ((num K).isSome || (decide (K ≠ []) && dH 10 K)) := by rw [ho, hK]; rfl
 obtain ⟨R, hR⟩ : ∃ R, R = prt (bY s.data.toList) := ⟨_, rfl⟩
 have hR2 : R = bY (xg s.data.toList) := by rw [hR, PY]
 have hrl : R.length ≤ s.size + 1 := by have h1 := pF (xg s.data.toList); have h2 := zL s.data.toList; rw [hR2]; omega
 have Sr : 0 < R.length := by rw [hR2]; exact List.length_pos_iff.2 (oN _)
 obtain ⟨hlt, hlast⟩ := last_any R R.length rfl Sr
 have hKR : R[R.length - 1] = K := by
  rw [hK]; unfold lst; rw [← hR2, hlast]; rfl
 obtain ⟨Y, hY⟩ : ∃ Y, Y = strOf K := ⟨_, rfl⟩
 have hYd : Y.data.toList = K := by rw [hY]; rfl
 have hyl : K.length = Y.size := by rw [hY, ah]
 have hys : Y.size ≤ 900000 := by
  have h1 := UW (xg s.data.toList)
  have h2 := zL s.data.toList
  rw [hY, ah, hK]; omega
 have hem : (Y.toList == []) = decide (K = []) := by rw [hY]; unfold strOf; rw [ByteArray.toList_mk, Bool.eq_iff_iff]; simp
 have HO := hid ho2
 have HR := hid hR
 have jK := hid hYd
 have HYL := hid hyl
 have HKR : Hid (∀ n, n = R.length → ∃ h : n - 1 < R.length, R[n - 1] = K) := by
  rintro n rfl
  exact ⟨hlt, hKR⟩
 have HY := hid hY
 rw [← ho]
 clear ho ho2 hK hR hR2 hlast hKR hlt hY hYd hsl hyl
 go_enter Tryz.func226, Tryz.ntmps226
 go_wp2_with fail
 refine (DL s _ hs).mono ?_
 rw [← HR.out]
 rintro e w2 ⟨A, n, c, rfl, hn, hnc, hcm, hrd, hb2⟩
 rw [← hn] at hrl Sr
 obtain ⟨h1, h2⟩ := HKR.out n hn
 obtain ⟨g, off, rfl, hg, hcell⟩ := hrd.spot Sr
 have hcl := hcell (n - 1) (by rw [List.length_map, List.length_map]; exact h1)
 rw [List.getElem_map, List.getElem_map, h2, ← HY.out] at hcl
 have HB := hid hb2
 have hni : ((n : Int) - 1).toNat = n - 1 := by omega
 unfold maxLen at hcm
 clear hn hrd hcell h1 h2 hb2
 obtain ⟨d0, hd0⟩ : ∃ d0, d0 = decide (K ≠ []) := ⟨_, rfl⟩
 have HD0 := hid hd0
 have Na : (Y.toList == []) = !d0 := by rw [hem, hd0]; by_cases h : K = [] <;> simp [h]
 have hem3 : (Y.toList != []) = d0 := by rw [bne, Na, Bool.not_not]
 have JH : Y.toList.isEmpty = !d0 := by
  rw [← Na]
  cases Y.toList <;> rfl
 clear hem hd0
 go_wp2
 go_loopw [5, 6, 19] (fun vd _ vk wr => ∃ k : Nat, k ≤ Y.size ∧ vk = .int .i64 (k : Int) ∧ wr = w2 ∧ vd = .bool (d0 && dH 10 (K.take k))) (fun _ _ vk _ => Y.size - (intOf vk).toNat)
 case atStart => exact ⟨0, Nat.zero_le _, rfl, rfl, by simp [dH]⟩
 case round =>
  obtain ⟨k, hk, rfl, rfl, rfl⟩ := hrel
  obtain ⟨d, hd⟩ : ∃ d, d = (d0 && dH 10 (K.take k)) := ⟨_, rfl⟩
  rw [← hd]
  have HD := hid hd
  clear hd
  by_cases hlt : k < Y.size
  ·obtain ⟨x, hx⟩ : ∃ x, Y[k] = x := ⟨_, rfl⟩
   have hkl : k < K.length := by rw [HYL.out]; exact hlt
   have hxK : K[k] = x := by
    have : Y.data.toList[k]? = some x := by rw [← hx]; exact Lib.data_getElem? Y k hlt
    rw [jK.out] at this
    obtain ⟨_, e⟩ := List.getElem?_eq_some_iff.1 this
    exact e
   have HS : Hid (K.take (k + 1) = K.take k ++ [x]) := by rw [← hxK]; exact take_snoc _ k hkl
   have N7 : Hid ((d0 && dH 10 (K.take (k + 1))) = (d && jV 10 x)) := by
    show _ = _
    rw [HS.out, HD.out]
    unfold dH
    rw [List.all_append, List.all_cons, List.all_nil, Bool.and_true, Bool.and_assoc]
   obtain ⟨b, hb⟩ : ∃ b, b = dM.digit x.toNat := ⟨_, rfl⟩
   have HB2 := hid hb
   have HBD : Hid (b = jV 10 x) := hb.trans (tY x)
   clear hkl hxK hb
   cases d with
   | true =>
    go_wp2_with fail
    refine (kM.jE _ _).mono ?_
    rintro e w3 ⟨rfl, hw3⟩
    subst hw3
    rw [← HB2.out]
    go_wp2
    go_roundw
    case rel => exact ⟨k + 1, by omega, by go_num, by first | rfl | trivial, by rw [N7.out, HBD.out]; rfl⟩
    case measure => simp [intOf]; omega
   | false =>
    go_wp2
    go_roundw
    case rel => exact ⟨k + 1, by omega, by go_num, by first | rfl | trivial, by rw [N7.out]; rfl⟩
    case measure => simp [intOf]; omega
  ·obtain rfl : k = Y.size := by omega
   have Jv : Hid (d = (d0 && dH 10 K)) := by show _ = _; rw [HD.out, List.take_of_length_le (by rw [HYL.out]; exact Nat.le_refl _)]
   have HE : Hid (o = ((num K).isSome || d)) := by show _ = _; rw [HO.out, Jv.out, HD0.out]
   cases d with
   | true =>
    have HE2 : Hid (o = true) := by show _ = _; rw [HE.out, Bool.or_true]
    go_wp2
    go_ret
    exact ⟨aj HE2.out.symm, HB.out⟩
   | false =>
    cases hk : num K with
    | none =>
     have HV := hid (uD K hk)
     have HE2 : Hid (o = false) := by show _ = _; rw [HE.out, hk]; rfl
     clear hk
     go_wp2_with fail
     refine (bH Y _ (by omega)).mono ?_
     rw [jK.out, HV.out]
     rintro e w4 ⟨rfl, hb4⟩
     go_wp2
     go_ret
     exact ⟨aj HE2.out.symm, bel HB.out hb4⟩
    | some v =>
     obtain ⟨D, hD, _, _⟩ := uG K v hk
     have HV := hid hD
     have HE2 : Hid (o = true) := by show _ = _; rw [HE.out, hk]; rfl
     have hD0 : (0 : Int) ≤ (D : Int) := by omega
     clear hk hD
     go_wp2_with fail
     refine (bH Y _ (by omega)).mono ?_
     rw [jK.out, HV.out]
     rintro e w4 ⟨rfl, hb4⟩
     go_wp2
     go_ret
     exact ⟨aj HE2.out.symm, bel HB.out hb4⟩
end Go.Proofs.YtmdofbccebkbiaaGreatDoor.Ri
namespace Go.Proofs.YtmdofbccebkbiaaGreatDoor.wS
open Go.RowKit Base aT dM mX Ov QudB Rh Ri
def rG (o : Option Nat) : Value := match o with
 | some v => .tuple #[.int .u32 v, .bool true]
 | none => .tuple #[.int .u32 0, .bool false]
theorem cO (o : Option Nat) (h : o = none) : rG o = .tuple #[.int .u32 0, .bool false] := by rw [h]; rfl
theorem uJ (o : Option Nat) (v : Nat) (h : o = some v) : rG o = .tuple #[.int .u32 v, .bool true] := by rw [h]; rfl
theorem drop_at {α : Type} (R : List α) (k : Nat) (p : α) (hk : k < R.length) (h : R[k] = p) : R.drop k = p :: R.drop (k + 1) := by rw [← h]; exact List.drop_eq_getElem_cons hk
theorem xP (most acc : Nat) (p : List UInt8) (r : List (List UInt8)) (h : num p = none) : kY most acc (p :: r) = none := by
 cases r <;> (unfold kY; rw [h])
theorem kZ (most acc : Nat) (p : List UInt8) (v : Nat) (h : num p = some v) (hv : v < most) : kY most acc [p] = some (acc + v) := by unfold kY; rw [h]; simp only; rw [if_pos hv]
theorem jk (most acc : Nat) (p : List UInt8) (v : Nat) (h : num p = some v) (hv : ¬ v < most) : kY most acc [p] = none := by unfold kY; rw [h]; simp only; rw [if_neg hv]
theorem uZ (most acc : Nat) (p q : List UInt8) (r : List (List UInt8)) (v : Nat) (h : num p = some v) (hv : v ≤ 255) : kY most acc (p :: q :: r) = kY (most / 256) (acc + v * (most / 256)) (q :: r) := by
 conv => lhs; unfold kY
 rw [h]; simp only; rw [if_pos hv]
theorem nU (most acc : Nat) (p q : List UInt8) (r : List (List UInt8)) (v : Nat) (h : num p = some v) (hv : ¬ v ≤ 255) : kY most acc (p :: q :: r) = none := by unfold kY; rw [h]; simp only; rw [if_neg hv]
theorem drop_end {α : Type} (R : List α) (k : Nat) (h : R.length = k) : R.drop k = [] := by subst h; exact List.drop_length
def mk : Nat → Nat
 | 0 => 4294967296
 | 1 => 16777216
 | 2 => 65536
 | 3 => 256
 | _ => 1
theorem yL (v m : Nat) (hm : m ≤ 4294967296) : v < m ↔ sat v < m := by unfold sat; omega
theorem BP (v : Nat) (h : sat v < 4294967296) : sat v = v := by unfold sat at h ⊢; omega
theorem parse_any (s : ByteArray) (w : World) (hs : s.size ≤ 900000) (hM : Max w) : Calls Tryz.prog 233 #[.string s] w fun e w' => e = .returned (rG (FX s.data.toList)) ∧ Below w.heap.size w w' := by
 have hsl : s.data.toList.length = s.size := Array.length_toList
 obtain ⟨S, hS⟩ : ∃ S, S = FX s.data.toList := ⟨_, rfl⟩
 obtain ⟨R, hR⟩ : ∃ R, R = bY (xg s.data.toList) := ⟨_, rfl⟩
 have hS2 : S = if R.length ≤ 4 then kY 4294967296 0 R else none := by rw [hS, hR]; rfl
 obtain ⟨U, hU⟩ : ∃ U, U = strOf (xg s.data.toList) := ⟨_, rfl⟩
 have hUd : U.data.toList = xg s.data.toList := by rw [hU]; rfl
 have hul : (xg s.data.toList).length ≤ s.size := by rw [← hsl]; exact zL _
 have hus : U.size ≤ 900000 := by rw [hU, ah]; omega
 have Sr : 0 < R.length := by rw [hR]; exact List.length_pos_iff.2 (oN _)
 have hrl : R.length ≤ 900001 := by have := pF (xg s.data.toList); rw [hR]; omega
 have wG : Hid (∀ p ∈ R, p.length ≤ 900000) := by
  intro p hp
  rw [hR] at hp
  have := oz _ p hp
  omega
 have hUR : bY U.data.toList = R := by rw [hUd, hR]
 have HUR := hid hUR
 have HU := hid hU
 have Uc := hid hM
 have HS2 := hid hS2
 rw [← hS]
 clear hS hS2 hR hU hUd hul hUR hM hsl
 go_enter Tryz.func233, Tryz.ntmps233
 go_wp2_with fail
 refine (FI s _ (by omega)).mono ?_
 rintro e w2 ⟨rfl, hw2⟩
 subst hw2
 rw [← HU.out]
 go_wp2_with fail
 refine (Xl U _ (by omega) Uc.out).mono ?_
 rw [HUR.out]
 rintro e w3 ⟨A, n, c, rfl, hn, hnc, hcm, hrd, hb⟩
 rw [← hn] at Sr hrl
 obtain ⟨g, off, rfl, hg, hcell⟩ := hrd.spot Sr
 have TY := hid hcell
 have HB := hid hb
 have HN := hid hn
 unfold maxLen at hcm
 clear hn hrd hcell hb
 by_cases h4 : n ≤ 4
 ·have h4i : ¬ (3 : Int) < (n : Int) - 1 := by omega
  have HW0 : Hid (S = kY 4294967296 0 (R.drop 0)) := by show _ = _; rw [HS2.out, if_pos (by rw [← HN.out]; exact h4), List.drop_zero]
  go_wp2
  obtain ⟨q, hq⟩ : ∃ q : Int, q = (n : Int) - 1 := ⟨_, rfl⟩
  rw [← hq]
  have HQ := hid hq
  clear hq h4i
  generalize decide ((3 : Int) < q) = dd
  go_loopw [6, 7, 8, 9, 10, 21] (fun va _ _ _ _ vk wr => ∃ (k acc : Nat), k ≤ n ∧ vk = .int .i64 (k : Int) ∧ wr = w3 ∧ va = .int .u64 (acc : Int) ∧ acc < 4294967296 ∧ Hid (k < n → acc + mk k ≤ 4294967296) ∧ Hid (S = kY (mk k) acc (R.drop k))) (fun _ _ _ _ _ vk _ => n - (intOf vk).toNat)
  case atStart => exact ⟨0, 0, Nat.zero_le _, rfl, rfl, rfl, by omega, fun _ => Nat.le_refl _, HW0⟩
  case round =>
   clear HW0
   obtain ⟨k, acc, hk, rfl, rfl, rfl, lD, HAC, HW⟩ := hrel
   by_cases hlt : k < n
   ·have hacc := HAC.out hlt
    have hk4 : k = 0 ∨ k = 1 ∨ k = 2 ∨ k = 3 := by omega
    clear HAC
    rcases hk4 with rfl | rfl | rfl | rfl
    ·simp only [mk] at hacc HW
     obtain ⟨p, hp⟩ : ∃ p, p = R[0]'(by rw [← HN.out]; exact hlt) := ⟨_, rfl⟩
     obtain ⟨Y, hY⟩ : ∃ Y, Y = strOf p := ⟨_, rfl⟩
     have hcl := (TY.out 0 (by rw [List.length_map, List.length_map, ← HN.out]; exact hlt))
     rw [List.getElem_map, List.getElem_map, ← hp, ← hY] at hcl
     try rw [Nat.add_zero] at hcl
     have jK : Hid (Y.data.toList = p) := by show _ = _; rw [hY]; rfl
     have hys : Y.size ≤ 1073741824 := by
      rw [hY, ah]
      have := wG.out p (by rw [hp]; exact List.getElem_mem _)
      omega
     have HDR : Hid (R.drop 0 = p :: R.drop 1) := drop_at R 0 p (by rw [← HN.out]; exact hlt) hp.symm
     clear hp hY
     cases hnp : num p with
     | none =>
      have HV := hid (uy p hnp)
      have HE := hid (cO S (by rw [HW.out, HDR.out]; exact xP _ _ _ _ hnp))
      clear hnp
      go_wp2_with fail
      refine (dn Y _ hys).mono ?_
      rw [jK.out, HV.out]
      rintro e w4 ⟨rfl, hw4⟩
      subst hw4
      go_wp2
      go_ret2
      exact ⟨by rw [HE.out]; rfl, HB.out⟩
     | some v =>
      have HV := hid (uz p v hnp)
      obtain ⟨x, hx⟩ : ∃ x, x = sat v := ⟨_, rfl⟩
      have hx2 : x ≤ 4294967296 := by rw [hx]; unfold sat; omega
      rw [← hx] at HV
      by_cases hq : n = 1
      ·have qO : R.drop 1 = [] := drop_end R _ (by rw [← HN.out]; exact hq)
       have hA : ((0 : Int) == q) = true := by have := HQ.out; simp; omega
       have hB : ¬ (0 : Int) < q := by have := HQ.out; omega
       have hC : 4 - q = 4 := by have := HQ.out; omega
       have xB := hid hq
       clear hq
       by_cases hxm : x < 4294967296
       ·have hxv : x = v := by rw [hx]; exact BP v (by rw [← hx]; omega)
        have HE := hid ((show S = kY 4294967296 acc [p] by rw [HW.out, HDR.out, qO]).trans (kZ 4294967296 acc p v hnp ((yL v 4294967296 (by omega)).2 (by rw [← hx]; exact hxm))))
        have JZ := hid hxv
        have QO := hid qO
        clear hnp hx hxv qO
        have dL : Hid ((acc : Int) + (x : Int) = ((acc + v : Nat) : Int)) := by show _ = _; rw [JZ.out]; omega
        have hxi : (x : Int) < 4294967296 := by omega
        have hx0 : (0 : Int) ≤ (x : Int) := by omega
        have hai : (acc : Int) + 4294967296 ≤ 4294967296 := by omega
        have ha0 : (0 : Int) ≤ (acc : Int) := by omega
        have hvb : acc + v < 4294967296 := by have := JZ.out; omega
        have zS := hid hvb
        clear hxm hx2 hacc hvb
        have Ef : Hid (S = kY (mk 1) (acc + v) (R.drop 1)) := by show _ = _; rw [QO.out]; exact HE.out
        generalize (x : Int) = X at hxi hx0 dL HV
        generalize (acc : Int) = AC at hai ha0 dL ⊢
        go_wp2_with fail
        refine (dn Y _ hys).mono ?_
        rw [jK.out, HV.out]
        rintro e w4 ⟨rfl, hw4⟩
        subst hw4
        go_wp2
        go_roundw
        case rel => exact ⟨1, acc + v, by have := xB.out; omega, by go_num, by first | rfl | trivial, by first | exact int_eq dL.out | (rw [← dL.out]), zS.out, fun h => absurd h (by have := xB.out; omega), Ef⟩
        case measure => (have := xB.out; simp [intOf]; omega)
       ·have HE := hid (cO S ((show S = kY 4294967296 acc [p] by rw [HW.out, HDR.out, qO]).trans (jk 4294967296 acc p v hnp (fun h => hxm (by rw [hx]; exact (yL v 4294967296 (by omega)).1 h)))))
        have hxi : ¬ (x : Int) < 4294967296 := by omega
        have hx0 : (0 : Int) ≤ (x : Int) := by omega
        have EH : (x : Int) ≤ 4294967296 := by omega
        clear hnp hx qO hxm hx2
        generalize (x : Int) = X at hxi hx0 EH HV
        generalize (acc : Int) = AC
        go_wp2_with fail
        refine (dn Y _ hys).mono ?_
        rw [jK.out, HV.out]
        rintro e w4 ⟨rfl, hw4⟩
        subst hw4
        go_wp2
        go_ret2
        exact ⟨by rw [HE.out]; rfl, HB.out⟩
      ·have hA : ((0 : Int) == q) = false := by have := HQ.out; simp; omega
       have hB : (0 : Int) < q := by have := HQ.out; omega
       have hlt2 : 1 < n := by omega
       obtain ⟨p2, hp2⟩ : ∃ p2, p2 = R[1]'(by rw [← HN.out]; exact hlt2) := ⟨_, rfl⟩
       have jU : R.drop 1 = p2 :: R.drop 2 := drop_at R 1 p2 (by rw [← HN.out]; exact hlt2) hp2.symm
       have xA := hid hlt2
       clear hp2 hq hlt2
       by_cases hxm : x ≤ 255
       ·have hxv : x = v := by rw [hx]; exact BP v (by rw [← hx]; omega)
        have HE := hid ((show S = kY 4294967296 acc (p :: p2 :: R.drop 2) by rw [HW.out, HDR.out, jU]).trans (uZ 4294967296 acc p p2 (R.drop 2) v hnp (by omega)))
        have Gy := hid jU
        have JZ := hid hxv
        clear hnp hx hxv jU
        have dL : Hid ((acc : Int) + (x : Int) * 16777216 = ((acc + v * 16777216 : Nat) : Int)) := by show _ = _; rw [JZ.out]; omega
        have hxi : (x : Int) ≤ 255 := by omega
        have hx0 : (0 : Int) ≤ (x : Int) := by omega
        have hai : (acc : Int) + 4294967296 ≤ 4294967296 := by omega
        have ha0 : (0 : Int) ≤ (acc : Int) := by omega
        have zS : Hid (acc + v * 16777216 + 16777216 ≤ 4294967296) := by have := JZ.out; show _ ≤ _; omega
        have Ef : Hid (S = kY (mk 1) (acc + v * 16777216) (R.drop 1)) := by show _ = _; rw [Gy.out]; exact HE.out
        clear hxm hx2 hacc
        generalize (x : Int) = X at hxi hx0 dL HV
        generalize (acc : Int) = AC at hai ha0 dL ⊢
        go_wp2_with fail
        refine (dn Y _ hys).mono ?_
        rw [jK.out, HV.out]
        rintro e w4 ⟨rfl, hw4⟩
        subst hw4
        go_wp2
        go_roundw
        case rel => exact ⟨1, acc + v * 16777216, by have := xA.out; omega, by go_num, by first | rfl | trivial, by first | exact int_eq dL.out | (rw [← dL.out]), by have := zS.out; omega, fun _ => zS.out, Ef⟩
        case measure => (have := xA.out; simp [intOf]; omega)
       ·have HE := hid (cO S ((show S = kY 4294967296 acc (p :: p2 :: R.drop 2) by rw [HW.out, HDR.out, jU]).trans (nU 4294967296 acc p p2 (R.drop 2) v hnp (fun h => hxm (by rw [hx]; unfold sat; omega)))))
        have hxi : ¬ (x : Int) ≤ 255 := by omega
        have Ig : (255 : Int) < (x : Int) := by omega
        have EH : (x : Int) ≤ 4294967296 := by omega
        clear hnp hx jU hxm hx2
        generalize (x : Int) = X at hxi Ig EH HV
        generalize (acc : Int) = AC
        go_wp2_with fail
        refine (dn Y _ hys).mono ?_
        rw [jK.out, HV.out]
        rintro e w4 ⟨rfl, hw4⟩
        subst hw4
        go_wp2
        go_ret2
        exact ⟨by rw [HE.out]; rfl, HB.out⟩
    ·simp only [mk] at hacc HW
     obtain ⟨p, hp⟩ : ∃ p, p = R[1]'(by rw [← HN.out]; exact hlt) := ⟨_, rfl⟩
     obtain ⟨Y, hY⟩ : ∃ Y, Y = strOf p := ⟨_, rfl⟩
     have hcl := (TY.out 1 (by rw [List.length_map, List.length_map, ← HN.out]; exact hlt))
     rw [List.getElem_map, List.getElem_map, ← hp, ← hY] at hcl
     try rw [Nat.add_zero] at hcl
     have jK : Hid (Y.data.toList = p) := by show _ = _; rw [hY]; rfl
     have hys : Y.size ≤ 1073741824 := by
      rw [hY, ah]
      have := wG.out p (by rw [hp]; exact List.getElem_mem _)
      omega
     have HDR : Hid (R.drop 1 = p :: R.drop 2) := drop_at R 1 p (by rw [← HN.out]; exact hlt) hp.symm
     clear hp hY
     cases hnp : num p with
     | none =>
      have HV := hid (uy p hnp)
      have HE := hid (cO S (by rw [HW.out, HDR.out]; exact xP _ _ _ _ hnp))
      clear hnp
      go_wp2_with fail
      refine (dn Y _ hys).mono ?_
      rw [jK.out, HV.out]
      rintro e w4 ⟨rfl, hw4⟩
      subst hw4
      go_wp2
      go_ret2
      exact ⟨by rw [HE.out]; rfl, HB.out⟩
     | some v =>
      have HV := hid (uz p v hnp)
      obtain ⟨x, hx⟩ : ∃ x, x = sat v := ⟨_, rfl⟩
      have hx2 : x ≤ 4294967296 := by rw [hx]; unfold sat; omega
      rw [← hx] at HV
      by_cases hq : n = 2
      ·have qO : R.drop 2 = [] := drop_end R _ (by rw [← HN.out]; exact hq)
       have hA : ((1 : Int) == q) = true := by have := HQ.out; simp; omega
       have hB : ¬ (1 : Int) < q := by have := HQ.out; omega
       have hC : 4 - q = 3 := by have := HQ.out; omega
       have xB := hid hq
       clear hq
       by_cases hxm : x < 16777216
       ·have hxv : x = v := by rw [hx]; exact BP v (by rw [← hx]; omega)
        have HE := hid ((show S = kY 16777216 acc [p] by rw [HW.out, HDR.out, qO]).trans (kZ 16777216 acc p v hnp ((yL v 16777216 (by omega)).2 (by rw [← hx]; exact hxm))))
        have JZ := hid hxv
        have QO := hid qO
        clear hnp hx hxv qO
        have dL : Hid ((acc : Int) + (x : Int) = ((acc + v : Nat) : Int)) := by show _ = _; rw [JZ.out]; omega
        have hxi : (x : Int) < 16777216 := by omega
        have hx0 : (0 : Int) ≤ (x : Int) := by omega
        have hai : (acc : Int) + 16777216 ≤ 4294967296 := by omega
        have ha0 : (0 : Int) ≤ (acc : Int) := by omega
        have hvb : acc + v < 4294967296 := by have := JZ.out; omega
        have zS := hid hvb
        clear hxm hx2 hacc hvb
        have Ef : Hid (S = kY (mk 2) (acc + v) (R.drop 2)) := by show _ = _; rw [QO.out]; exact HE.out
        generalize (x : Int) = X at hxi hx0 dL HV
        generalize (acc : Int) = AC at hai ha0 dL ⊢
        go_wp2_with fail
        refine (dn Y _ hys).mono ?_
        rw [jK.out, HV.out]
        rintro e w4 ⟨rfl, hw4⟩
        subst hw4
        go_wp2
        go_roundw
        case rel => exact ⟨2, acc + v, by have := xB.out; omega, by go_num, by first | rfl | trivial, by first | exact int_eq dL.out | (rw [← dL.out]), zS.out, fun h => absurd h (by have := xB.out; omega), Ef⟩
        case measure => (have := xB.out; simp [intOf]; omega)
       ·have HE := hid (cO S ((show S = kY 16777216 acc [p] by rw [HW.out, HDR.out, qO]).trans (jk 16777216 acc p v hnp (fun h => hxm (by rw [hx]; exact (yL v 16777216 (by omega)).1 h)))))
        have hxi : ¬ (x : Int) < 16777216 := by omega
        have hx0 : (0 : Int) ≤ (x : Int) := by omega
        have EH : (x : Int) ≤ 4294967296 := by omega
        clear hnp hx qO hxm hx2
        generalize (x : Int) = X at hxi hx0 EH HV
        generalize (acc : Int) = AC
        go_wp2_with fail
        refine (dn Y _ hys).mono ?_
        rw [jK.out, HV.out]
        rintro e w4 ⟨rfl, hw4⟩
        subst hw4
        go_wp2
        go_ret2
        exact ⟨by rw [HE.out]; rfl, HB.out⟩
      ·have hA : ((1 : Int) == q) = false := by have := HQ.out; simp; omega
       have hB : (1 : Int) < q := by have := HQ.out; omega
       have hlt2 : 2 < n := by omega
       obtain ⟨p2, hp2⟩ : ∃ p2, p2 = R[2]'(by rw [← HN.out]; exact hlt2) := ⟨_, rfl⟩
       have jU : R.drop 2 = p2 :: R.drop 3 := drop_at R 2 p2 (by rw [← HN.out]; exact hlt2) hp2.symm
       have xA := hid hlt2
       clear hp2 hq hlt2
       by_cases hxm : x ≤ 255
       ·have hxv : x = v := by rw [hx]; exact BP v (by rw [← hx]; omega)
        have HE := hid ((show S = kY 16777216 acc (p :: p2 :: R.drop 3) by rw [HW.out, HDR.out, jU]).trans (uZ 16777216 acc p p2 (R.drop 3) v hnp (by omega)))
        have Gy := hid jU
        have JZ := hid hxv
        clear hnp hx hxv jU
        have dL : Hid ((acc : Int) + (x : Int) * 65536 = ((acc + v * 65536 : Nat) : Int)) := by show _ = _; rw [JZ.out]; omega
        have hxi : (x : Int) ≤ 255 := by omega
        have hx0 : (0 : Int) ≤ (x : Int) := by omega
        have hai : (acc : Int) + 16777216 ≤ 4294967296 := by omega
        have ha0 : (0 : Int) ≤ (acc : Int) := by omega
        have zS : Hid (acc + v * 65536 + 65536 ≤ 4294967296) := by have := JZ.out; show _ ≤ _; omega
        have Ef : Hid (S = kY (mk 2) (acc + v * 65536) (R.drop 2)) := by show _ = _; rw [Gy.out]; exact HE.out
        clear hxm hx2 hacc
        generalize (x : Int) = X at hxi hx0 dL HV
        generalize (acc : Int) = AC at hai ha0 dL ⊢
        go_wp2_with fail
        refine (dn Y _ hys).mono ?_
        rw [jK.out, HV.out]
        rintro e w4 ⟨rfl, hw4⟩
        subst hw4
        go_wp2
        go_roundw
        case rel => exact ⟨2, acc + v * 65536, by have := xA.out; omega, by go_num, by first | rfl | trivial, by first | exact int_eq dL.out | (rw [← dL.out]), by have := zS.out; omega, fun _ => zS.out, Ef⟩
        case measure => (have := xA.out; simp [intOf]; omega)
       ·have HE := hid (cO S ((show S = kY 16777216 acc (p :: p2 :: R.drop 3) by rw [HW.out, HDR.out, jU]).trans (nU 16777216 acc p p2 (R.drop 3) v hnp (fun h => hxm (by rw [hx]; unfold sat; omega)))))
        have hxi : ¬ (x : Int) ≤ 255 := by omega
        have Ig : (255 : Int) < (x : Int) := by omega
        have EH : (x : Int) ≤ 4294967296 := by omega
        clear hnp hx jU hxm hx2
        generalize (x : Int) = X at hxi Ig EH HV
        generalize (acc : Int) = AC
        go_wp2_with fail
        refine (dn Y _ hys).mono ?_
        rw [jK.out, HV.out]
        rintro e w4 ⟨rfl, hw4⟩
        subst hw4
        go_wp2
        go_ret2
        exact ⟨by rw [HE.out]; rfl, HB.out⟩
    ·simp only [mk] at hacc HW
     obtain ⟨p, hp⟩ : ∃ p, p = R[2]'(by rw [← HN.out]; exact hlt) := ⟨_, rfl⟩
     obtain ⟨Y, hY⟩ : ∃ Y, Y = strOf p := ⟨_, rfl⟩
     have hcl := (TY.out 2 (by rw [List.length_map, List.length_map, ← HN.out]; exact hlt))
     rw [List.getElem_map, List.getElem_map, ← hp, ← hY] at hcl
     try rw [Nat.add_zero] at hcl
     have jK : Hid (Y.data.toList = p) := by show _ = _; rw [hY]; rfl
     have hys : Y.size ≤ 1073741824 := by
      rw [hY, ah]
      have := wG.out p (by rw [hp]; exact List.getElem_mem _)
      omega
     have HDR : Hid (R.drop 2 = p :: R.drop 3) := drop_at R 2 p (by rw [← HN.out]; exact hlt) hp.symm
     clear hp hY
     cases hnp : num p with
     | none =>
      have HV := hid (uy p hnp)
      have HE := hid (cO S (by rw [HW.out, HDR.out]; exact xP _ _ _ _ hnp))
      clear hnp
      go_wp2_with fail
      refine (dn Y _ hys).mono ?_
      rw [jK.out, HV.out]
      rintro e w4 ⟨rfl, hw4⟩
      subst hw4
      go_wp2
      go_ret2
      exact ⟨by rw [HE.out]; rfl, HB.out⟩
     | some v =>
      have HV := hid (uz p v hnp)
      obtain ⟨x, hx⟩ : ∃ x, x = sat v := ⟨_, rfl⟩
      have hx2 : x ≤ 4294967296 := by rw [hx]; unfold sat; omega
      rw [← hx] at HV
      by_cases hq : n = 3
      ·have qO : R.drop 3 = [] := drop_end R _ (by rw [← HN.out]; exact hq)
       have hA : ((2 : Int) == q) = true := by have := HQ.out; simp; omega
       have hB : ¬ (2 : Int) < q := by have := HQ.out; omega
       have hC : 4 - q = 2 := by have := HQ.out; omega
       have xB := hid hq
       clear hq
       by_cases hxm : x < 65536
       ·have hxv : x = v := by rw [hx]; exact BP v (by rw [← hx]; omega)
        have HE := hid ((show S = kY 65536 acc [p] by rw [HW.out, HDR.out, qO]).trans (kZ 65536 acc p v hnp ((yL v 65536 (by omega)).2 (by rw [← hx]; exact hxm))))
        have JZ := hid hxv
        have QO := hid qO
        clear hnp hx hxv qO
        have dL : Hid ((acc : Int) + (x : Int) = ((acc + v : Nat) : Int)) := by show _ = _; rw [JZ.out]; omega
        have hxi : (x : Int) < 65536 := by omega
        have hx0 : (0 : Int) ≤ (x : Int) := by omega
        have hai : (acc : Int) + 65536 ≤ 4294967296 := by omega
        have ha0 : (0 : Int) ≤ (acc : Int) := by omega
        have hvb : acc + v < 4294967296 := by have := JZ.out; omega
        have zS := hid hvb
        clear hxm hx2 hacc hvb
        have Ef : Hid (S = kY (mk 3) (acc + v) (R.drop 3)) := by show _ = _; rw [QO.out]; exact HE.out
        generalize (x : Int) = X at hxi hx0 dL HV
        generalize (acc : Int) = AC at hai ha0 dL ⊢
        go_wp2_with fail
        refine (dn Y _ hys).mono ?_
        rw [jK.out, HV.out]
        rintro e w4 ⟨rfl, hw4⟩
        subst hw4
        go_wp2
        go_roundw
        case rel => exact ⟨3, acc + v, by have := xB.out; omega, by go_num, by first | rfl | trivial, by first | exact int_eq dL.out | (rw [← dL.out]), zS.out, fun h => absurd h (by have := xB.out; omega), Ef⟩
        case measure => (have := xB.out; simp [intOf]; omega)
       ·have HE := hid (cO S ((show S = kY 65536 acc [p] by rw [HW.out, HDR.out, qO]).trans (jk 65536 acc p v hnp (fun h => hxm (by rw [hx]; exact (yL v 65536 (by omega)).1 h)))))
        have hxi : ¬ (x : Int) < 65536 := by omega
        have hx0 : (0 : Int) ≤ (x : Int) := by omega
        have EH : (x : Int) ≤ 4294967296 := by omega
        clear hnp hx qO hxm hx2
        generalize (x : Int) = X at hxi hx0 EH HV
        generalize (acc : Int) = AC
        go_wp2_with fail
        refine (dn Y _ hys).mono ?_
        rw [jK.out, HV.out]
        rintro e w4 ⟨rfl, hw4⟩
        subst hw4
        go_wp2
        go_ret2
        exact ⟨by rw [HE.out]; rfl, HB.out⟩
      ·have hA : ((2 : Int) == q) = false := by have := HQ.out; simp; omega
       have hB : (2 : Int) < q := by have := HQ.out; omega
       have hlt2 : 3 < n := by omega
       obtain ⟨p2, hp2⟩ : ∃ p2, p2 = R[3]'(by rw [← HN.out]; exact hlt2) := ⟨_, rfl⟩
       have jU : R.drop 3 = p2 :: R.drop 4 := drop_at R 3 p2 (by rw [← HN.out]; exact hlt2) hp2.symm
       have xA := hid hlt2
       clear hp2 hq hlt2
       by_cases hxm : x ≤ 255
       ·have hxv : x = v := by rw [hx]; exact BP v (by rw [← hx]; omega)
        have HE := hid ((show S = kY 65536 acc (p :: p2 :: R.drop 4) by rw [HW.out, HDR.out, jU]).trans (uZ 65536 acc p p2 (R.drop 4) v hnp (by omega)))
        have Gy := hid jU
        have JZ := hid hxv
        clear hnp hx hxv jU
        have dL : Hid ((acc : Int) + (x : Int) * 256 = ((acc + v * 256 : Nat) : Int)) := by show _ = _; rw [JZ.out]; omega
        have hxi : (x : Int) ≤ 255 := by omega
        have hx0 : (0 : Int) ≤ (x : Int) := by omega
        have hai : (acc : Int) + 65536 ≤ 4294967296 := by omega
        have ha0 : (0 : Int) ≤ (acc : Int) := by omega
        have zS : Hid (acc + v * 256 + 256 ≤ 4294967296) := by have := JZ.out; show _ ≤ _; omega
        have Ef : Hid (S = kY (mk 3) (acc + v * 256) (R.drop 3)) := by show _ = _; rw [Gy.out]; exact HE.out
        clear hxm hx2 hacc
        generalize (x : Int) = X at hxi hx0 dL HV
        generalize (acc : Int) = AC at hai ha0 dL ⊢
        go_wp2_with fail
        refine (dn Y _ hys).mono ?_
        rw [jK.out, HV.out]
        rintro e w4 ⟨rfl, hw4⟩
        subst hw4
        go_wp2
        go_roundw
        case rel => exact ⟨3, acc + v * 256, by have := xA.out; omega, by go_num, by first | rfl | trivial, by first | exact int_eq dL.out | (rw [← dL.out]), by have := zS.out; omega, fun _ => zS.out, Ef⟩
        case measure => (have := xA.out; simp [intOf]; omega)
       ·have HE := hid (cO S ((show S = kY 65536 acc (p :: p2 :: R.drop 4) by rw [HW.out, HDR.out, jU]).trans (nU 65536 acc p p2 (R.drop 4) v hnp (fun h => hxm (by rw [hx]; unfold sat; omega)))))
        have hxi : ¬ (x : Int) ≤ 255 := by omega
        have Ig : (255 : Int) < (x : Int) := by omega
        have EH : (x : Int) ≤ 4294967296 := by omega
        clear hnp hx jU hxm hx2
        generalize (x : Int) = X at hxi Ig EH HV
        generalize (acc : Int) = AC
        go_wp2_with fail
        refine (dn Y _ hys).mono ?_
        rw [jK.out, HV.out]
        rintro e w4 ⟨rfl, hw4⟩
        subst hw4
        go_wp2
        go_ret2
        exact ⟨by rw [HE.out]; rfl, HB.out⟩
    ·simp only [mk] at hacc HW
     obtain ⟨p, hp⟩ : ∃ p, p = R[3]'(by rw [← HN.out]; exact hlt) := ⟨_, rfl⟩
     obtain ⟨Y, hY⟩ : ∃ Y, Y = strOf p := ⟨_, rfl⟩
     have hcl := (TY.out 3 (by rw [List.length_map, List.length_map, ← HN.out]; exact hlt))
     rw [List.getElem_map, List.getElem_map, ← hp, ← hY] at hcl
     try rw [Nat.add_zero] at hcl
     have jK : Hid (Y.data.toList = p) := by show _ = _; rw [hY]; rfl
     have hys : Y.size ≤ 1073741824 := by
      rw [hY, ah]
      have := wG.out p (by rw [hp]; exact List.getElem_mem _)
      omega
     have HDR : Hid (R.drop 3 = p :: R.drop 4) := drop_at R 3 p (by rw [← HN.out]; exact hlt) hp.symm
     clear hp hY
     cases hnp : num p with
     | none =>
      have HV := hid (uy p hnp)
      have HE := hid (cO S (by rw [HW.out, HDR.out]; exact xP _ _ _ _ hnp))
      clear hnp
      go_wp2_with fail
      refine (dn Y _ hys).mono ?_
      rw [jK.out, HV.out]
      rintro e w4 ⟨rfl, hw4⟩
      subst hw4
      go_wp2
      go_ret2
      exact ⟨by rw [HE.out]; rfl, HB.out⟩
     | some v =>
      have HV := hid (uz p v hnp)
      obtain ⟨x, hx⟩ : ∃ x, x = sat v := ⟨_, rfl⟩
      have hx2 : x ≤ 4294967296 := by rw [hx]; unfold sat; omega
      rw [← hx] at HV
      by_cases hq : n = 4
      ·have qO : R.drop 4 = [] := drop_end R _ (by rw [← HN.out]; exact hq)
       have hA : ((3 : Int) == q) = true := by have := HQ.out; simp; omega
       have hB : ¬ (3 : Int) < q := by have := HQ.out; omega
       have hC : 4 - q = 1 := by have := HQ.out; omega
       have xB := hid hq
       clear hq
       by_cases hxm : x < 256
       ·have hxv : x = v := by rw [hx]; exact BP v (by rw [← hx]; omega)
        have HE := hid ((show S = kY 256 acc [p] by rw [HW.out, HDR.out, qO]).trans (kZ 256 acc p v hnp ((yL v 256 (by omega)).2 (by rw [← hx]; exact hxm))))
        have JZ := hid hxv
        have QO := hid qO
        clear hnp hx hxv qO
        have dL : Hid ((acc : Int) + (x : Int) = ((acc + v : Nat) : Int)) := by show _ = _; rw [JZ.out]; omega
        have hxi : (x : Int) < 256 := by omega
        have hx0 : (0 : Int) ≤ (x : Int) := by omega
        have hai : (acc : Int) + 256 ≤ 4294967296 := by omega
        have ha0 : (0 : Int) ≤ (acc : Int) := by omega
        have hvb : acc + v < 4294967296 := by have := JZ.out; omega
        have zS := hid hvb
        clear hxm hx2 hacc hvb
        have Ef : Hid (S = kY (mk 4) (acc + v) (R.drop 4)) := by show _ = _; rw [QO.out]; exact HE.out
        generalize (x : Int) = X at hxi hx0 dL HV
        generalize (acc : Int) = AC at hai ha0 dL ⊢
        go_wp2_with fail
        refine (dn Y _ hys).mono ?_
        rw [jK.out, HV.out]
        rintro e w4 ⟨rfl, hw4⟩
        subst hw4
        go_wp2
        go_roundw
        case rel => exact ⟨4, acc + v, by have := xB.out; omega, by go_num, by first | rfl | trivial, by first | exact int_eq dL.out | (rw [← dL.out]), zS.out, fun h => absurd h (by have := xB.out; omega), Ef⟩
        case measure => (have := xB.out; simp [intOf]; omega)
       ·have HE := hid (cO S ((show S = kY 256 acc [p] by rw [HW.out, HDR.out, qO]).trans (jk 256 acc p v hnp (fun h => hxm (by rw [hx]; exact (yL v 256 (by omega)).1 h)))))
        have hxi : ¬ (x : Int) < 256 := by omega
        have hx0 : (0 : Int) ≤ (x : Int) := by omega
        have EH : (x : Int) ≤ 4294967296 := by omega
        clear hnp hx qO hxm hx2
        generalize (x : Int) = X at hxi hx0 EH HV
        generalize (acc : Int) = AC
        go_wp2_with fail
        refine (dn Y _ hys).mono ?_
        rw [jK.out, HV.out]
        rintro e w4 ⟨rfl, hw4⟩
        subst hw4
        go_wp2
        go_ret2
        exact ⟨by rw [HE.out]; rfl, HB.out⟩
      ·exact absurd hlt (by omega)
   ·obtain rfl : k = n := by omega
    have HE := hid (uJ S acc (by rw [HW.out, drop_end R k HN.out.symm]; rfl))
    have ha0 : (0 : Int) ≤ (acc : Int) := by omega
    have hai : (acc : Int) < 4294967296 := by omega
    clear lD
    generalize (acc : Int) = AC at ha0 hai HE ⊢
    go_wp2
    go_ret2
    exact ⟨by rw [HE.out]; rfl, HB.out⟩
 ·have h4i : (3 : Int) < (n : Int) - 1 := by omega
  have HE := hid (cO S (by rw [HS2.out, if_neg (by rw [← HN.out]; exact h4)]))
  go_wp2
  go_ret2
  exact ⟨by rw [HE.out]; rfl, HB.out⟩
end Go.Proofs.YtmdofbccebkbiaaGreatDoor.wS
namespace Go.Proofs.YtmdofbccebkbiaaGreatDoor.QudF
open Go.RowKit Base aT dM mX Ov QudB Rh Ri wS
theorem DJ (s : ByteArray) (w : World) (hs : s.size ≤ 900000) : Calls Tryz.prog 227 #[.string s] w fun e w' => e = .returned (rG (FX s.data.toList)) ∧ Below w.heap.size w w' := by
 have hsl : s.data.toList.length = s.size := Array.length_toList
 obtain ⟨S, hS⟩ : ∃ S, S = FX s.data.toList := ⟨_, rfl⟩
 obtain ⟨R, hR⟩ : ∃ R, R = prt (bY s.data.toList) := ⟨_, rfl⟩
 have hR2 : R = bY (xg s.data.toList) := by rw [hR, PY]
 have hS2 : S = if R.length ≤ 4 then kY 4294967296 0 R else none := by rw [hS, hR2]; rfl
 have hul : (xg s.data.toList).length ≤ s.size := by rw [← hsl]; exact zL _
 have Sr : 0 < R.length := by rw [hR2]; exact List.length_pos_iff.2 (oN _)
 have hrl : R.length ≤ 900001 := by have := pF (xg s.data.toList); rw [hR2]; omega
 have wG : Hid (∀ p ∈ R, p.length ≤ 900000) := by
  intro p hp
  rw [hR2] at hp
  have := oz _ p hp
  omega
 have HR := hid hR
 have HS2 := hid hS2
 rw [← hS]
 clear hS hS2 hR hR2 hul hsl
 go_enter Tryz.func227, Tryz.ntmps227
 go_wp2_with fail
 refine (DL s _ hs).mono ?_
 rw [← HR.out]
 rintro e w3 ⟨A, n, c, rfl, hn, hnc, hcm, hrd, hb⟩
 rw [← hn] at Sr hrl
 have HRD0 := hid hrd
 have HB0 := hid hb
 have HN := hid hn
 unfold maxLen at hcm
 clear hn hrd hb
 by_cases h4 : n ≤ 4
 ·have h4i : ¬ (4 : Int) < (n : Int) := by omega
  have HW0 : Hid (S = kY 4294967296 0 (R.drop 0)) := by show _ = _; rw [HS2.out, if_pos (by rw [← HN.out]; exact h4), List.drop_zero]
  go_wp2
  generalize decide ((4 : Int) < (n : Int)) = dd
  go_loopw [5, 6, 7, 8, 16] (fun vm va _ _ vk wr => ∃ (k acc : Nat), k ≤ n ∧ vk = .int .i64 (k : Int) ∧ (k < n → vm = .int .i64 (mk k : Int)) ∧ va = .int .i64 (acc : Int) ∧ acc < 4294967296 ∧ Hid (Below w.heap.size w wr) ∧ Hid (bK wr A n ((R.map strOf).map Value.string)) ∧ Hid (k < n → acc + mk k ≤ 4294967296) ∧ Hid (S = kY (mk k) acc (R.drop k))) (fun _ _ _ _ vk _ => n - (intOf vk).toNat)
  case atStart => exact ⟨0, 0, Nat.zero_le _, rfl, fun _ => rfl, rfl, by omega, HB0, HRD0, fun _ => Nat.le_refl _, HW0⟩
  case round =>
   clear HW0 HB0 HRD0 h4i
   obtain ⟨k, acc, hk, rfl, hmost, rfl, lD, HB, sV, HAC, HW⟩ := hrel
   by_cases hlt : k < n
   ·have hacc := HAC.out hlt
    have hk4 : k = 0 ∨ k = 1 ∨ k = 2 ∨ k = 3 := by omega
    obtain rfl := hmost hlt
    clear HAC
    rcases hk4 with rfl | rfl | rfl | rfl
    ·simp only [mk] at hacc HW ⊢
     obtain ⟨p, hp⟩ : ∃ p, p = R[0]'(by rw [← HN.out]; exact hlt) := ⟨_, rfl⟩
     obtain ⟨Y, hY⟩ : ∃ Y, Y = strOf p := ⟨_, rfl⟩
     obtain ⟨g, off, rfl, hg, hcell⟩ := sV.out.spot Sr
     have hcl := (hcell 0 (by rw [List.length_map, List.length_map, ← HN.out]; exact hlt))
     rw [List.getElem_map, List.getElem_map, ← hp, ← hY] at hcl
     try rw [Nat.add_zero] at hcl
     have jK : Hid (Y.data.toList = p) := by show _ = _; rw [hY]; rfl
     have hys : Y.size ≤ 1073741824 := by
      rw [hY, ah]
      have := wG.out p (by rw [hp]; exact List.getElem_mem _)
      omega
     have HDR : Hid (R.drop 0 = p :: R.drop 1) := drop_at R 0 p (by rw [← HN.out]; exact hlt) hp.symm
     have ha0 : (0 : Int) ≤ (acc : Int) := by omega
     clear hp hY hcell
     cases hnp : num p with
     | none =>
      have HV := hid (uD p hnp)
      have HE := hid (cO S (by rw [HW.out, HDR.out]; exact xP _ _ _ _ hnp))
      clear hnp hacc lD
      generalize (acc : Int) = AC at ha0 ⊢
      go_wp2_with fail
      refine (bH Y _ hys).mono ?_
      rw [jK.out, HV.out]
      rintro e w4 ⟨rfl, hb4⟩
      have HB4 : Hid (Below w.heap.size w w4) := bel HB.out hb4
      have qh := hid (sV.out.below hb4)
      clear hb4
      go_wp2
      go_ret2
      exact ⟨by rw [HE.out]; rfl, HB4.out⟩
     | some v =>
      obtain ⟨x, hx, hx2, hxr⟩ := uG p v hnp
      have HV := hid hx
      have hx0 : (0 : Int) ≤ (x : Int) := by omega
      have hx1 : ¬ (x : Int) < 0 := by omega
      have yA : (x : Int) ≤ 17592186044431 := by omega
      clear hx
      by_cases hq : n = 1
      ·have qO : R.drop 1 = [] := drop_end R _ (by rw [← HN.out]; exact hq)
       have hB : ¬ (0 : Int) < (n : Int) - 1 := by omega
       have xB := hid hq
       clear hq
       by_cases hxm : x < 4294967296
       ·have hxv : x = v := by omega
        have HE := hid ((show S = kY 4294967296 acc [p] by rw [HW.out, HDR.out, qO]).trans (kZ 4294967296 acc p v hnp (by omega)))
        have QO := hid qO
        have dL : Hid ((acc : Int) + (x : Int) = ((acc + v : Nat) : Int)) := by show _ = _; omega
        have hxi : (x : Int) < 4294967296 := by omega
        have hai : (acc : Int) + 4294967296 ≤ 4294967296 := by omega
        have hvb : acc + v < 4294967296 := by omega
        have zS := hid hvb
        have Ef : Hid (S = kY (mk 1) (acc + v) (R.drop 1)) := by show _ = _; rw [QO.out]; exact HE.out
        clear hnp hxv qO hxm hx2 hacc lD hvb hxr
        generalize (x : Int) = X at hxi hx0 hx1 yA dL HV
        generalize (acc : Int) = AC at hai ha0 dL ⊢
        go_wp2_with fail
        refine (bH Y _ hys).mono ?_
        rw [jK.out, HV.out]
        rintro e w4 ⟨rfl, hb4⟩
        have HB4 : Hid (Below w.heap.size w w4) := bel HB.out hb4
        have qh := hid (sV.out.below hb4)
        clear hb4
        go_wp2
        go_roundw
        case rel => exact ⟨1, acc + v, by have := xB.out; omega, by go_num, fun h => absurd h (by have := xB.out; omega), by first | exact int_eq dL.out | (rw [← dL.out]), zS.out, HB4, qh, fun h => absurd h (by have := xB.out; omega), Ef⟩
        case measure => (have := xB.out; simp [intOf]; omega)
       ·have HE := hid (cO S ((show S = kY 4294967296 acc [p] by rw [HW.out, HDR.out, qO]).trans (jk 4294967296 acc p v hnp (by omega))))
        have hxi : 4294967296 ≤ (x : Int) := by omega
        clear hnp qO hxm hx2 hacc lD hxr
        generalize (x : Int) = X at hxi hx0 hx1 yA HV
        generalize (acc : Int) = AC at ha0 ⊢
        go_wp2_with fail
        refine (bH Y _ hys).mono ?_
        rw [jK.out, HV.out]
        rintro e w4 ⟨rfl, hb4⟩
        have HB4 : Hid (Below w.heap.size w w4) := bel HB.out hb4
        have qh := hid (sV.out.below hb4)
        clear hb4
        go_wp2
        go_ret2
        exact ⟨by rw [HE.out]; rfl, HB4.out⟩
      ·have hB : (0 : Int) < (n : Int) - 1 := by omega
       have hlt2 : 1 < n := by omega
       obtain ⟨p2, hp2⟩ : ∃ p2, p2 = R[1]'(by rw [← HN.out]; exact hlt2) := ⟨_, rfl⟩
       have jU : R.drop 1 = p2 :: R.drop 2 := drop_at R 1 p2 (by rw [← HN.out]; exact hlt2) hp2.symm
       have xA := hid hlt2
       clear hp2 hq hlt2
       by_cases hxm : x ≤ 255
       ·have hxv : x = v := by omega
        have HE := hid ((show S = kY 4294967296 acc (p :: p2 :: R.drop 2) by rw [HW.out, HDR.out, jU]).trans (uZ 4294967296 acc p p2 (R.drop 2) v hnp (by omega)))
        have Gy := hid jU
        have dL : Hid ((acc : Int) + (x : Int) * 16777216 = ((acc + v * 16777216 : Nat) : Int)) := by show _ = _; omega
        have hxi : (x : Int) ≤ 255 := by omega
        have hai : (acc : Int) + 4294967296 ≤ 4294967296 := by omega
        have zS : Hid (acc + v * 16777216 + 16777216 ≤ 4294967296) := by show _ ≤ _; omega
        have Ef : Hid (S = kY (mk 1) (acc + v * 16777216) (R.drop 1)) := by show _ = _; rw [Gy.out]; exact HE.out
        clear hnp hxv jU hxm hx2 hacc lD hxr
        generalize (x : Int) = X at hxi hx0 hx1 yA dL HV
        generalize (acc : Int) = AC at hai ha0 dL ⊢
        go_wp2_with fail
        refine (bH Y _ hys).mono ?_
        rw [jK.out, HV.out]
        rintro e w4 ⟨rfl, hb4⟩
        have HB4 : Hid (Below w.heap.size w w4) := bel HB.out hb4
        have qh := hid (sV.out.below hb4)
        clear hb4
        go_wp2
        go_roundw
        case rel => exact ⟨1, acc + v * 16777216, by have := xA.out; omega, by go_num, fun _ => rfl, by first | exact int_eq dL.out | (rw [← dL.out]), by have := zS.out; omega, HB4, qh, fun _ => zS.out, Ef⟩
        case measure => (have := xA.out; simp [intOf]; omega)
       ·have HE := hid (cO S ((show S = kY 4294967296 acc (p :: p2 :: R.drop 2) by rw [HW.out, HDR.out, jU]).trans (nU 4294967296 acc p p2 (R.drop 2) v hnp (by omega))))
        have Ig : (255 : Int) < (x : Int) := by omega
        clear hnp jU hxm hx2 hacc lD hxr
        generalize (x : Int) = X at Ig hx0 hx1 yA HV
        generalize (acc : Int) = AC at ha0 ⊢
        go_wp2_with fail
        refine (bH Y _ hys).mono ?_
        rw [jK.out, HV.out]
        rintro e w4 ⟨rfl, hb4⟩
        have HB4 : Hid (Below w.heap.size w w4) := bel HB.out hb4
        have qh := hid (sV.out.below hb4)
        clear hb4
        go_wp2
        go_ret2
        exact ⟨by rw [HE.out]; rfl, HB4.out⟩
    ·simp only [mk] at hacc HW ⊢
     obtain ⟨p, hp⟩ : ∃ p, p = R[1]'(by rw [← HN.out]; exact hlt) := ⟨_, rfl⟩
     obtain ⟨Y, hY⟩ : ∃ Y, Y = strOf p := ⟨_, rfl⟩
     obtain ⟨g, off, rfl, hg, hcell⟩ := sV.out.spot Sr
     have hcl := (hcell 1 (by rw [List.length_map, List.length_map, ← HN.out]; exact hlt))
     rw [List.getElem_map, List.getElem_map, ← hp, ← hY] at hcl
     try rw [Nat.add_zero] at hcl
     have jK : Hid (Y.data.toList = p) := by show _ = _; rw [hY]; rfl
     have hys : Y.size ≤ 1073741824 := by
      rw [hY, ah]
      have := wG.out p (by rw [hp]; exact List.getElem_mem _)
      omega
     have HDR : Hid (R.drop 1 = p :: R.drop 2) := drop_at R 1 p (by rw [← HN.out]; exact hlt) hp.symm
     have ha0 : (0 : Int) ≤ (acc : Int) := by omega
     clear hp hY hcell
     cases hnp : num p with
     | none =>
      have HV := hid (uD p hnp)
      have HE := hid (cO S (by rw [HW.out, HDR.out]; exact xP _ _ _ _ hnp))
      clear hnp hacc lD
      generalize (acc : Int) = AC at ha0 ⊢
      go_wp2_with fail
      refine (bH Y _ hys).mono ?_
      rw [jK.out, HV.out]
      rintro e w4 ⟨rfl, hb4⟩
      have HB4 : Hid (Below w.heap.size w w4) := bel HB.out hb4
      have qh := hid (sV.out.below hb4)
      clear hb4
      go_wp2
      go_ret2
      exact ⟨by rw [HE.out]; rfl, HB4.out⟩
     | some v =>
      obtain ⟨x, hx, hx2, hxr⟩ := uG p v hnp
      have HV := hid hx
      have hx0 : (0 : Int) ≤ (x : Int) := by omega
      have hx1 : ¬ (x : Int) < 0 := by omega
      have yA : (x : Int) ≤ 17592186044431 := by omega
      clear hx
      by_cases hq : n = 2
      ·have qO : R.drop 2 = [] := drop_end R _ (by rw [← HN.out]; exact hq)
       have hB : ¬ (1 : Int) < (n : Int) - 1 := by omega
       have xB := hid hq
       clear hq
       by_cases hxm : x < 16777216
       ·have hxv : x = v := by omega
        have HE := hid ((show S = kY 16777216 acc [p] by rw [HW.out, HDR.out, qO]).trans (kZ 16777216 acc p v hnp (by omega)))
        have QO := hid qO
        have dL : Hid ((acc : Int) + (x : Int) = ((acc + v : Nat) : Int)) := by show _ = _; omega
        have hxi : (x : Int) < 16777216 := by omega
        have hai : (acc : Int) + 16777216 ≤ 4294967296 := by omega
        have hvb : acc + v < 4294967296 := by omega
        have zS := hid hvb
        have Ef : Hid (S = kY (mk 2) (acc + v) (R.drop 2)) := by show _ = _; rw [QO.out]; exact HE.out
        clear hnp hxv qO hxm hx2 hacc lD hvb hxr
        generalize (x : Int) = X at hxi hx0 hx1 yA dL HV
        generalize (acc : Int) = AC at hai ha0 dL ⊢
        go_wp2_with fail
        refine (bH Y _ hys).mono ?_
        rw [jK.out, HV.out]
        rintro e w4 ⟨rfl, hb4⟩
        have HB4 : Hid (Below w.heap.size w w4) := bel HB.out hb4
        have qh := hid (sV.out.below hb4)
        clear hb4
        go_wp2
        go_roundw
        case rel => exact ⟨2, acc + v, by have := xB.out; omega, by go_num, fun h => absurd h (by have := xB.out; omega), by first | exact int_eq dL.out | (rw [← dL.out]), zS.out, HB4, qh, fun h => absurd h (by have := xB.out; omega), Ef⟩
        case measure => (have := xB.out; simp [intOf]; omega)
       ·have HE := hid (cO S ((show S = kY 16777216 acc [p] by rw [HW.out, HDR.out, qO]).trans (jk 16777216 acc p v hnp (by omega))))
        have hxi : 16777216 ≤ (x : Int) := by omega
        clear hnp qO hxm hx2 hacc lD hxr
        generalize (x : Int) = X at hxi hx0 hx1 yA HV
        generalize (acc : Int) = AC at ha0 ⊢
        go_wp2_with fail
        refine (bH Y _ hys).mono ?_
        rw [jK.out, HV.out]
        rintro e w4 ⟨rfl, hb4⟩
        have HB4 : Hid (Below w.heap.size w w4) := bel HB.out hb4
        have qh := hid (sV.out.below hb4)
        clear hb4
        go_wp2
        go_ret2
        exact ⟨by rw [HE.out]; rfl, HB4.out⟩
      ·have hB : (1 : Int) < (n : Int) - 1 := by omega
       have hlt2 : 2 < n := by omega
       obtain ⟨p2, hp2⟩ : ∃ p2, p2 = R[2]'(by rw [← HN.out]; exact hlt2) := ⟨_, rfl⟩
       have jU : R.drop 2 = p2 :: R.drop 3 := drop_at R 2 p2 (by rw [← HN.out]; exact hlt2) hp2.symm
       have xA := hid hlt2
       clear hp2 hq hlt2
       by_cases hxm : x ≤ 255
       ·have hxv : x = v := by omega
        have HE := hid ((show S = kY 16777216 acc (p :: p2 :: R.drop 3) by rw [HW.out, HDR.out, jU]).trans (uZ 16777216 acc p p2 (R.drop 3) v hnp (by omega)))
        have Gy := hid jU
        have dL : Hid ((acc : Int) + (x : Int) * 65536 = ((acc + v * 65536 : Nat) : Int)) := by show _ = _; omega
        have hxi : (x : Int) ≤ 255 := by omega
        have hai : (acc : Int) + 16777216 ≤ 4294967296 := by omega
        have zS : Hid (acc + v * 65536 + 65536 ≤ 4294967296) := by show _ ≤ _; omega
        have Ef : Hid (S = kY (mk 2) (acc + v * 65536) (R.drop 2)) := by show _ = _; rw [Gy.out]; exact HE.out
        clear hnp hxv jU hxm hx2 hacc lD hxr
        generalize (x : Int) = X at hxi hx0 hx1 yA dL HV
        generalize (acc : Int) = AC at hai ha0 dL ⊢
        go_wp2_with fail
        refine (bH Y _ hys).mono ?_
        rw [jK.out, HV.out]
        rintro e w4 ⟨rfl, hb4⟩
        have HB4 : Hid (Below w.heap.size w w4) := bel HB.out hb4
        have qh := hid (sV.out.below hb4)
        clear hb4
        go_wp2
        go_roundw
        case rel => exact ⟨2, acc + v * 65536, by have := xA.out; omega, by go_num, fun _ => rfl, by first | exact int_eq dL.out | (rw [← dL.out]), by have := zS.out; omega, HB4, qh, fun _ => zS.out, Ef⟩
        case measure => (have := xA.out; simp [intOf]; omega)
       ·have HE := hid (cO S ((show S = kY 16777216 acc (p :: p2 :: R.drop 3) by rw [HW.out, HDR.out, jU]).trans (nU 16777216 acc p p2 (R.drop 3) v hnp (by omega))))
        have Ig : (255 : Int) < (x : Int) := by omega
        clear hnp jU hxm hx2 hacc lD hxr
        generalize (x : Int) = X at Ig hx0 hx1 yA HV
        generalize (acc : Int) = AC at ha0 ⊢
        go_wp2_with fail
        refine (bH Y _ hys).mono ?_
        rw [jK.out, HV.out]
        rintro e w4 ⟨rfl, hb4⟩
        have HB4 : Hid (Below w.heap.size w w4) := bel HB.out hb4
        have qh := hid (sV.out.below hb4)
        clear hb4
        go_wp2
        go_ret2
        exact ⟨by rw [HE.out]; rfl, HB4.out⟩
    ·simp only [mk] at hacc HW ⊢
     obtain ⟨p, hp⟩ : ∃ p, p = R[2]'(by rw [← HN.out]; exact hlt) := ⟨_, rfl⟩
     obtain ⟨Y, hY⟩ : ∃ Y, Y = strOf p := ⟨_, rfl⟩
     obtain ⟨g, off, rfl, hg, hcell⟩ := sV.out.spot Sr
     have hcl := (hcell 2 (by rw [List.length_map, List.length_map, ← HN.out]; exact hlt))
     rw [List.getElem_map, List.getElem_map, ← hp, ← hY] at hcl
     try rw [Nat.add_zero] at hcl
     have jK : Hid (Y.data.toList = p) := by show _ = _; rw [hY]; rfl
     have hys : Y.size ≤ 1073741824 := by
      rw [hY, ah]
      have := wG.out p (by rw [hp]; exact List.getElem_mem _)
      omega
     have HDR : Hid (R.drop 2 = p :: R.drop 3) := drop_at R 2 p (by rw [← HN.out]; exact hlt) hp.symm
     have ha0 : (0 : Int) ≤ (acc : Int) := by omega
     clear hp hY hcell
     cases hnp : num p with
     | none =>
      have HV := hid (uD p hnp)
      have HE := hid (cO S (by rw [HW.out, HDR.out]; exact xP _ _ _ _ hnp))
      clear hnp hacc lD
      generalize (acc : Int) = AC at ha0 ⊢
      go_wp2_with fail
      refine (bH Y _ hys).mono ?_
      rw [jK.out, HV.out]
      rintro e w4 ⟨rfl, hb4⟩
      have HB4 : Hid (Below w.heap.size w w4) := bel HB.out hb4
      have qh := hid (sV.out.below hb4)
      clear hb4
      go_wp2
      go_ret2
      exact ⟨by rw [HE.out]; rfl, HB4.out⟩
     | some v =>
      obtain ⟨x, hx, hx2, hxr⟩ := uG p v hnp
      have HV := hid hx
      have hx0 : (0 : Int) ≤ (x : Int) := by omega
      have hx1 : ¬ (x : Int) < 0 := by omega
      have yA : (x : Int) ≤ 17592186044431 := by omega
      clear hx
      by_cases hq : n = 3
      ·have qO : R.drop 3 = [] := drop_end R _ (by rw [← HN.out]; exact hq)
       have hB : ¬ (2 : Int) < (n : Int) - 1 := by omega
       have xB := hid hq
       clear hq
       by_cases hxm : x < 65536
       ·have hxv : x = v := by omega
        have HE := hid ((show S = kY 65536 acc [p] by rw [HW.out, HDR.out, qO]).trans (kZ 65536 acc p v hnp (by omega)))
        have QO := hid qO
        have dL : Hid ((acc : Int) + (x : Int) = ((acc + v : Nat) : Int)) := by show _ = _; omega
        have hxi : (x : Int) < 65536 := by omega
        have hai : (acc : Int) + 65536 ≤ 4294967296 := by omega
        have hvb : acc + v < 4294967296 := by omega
        have zS := hid hvb
        have Ef : Hid (S = kY (mk 3) (acc + v) (R.drop 3)) := by show _ = _; rw [QO.out]; exact HE.out
        clear hnp hxv qO hxm hx2 hacc lD hvb hxr
        generalize (x : Int) = X at hxi hx0 hx1 yA dL HV
        generalize (acc : Int) = AC at hai ha0 dL ⊢
        go_wp2_with fail
        refine (bH Y _ hys).mono ?_
        rw [jK.out, HV.out]
        rintro e w4 ⟨rfl, hb4⟩
        have HB4 : Hid (Below w.heap.size w w4) := bel HB.out hb4
        have qh := hid (sV.out.below hb4)
        clear hb4
        go_wp2
        go_roundw
        case rel => exact ⟨3, acc + v, by have := xB.out; omega, by go_num, fun h => absurd h (by have := xB.out; omega), by first | exact int_eq dL.out | (rw [← dL.out]), zS.out, HB4, qh, fun h => absurd h (by have := xB.out; omega), Ef⟩
        case measure => (have := xB.out; simp [intOf]; omega)
       ·have HE := hid (cO S ((show S = kY 65536 acc [p] by rw [HW.out, HDR.out, qO]).trans (jk 65536 acc p v hnp (by omega))))
        have hxi : 65536 ≤ (x : Int) := by omega
        clear hnp qO hxm hx2 hacc lD hxr
        generalize (x : Int) = X at hxi hx0 hx1 yA HV
        generalize (acc : Int) = AC at ha0 ⊢
        go_wp2_with fail
        refine (bH Y _ hys).mono ?_
        rw [jK.out, HV.out]
        rintro e w4 ⟨rfl, hb4⟩
        have HB4 : Hid (Below w.heap.size w w4) := bel HB.out hb4
        have qh := hid (sV.out.below hb4)
        clear hb4
        go_wp2
        go_ret2
        exact ⟨by rw [HE.out]; rfl, HB4.out⟩
      ·have hB : (2 : Int) < (n : Int) - 1 := by omega
       have hlt2 : 3 < n := by omega
       obtain ⟨p2, hp2⟩ : ∃ p2, p2 = R[3]'(by rw [← HN.out]; exact hlt2) := ⟨_, rfl⟩
       have jU : R.drop 3 = p2 :: R.drop 4 := drop_at R 3 p2 (by rw [← HN.out]; exact hlt2) hp2.symm
       have xA := hid hlt2
       clear hp2 hq hlt2
       by_cases hxm : x ≤ 255
       ·have hxv : x = v := by omega
        have HE := hid ((show S = kY 65536 acc (p :: p2 :: R.drop 4) by rw [HW.out, HDR.out, jU]).trans (uZ 65536 acc p p2 (R.drop 4) v hnp (by omega)))
        have Gy := hid jU
        have dL : Hid ((acc : Int) + (x : Int) * 256 = ((acc + v * 256 : Nat) : Int)) := by show _ = _; omega
        have hxi : (x : Int) ≤ 255 := by omega
        have hai : (acc : Int) + 65536 ≤ 4294967296 := by omega
        have zS : Hid (acc + v * 256 + 256 ≤ 4294967296) := by show _ ≤ _; omega
        have Ef : Hid (S = kY (mk 3) (acc + v * 256) (R.drop 3)) := by show _ = _; rw [Gy.out]; exact HE.out
        clear hnp hxv jU hxm hx2 hacc lD hxr
        generalize (x : Int) = X at hxi hx0 hx1 yA dL HV
        generalize (acc : Int) = AC at hai ha0 dL ⊢
        go_wp2_with fail
        refine (bH Y _ hys).mono ?_
        rw [jK.out, HV.out]
        rintro e w4 ⟨rfl, hb4⟩
        have HB4 : Hid (Below w.heap.size w w4) := bel HB.out hb4
        have qh := hid (sV.out.below hb4)
        clear hb4
        go_wp2
        go_roundw
        case rel => exact ⟨3, acc + v * 256, by have := xA.out; omega, by go_num, fun _ => rfl, by first | exact int_eq dL.out | (rw [← dL.out]), by have := zS.out; omega, HB4, qh, fun _ => zS.out, Ef⟩
        case measure => (have := xA.out; simp [intOf]; omega)
       ·have HE := hid (cO S ((show S = kY 65536 acc (p :: p2 :: R.drop 4) by rw [HW.out, HDR.out, jU]).trans (nU 65536 acc p p2 (R.drop 4) v hnp (by omega))))
        have Ig : (255 : Int) < (x : Int) := by omega
        clear hnp jU hxm hx2 hacc lD hxr
        generalize (x : Int) = X at Ig hx0 hx1 yA HV
        generalize (acc : Int) = AC at ha0 ⊢
        go_wp2_with fail
        refine (bH Y _ hys).mono ?_
        rw [jK.out, HV.out]
        rintro e w4 ⟨rfl, hb4⟩
        have HB4 : Hid (Below w.heap.size w w4) := bel HB.out hb4
        have qh := hid (sV.out.below hb4)
        clear hb4
        go_wp2
        go_ret2
        exact ⟨by rw [HE.out]; rfl, HB4.out⟩
    ·simp only [mk] at hacc HW ⊢
     obtain ⟨p, hp⟩ : ∃ p, p = R[3]'(by rw [← HN.out]; exact hlt) := ⟨_, rfl⟩
     obtain ⟨Y, hY⟩ : ∃ Y, Y = strOf p := ⟨_, rfl⟩
     obtain ⟨g, off, rfl, hg, hcell⟩ := sV.out.spot Sr
     have hcl := (hcell 3 (by rw [List.length_map, List.length_map, ← HN.out]; exact hlt))
     rw [List.getElem_map, List.getElem_map, ← hp, ← hY] at hcl
     try rw [Nat.add_zero] at hcl
     have jK : Hid (Y.data.toList = p) := by show _ = _; rw [hY]; rfl
     have hys : Y.size ≤ 1073741824 := by
      rw [hY, ah]
      have := wG.out p (by rw [hp]; exact List.getElem_mem _)
      omega
     have HDR : Hid (R.drop 3 = p :: R.drop 4) := drop_at R 3 p (by rw [← HN.out]; exact hlt) hp.symm
     have ha0 : (0 : Int) ≤ (acc : Int) := by omega
     clear hp hY hcell
     cases hnp : num p with
     | none =>
      have HV := hid (uD p hnp)
      have HE := hid (cO S (by rw [HW.out, HDR.out]; exact xP _ _ _ _ hnp))
      clear hnp hacc lD
      generalize (acc : Int) = AC at ha0 ⊢
      go_wp2_with fail
      refine (bH Y _ hys).mono ?_
      rw [jK.out, HV.out]
      rintro e w4 ⟨rfl, hb4⟩
      have HB4 : Hid (Below w.heap.size w w4) := bel HB.out hb4
      have qh := hid (sV.out.below hb4)
      clear hb4
      go_wp2
      go_ret2
      exact ⟨by rw [HE.out]; rfl, HB4.out⟩
     | some v =>
      obtain ⟨x, hx, hx2, hxr⟩ := uG p v hnp
      have HV := hid hx
      have hx0 : (0 : Int) ≤ (x : Int) := by omega
      have hx1 : ¬ (x : Int) < 0 := by omega
      have yA : (x : Int) ≤ 17592186044431 := by omega
      clear hx
      by_cases hq : n = 4
      ·have qO : R.drop 4 = [] := drop_end R _ (by rw [← HN.out]; exact hq)
       have hB : ¬ (3 : Int) < (n : Int) - 1 := by omega
       have xB := hid hq
       clear hq
       by_cases hxm : x < 256
       ·have hxv : x = v := by omega
        have HE := hid ((show S = kY 256 acc [p] by rw [HW.out, HDR.out, qO]).trans (kZ 256 acc p v hnp (by omega)))
        have QO := hid qO
        have dL : Hid ((acc : Int) + (x : Int) = ((acc + v : Nat) : Int)) := by show _ = _; omega
        have hxi : (x : Int) < 256 := by omega
        have hai : (acc : Int) + 256 ≤ 4294967296 := by omega
        have hvb : acc + v < 4294967296 := by omega
        have zS := hid hvb
        have Ef : Hid (S = kY (mk 4) (acc + v) (R.drop 4)) := by show _ = _; rw [QO.out]; exact HE.out
        clear hnp hxv qO hxm hx2 hacc lD hvb hxr
        generalize (x : Int) = X at hxi hx0 hx1 yA dL HV
        generalize (acc : Int) = AC at hai ha0 dL ⊢
        go_wp2_with fail
        refine (bH Y _ hys).mono ?_
        rw [jK.out, HV.out]
        rintro e w4 ⟨rfl, hb4⟩
        have HB4 : Hid (Below w.heap.size w w4) := bel HB.out hb4
        have qh := hid (sV.out.below hb4)
        clear hb4
        go_wp2
        go_roundw
        case rel => exact ⟨4, acc + v, by have := xB.out; omega, by go_num, fun h => absurd h (by have := xB.out; omega), by first | exact int_eq dL.out | (rw [← dL.out]), zS.out, HB4, qh, fun h => absurd h (by have := xB.out; omega), Ef⟩
        case measure => (have := xB.out; simp [intOf]; omega)
       ·have HE := hid (cO S ((show S = kY 256 acc [p] by rw [HW.out, HDR.out, qO]).trans (jk 256 acc p v hnp (by omega))))
        have hxi : 256 ≤ (x : Int) := by omega
        clear hnp qO hxm hx2 hacc lD hxr
        generalize (x : Int) = X at hxi hx0 hx1 yA HV
        generalize (acc : Int) = AC at ha0 ⊢
        go_wp2_with fail
        refine (bH Y _ hys).mono ?_
        rw [jK.out, HV.out]
        rintro e w4 ⟨rfl, hb4⟩
        have HB4 : Hid (Below w.heap.size w w4) := bel HB.out hb4
        have qh := hid (sV.out.below hb4)
        clear hb4
        go_wp2
        go_ret2
        exact ⟨by rw [HE.out]; rfl, HB4.out⟩
      ·exact absurd hlt (by omega)
   ·obtain rfl : k = n := by omega
    have HE := hid (uJ S acc (by rw [HW.out, drop_end R k HN.out.symm]; rfl))
    have ha0 : (0 : Int) ≤ (acc : Int) := by omega
    have hai : (acc : Int) < 4294967296 := by omega
    clear lD hmost
    generalize (acc : Int) = AC at ha0 hai HE ⊢
    go_wp2
    go_ret2
    exact ⟨by rw [HE.out]; rfl, HB.out⟩
 ·have h4i : (4 : Int) < (n : Int) := by omega
  have HE := hid (cO S (by rw [HS2.out, if_neg (by rw [← HN.out]; exact h4)]))
  go_wp2
  go_ret2
  exact ⟨by rw [HE.out]; rfl, HB0.out⟩
end Go.Proofs.YtmdofbccebkbiaaGreatDoor.QudF
namespace Go.Proofs.YtmdofbccebkbiaaGreatDoor.Bc
open Go.RowKit Base aT dM mX Ov Rh wS
theorem og (k : Nat) : ∀ n, n < 10 ^ (k + 1) → (Lib.decDigits n).length ≤ k + 1 := by
 induction k with
 | zero => intro n h; rw [Lib.decDigits, dif_pos (by omega)]; simp
 | succ k ih =>
  intro n h
  rw [Lib.decDigits]
  split
  ·simp
  ·have := ih (n / 10) (by rw [Nat.pow_succ] at h; omega)
   rw [List.length_append]
   simp
   omega
theorem TP (n : Nat) : ((UInt8.ofNat (48 + n % 10)).toNat : Int) = 48 + (n : Int) % 10 := by simp; omega
theorem one_row (c : UInt8) (w : World) : bK (w.alloc (.cells #[.int .u8 (c.toNat : Int)] 5)) (some ⟨w.heap.size, 0, none⟩) 1 (aJ [c]) := EO w [c] 5 (0, 0)
theorem iF (n : Nat) (h : n ≤ 18446744073709551615) : (Lib.decDigits n).length ≤ 20 := og 19 n (by omega)
theorem iL : ∀ (N n : Nat), n < N → n ≤ 18446744073709551615 → ∀ w : World, Calls Tryz.prog 129 #[.int .u64 (n : Int)] w fun e w' => e = .returned (.string (strOf (Lib.decDigits n))) ∧ Below w.heap.size w w'
 | 0, n, h, _, w => absurd h (by omega)
 | N + 1, n, hN, hn, w => by
  obtain ⟨c, hc⟩ : ∃ c : UInt8, c = UInt8.ofNat (48 + n % 10) := ⟨_, rfl⟩
  have hcn : (c.toNat : Int) = 48 + (n : Int) % 10 := by rw [hc]; exact TP n
  have q1 : (n : Int).tmod 10 = (n : Int) % 10 := Int.tmod_eq_emod_of_nonneg (by omega)
  have q2 : IntKind.u8.wrap ((n : Int) % 10) = (n : Int) % 10 := by rw [IntKind.wrap_u8]; omega
  have q3 : IntKind.u8.wrap (48 + (n : Int) % 10) = (c.toNat : Int) := by rw [IntKind.wrap_u8, hcn]; omega
  have q4 : 48 + (n : Int) % 10 = (c.toNat : Int) := hcn.symm
  have hst := fun w : World => aP (P := Tryz.prog) (w := w.alloc (.cells #[.int .u8 (c.toNat : Int)] 5)) 61 9 5 Tryz.underlying61 Tryz.underlying5 Tryz.underlying9 [c] 1 (one_row c w)
  by_cases h9 : n < 10
  ·have HD : Hid (Lib.decDigits n = [c]) := by rw [Lib.decDigits, dif_pos h9, hc, Nat.mod_eq_of_lt h9]; rfl
   have h9' : (n : Int) ≤ 9 := by omega
   clear hc hcn
   go_enter Tryz.func129, Tryz.ntmps129
   go_wp2
   go_ret
   exact ⟨by rw [HD.out]; rfl, (Below.refl _ _).alloc (Nat.le_refl _) _⟩
  ·have h9' : 9 < (n : Int) := by omega
   obtain ⟨m, hm⟩ : ∃ m, m = n / 10 := ⟨_, rfl⟩
   have HD : Hid (Lib.decDigits n = Lib.decDigits m ++ [c]) := by rw [Lib.decDigits, dif_neg h9, hc, hm]; rfl
   have q5 : (n : Int) / 10 = (m : Int) := by omega
   have q6 : (n : Int).tdiv 10 = (m : Int) := by rw [Int.tdiv_eq_ediv_of_nonneg (by omega)]; exact q5
   have hml := iF m (by omega)
   have HML := hid hml
   have ih := iL N m (by omega) (by omega)
   have HIH := hid ih
   have a1 : ∀ w : World, (Op.stringOp .add (strOf (Lib.decDigits m)) (strOf [c])).run Tryz.prog w = .ok (.string (strOf (Lib.decDigits m ++ [c]))) w := fun w => dX _ _ w (by have := HML.out; simp; omega)
   clear hc hcn hm hml ih
   go_enter Tryz.func129, Tryz.ntmps129
   go_wp2_with fail
   refine (HIH.out _).mono ?_
   rintro e w2 ⟨rfl, hb2⟩
   go_wp2
   go_ret
   exact ⟨by rw [HD.out]; rfl, bel ((Below.refl _ _).alloc (Nat.le_refl _) _) hb2⟩
def p1 (n : Nat) : List UInt8 := Lib.decDigits (n / 16777216) ++ [46]
def p2 (n : Nat) : List UInt8 := p1 n ++ Lib.decDigits (n / 65536 % 256) ++ [46]
def p3 (n : Nat) : List UInt8 := p2 n ++ Lib.decDigits (n / 256 % 256) ++ [46]
def pr (n : Nat) : List UInt8 := p3 n ++ Lib.decDigits (n % 256)
theorem FW (n : Nat) (h : n < 256) : (Lib.decDigits n).length ≤ 3 := og 2 n (by omega)
theorem SS (n : Nat) (h : n < 4294967296) : (p1 n).length ≤ 4 := by have := FW (n / 16777216) (by omega); simp [p1]; omega
theorem SX (n : Nat) (h : n < 4294967296) : (p2 n).length ≤ 8 := by have := FW (n / 65536 % 256) (by omega); have := SS n h; simp [p2]; omega
theorem SY (n : Nat) (h : n < 4294967296) : (p3 n).length ≤ 12 := by have := FW (n / 256 % 256) (by omega); have := SX n h; simp [p3]; omega
theorem pr_len (n : Nat) (h : n < 4294967296) : (pr n).length ≤ 15 := by have := FW (n % 256) (by omega); have := SY n h; simp [pr]; omega
theorem MH (a : Nat) (h : a < 4294967296) : bits .and .u32 (a : Int) 255 = ((a % 256 : Nat) : Int) := by
 have := u32_and_nat a 255 h (by omega)
 rw [show ((255 : Nat) : Int) = 255 from rfl] at this
 rw [this]
 congr 1
 exact Nat.and_two_pow_sub_one_eq_mod a 8
def pj (n : Nat) : Nat → List UInt8
 | 0 => []
 | 1 => p1 n
 | 2 => p2 n
 | 3 => p3 n
 | _ => pr n
theorem print_any (n : Nat) (hn : n < 4294967296) (w : World) (hT : Tab.Pow w) : Calls Tryz.prog 234 #[.int .u32 (n : Int)] w fun e w' => e = .returned (.string (strOf (pr n))) ∧ Below w.heap.size w w' := by
 have HT := hid hT
 have hni : (n : Int) < 4294967296 := by omega
 have hn0 : 0 ≤ (n : Int) := by omega
 have wY : Hid ((p1 n).length ≤ 4 ∧ (p2 n).length ≤ 8 ∧ (p3 n).length ≤ 12) := ⟨SS n hn, SX n hn, SY n hn⟩
 clear hT
 go_enter Tryz.func234, Tryz.ntmps234
 go_wp2
 go_loopw [3, 4] (fun vo vs wr => ∃ j : Nat, j ≤ 4 ∧ vo = .string (strOf (pj n j)) ∧ vs = .int .i64 (24 - 8 * (j : Int)) ∧ Hid (Below w.heap.size w wr)) (fun _ vs _ => (intOf vs + 8).toNat)
 case atStart => exact ⟨0, by omega, rfl, rfl, Below.refl _ _⟩
 case round =>
  obtain ⟨j, hj, rfl, rfl, HB⟩ := hrel
  have hj5 : j = 0 ∨ j = 1 ∨ j = 2 ∨ j = 3 ∨ j = 4 := by omega
  rcases hj5 with rfl | rfl | rfl | rfl | rfl
  ·obtain ⟨b, hb⟩ : ∃ b, b = n / 16777216 := ⟨_, rfl⟩
   have hb256 : b < 256 := by omega
   obtain ⟨a, ha⟩ : ∃ a, a = n / 16777216 := ⟨_, rfl⟩
   have hal : a < 4294967296 := by omega
   have hsh : (n : Int) / 16777216 = (a : Int) := by omega
   have hand : bits .and .u32 (a : Int) 255 = (b : Int) := by rw [MH a hal]; omega
   have hbl := FW b hb256
   have eP := hid hbl
   have LM := hid hb
   have hai : (a : Int) < 4294967296 := by omega
   have hbi : (b : Int) < 256 := by omega
   have a1 : ∀ w : World, (Op.stringOp .add (strOf (pj n 0)) (strOf (Lib.decDigits b))).run Tryz.prog w = .ok (.string (strOf (pj n 0 ++ Lib.decDigits b))) w := fun w => dX _ _ w (by have h1 := wY.out; have h2 := eP.out; simp only [pj] at h1 ⊢; simp; omega)
   have a2 : ∀ w : World, (Op.stringOp .add (strOf (pj n 0 ++ Lib.decDigits b)) ⟨#[46]⟩).run Tryz.prog w = .ok (.string (strOf (pj n 1))) w := fun w => by
    have e : pj n 1 = pj n 0 ++ Lib.decDigits b ++ [46] := by rw [LM.out]; rfl
    rw [e]
    exact dX _ [46] w (by have h1 := wY.out; have h2 := eP.out; simp only [pj] at h1 ⊢; simp; omega)
   clear hb ha hal hbl
   generalize hX : strOf (pj n 0) = X at a1 ⊢
   generalize hY : strOf (Lib.decDigits b) = Y at a1
   generalize hZ : strOf (pj n 0 ++ Lib.decDigits b) = Z at a1 a2
   generalize hV : strOf (pj n 1) = V at a2
   have jK := hid hY
   have HXX := hid hX
   have HZZ := hid hZ
   have HVV := hid hV
   clear hV
   clear hX hY hZ
   go_wp2_with fail
   refine (Tab.Dn b (by omega) _ (HT.out.below HB.out)).mono ?_
   rw [jK.out]
   rintro e w2 ⟨rfl, hb2⟩
   have HB2 : Hid (Below w.heap.size w w2) := bel HB.out hb2
   clear hb2
   go_wp2
   go_roundw
   case rel => exact ⟨1, by omega, by rw [HVV.out], rfl, HB2⟩
   case measure => simp [intOf]
  ·obtain ⟨b, hb⟩ : ∃ b, b = n / 65536 % 256 := ⟨_, rfl⟩
   have hb256 : b < 256 := by omega
   obtain ⟨a, ha⟩ : ∃ a, a = n / 65536 := ⟨_, rfl⟩
   have hal : a < 4294967296 := by omega
   have hsh : (n : Int) / 65536 = (a : Int) := by omega
   have hand : bits .and .u32 (a : Int) 255 = (b : Int) := by rw [MH a hal]; omega
   have hbl := FW b hb256
   have eP := hid hbl
   have LM := hid hb
   have hai : (a : Int) < 4294967296 := by omega
   have hbi : (b : Int) < 256 := by omega
   have a1 : ∀ w : World, (Op.stringOp .add (strOf (pj n 1)) (strOf (Lib.decDigits b))).run Tryz.prog w = .ok (.string (strOf (pj n 1 ++ Lib.decDigits b))) w := fun w => dX _ _ w (by have h1 := wY.out; have h2 := eP.out; simp only [pj] at h1 ⊢; simp; omega)
   have a2 : ∀ w : World, (Op.stringOp .add (strOf (pj n 1 ++ Lib.decDigits b)) ⟨#[46]⟩).run Tryz.prog w = .ok (.string (strOf (pj n 2))) w := fun w => by
    have e : pj n 2 = pj n 1 ++ Lib.decDigits b ++ [46] := by rw [LM.out]; rfl
    rw [e]
    exact dX _ [46] w (by have h1 := wY.out; have h2 := eP.out; simp only [pj] at h1 ⊢; simp; omega)
   clear hb ha hal hbl
   generalize hX : strOf (pj n 1) = X at a1 ⊢
   generalize hY : strOf (Lib.decDigits b) = Y at a1
   generalize hZ : strOf (pj n 1 ++ Lib.decDigits b) = Z at a1 a2
   generalize hV : strOf (pj n 2) = V at a2
   have jK := hid hY
   have HXX := hid hX
   have HZZ := hid hZ
   have HVV := hid hV
   clear hV
   clear hX hY hZ
   go_wp2_with fail
   refine (Tab.Dn b (by omega) _ (HT.out.below HB.out)).mono ?_
   rw [jK.out]
   rintro e w2 ⟨rfl, hb2⟩
   have HB2 : Hid (Below w.heap.size w w2) := bel HB.out hb2
   clear hb2
   go_wp2
   go_roundw
   case rel => exact ⟨2, by omega, by rw [HVV.out], rfl, HB2⟩
   case measure => simp [intOf]
  ·obtain ⟨b, hb⟩ : ∃ b, b = n / 256 % 256 := ⟨_, rfl⟩
   have hb256 : b < 256 := by omega
   obtain ⟨a, ha⟩ : ∃ a, a = n / 256 := ⟨_, rfl⟩
   have hal : a < 4294967296 := by omega
   have hsh : (n : Int) / 256 = (a : Int) := by omega
   have hand : bits .and .u32 (a : Int) 255 = (b : Int) := by rw [MH a hal]; omega
   have hbl := FW b hb256
   have eP := hid hbl
   have LM := hid hb
   have hai : (a : Int) < 4294967296 := by omega
   have hbi : (b : Int) < 256 := by omega
   have a1 : ∀ w : World, (Op.stringOp .add (strOf (pj n 2)) (strOf (Lib.decDigits b))).run Tryz.prog w = .ok (.string (strOf (pj n 2 ++ Lib.decDigits b))) w := fun w => dX _ _ w (by have h1 := wY.out; have h2 := eP.out; simp only [pj] at h1 ⊢; simp; omega)
   have a2 : ∀ w : World, (Op.stringOp .add (strOf (pj n 2 ++ Lib.decDigits b)) ⟨#[46]⟩).run Tryz.prog w = .ok (.string (strOf (pj n 3))) w := fun w => by
    have e : pj n 3 = pj n 2 ++ Lib.decDigits b ++ [46] := by rw [LM.out]; rfl
    rw [e]
    exact dX _ [46] w (by have h1 := wY.out; have h2 := eP.out; simp only [pj] at h1 ⊢; simp; omega)
   clear hb ha hal hbl
   generalize hX : strOf (pj n 2) = X at a1 ⊢
   generalize hY : strOf (Lib.decDigits b) = Y at a1
   generalize hZ : strOf (pj n 2 ++ Lib.decDigits b) = Z at a1 a2
   generalize hV : strOf (pj n 3) = V at a2
   have jK := hid hY
   have HXX := hid hX
   have HZZ := hid hZ
   have HVV := hid hV
   clear hV
   clear hX hY hZ
   go_wp2_with fail
   refine (Tab.Dn b (by omega) _ (HT.out.below HB.out)).mono ?_
   rw [jK.out]
   rintro e w2 ⟨rfl, hb2⟩
   have HB2 : Hid (Below w.heap.size w w2) := bel HB.out hb2
   clear hb2
   go_wp2
   go_roundw
   case rel => exact ⟨3, by omega, by rw [HVV.out], rfl, HB2⟩
   case measure => simp [intOf]
  ·obtain ⟨b, hb⟩ : ∃ b, b = n % 256 := ⟨_, rfl⟩
   have hb256 : b < 256 := by omega
   obtain ⟨a, ha⟩ : ∃ a, a = n := ⟨_, rfl⟩
   have hal : a < 4294967296 := by omega
   have hsh : (n : Int) / 1 = (a : Int) := by omega
   have hand : bits .and .u32 (a : Int) 255 = (b : Int) := by rw [MH a hal]; omega
   have hbl := FW b hb256
   have eP := hid hbl
   have LM := hid hb
   have hai : (a : Int) < 4294967296 := by omega
   have hbi : (b : Int) < 256 := by omega
   have a1 : ∀ w : World, (Op.stringOp .add (strOf (pj n 3)) (strOf (Lib.decDigits b))).run Tryz.prog w = .ok (.string (strOf (pj n 3 ++ Lib.decDigits b))) w := fun w => dX _ _ w (by have h1 := wY.out; have h2 := eP.out; simp only [pj] at h1 ⊢; simp; omega)
   have Ua : Hid (pj n 3 ++ Lib.decDigits b = pj n 4) := by show _ = _; rw [LM.out]; rfl
   clear hb ha hal hbl
   generalize hX : strOf (pj n 3) = X at a1 ⊢
   generalize hY : strOf (Lib.decDigits b) = Y at a1
   generalize hZ : strOf (pj n 3 ++ Lib.decDigits b) = Z at a1
   have jK := hid hY
   have HXX := hid hX
   have HZZ := hid hZ
   clear hX hY hZ
   go_wp2_with fail
   refine (Tab.Dn b (by omega) _ (HT.out.below HB.out)).mono ?_
   rw [jK.out]
   rintro e w2 ⟨rfl, hb2⟩
   have HB2 : Hid (Below w.heap.size w w2) := bel HB.out hb2
   clear hb2
   go_wp2
   go_roundw
   case rel => exact ⟨4, by omega, by rw [← HZZ.out, Ua.out], rfl, HB2⟩
   case measure => simp [intOf]
  ·go_wp2
   go_ret
   exact ⟨rfl, HB.out⟩
end Go.Proofs.YtmdofbccebkbiaaGreatDoor.Bc
namespace Go.Proofs.YtmdofbccebkbiaaGreatDoor.QudH
open Go.RowKit Base aT dM mX Ov Rh Ri wS QudF Bc
theorem DK (n : Nat) (hn : n < 4294967296) (w : World) : Calls Tryz.prog 228 #[.int .u32 (n : Int)] w fun e w' => e = .returned (.string (strOf (pr n))) ∧ Below w.heap.size w w' := by
 have hl1 := SS n hn
 have hl2 := SX n hn
 have hl3 := SY n hn
 obtain ⟨a, ha⟩ : ∃ a, a = n / 16777216 := ⟨_, rfl⟩
 have ha2 : a < 256 := by omega
 have hal := FW a ha2
 obtain ⟨b, hb⟩ : ∃ b, b = n / 65536 % 256 := ⟨_, rfl⟩
 have hb2 : b < 256 := by omega
 have hbl := FW b hb2
 obtain ⟨c, hc⟩ : ∃ c, c = n / 256 % 256 := ⟨_, rfl⟩
 have hc2 : c < 256 := by omega
 have hcl := FW c hc2
 obtain ⟨d, hd⟩ : ∃ d, d = n % 256 := ⟨_, rfl⟩
 have hd2 : d < 256 := by omega
 have hdl := FW d hd2
 have q1 : (n : Int).tdiv 16777216 = (a : Int) := by rw [Int.tdiv_eq_ediv_of_nonneg (by omega)]; omega
 have q2 : ((n : Int).tdiv 65536).tmod 256 = (b : Int) := by rw [Int.tdiv_eq_ediv_of_nonneg (by omega), Int.tmod_eq_emod_of_nonneg (by omega)]; omega
 have q3 : ((n : Int).tdiv 256).tmod 256 = (c : Int) := by rw [Int.tdiv_eq_ediv_of_nonneg (by omega), Int.tmod_eq_emod_of_nonneg (by omega)]; omega
 have q4 : (n : Int).tmod 256 = (d : Int) := by rw [Int.tmod_eq_emod_of_nonneg (by omega)]; omega
 have r1 : (n : Int) / 16777216 = (a : Int) := by omega
 have r2 : (n : Int) / 65536 % 256 = (b : Int) := by omega
 have r3 : (n : Int) / 256 % 256 = (c : Int) := by omega
 have r4 : (n : Int) % 256 = (d : Int) := by omega
 have e1 : p1 n = Lib.decDigits a ++ [46] := by rw [ha]; rfl
 have e2 : p2 n = p1 n ++ Lib.decDigits b ++ [46] := by rw [hb]; rfl
 have e3 : p3 n = p2 n ++ Lib.decDigits c ++ [46] := by rw [hc]; rfl
 have e4 : pr n = p3 n ++ Lib.decDigits d := by rw [hd]; rfl
 have s1 : ∀ w : World, (Op.stringOp .add (strOf (Lib.decDigits a)) ⟨#[46]⟩).run Tryz.prog w = .ok (.string (strOf (p1 n))) w := fun w => by rw [e1]; exact dX _ [46] w (by simp; omega)
 have s2 : ∀ w : World, (Op.stringOp .add (strOf (p1 n)) (strOf (Lib.decDigits b))).run Tryz.prog w = .ok (.string (strOf (p1 n ++ Lib.decDigits b))) w := fun w => dX _ _ w (by omega)
 have s3 : ∀ w : World, (Op.stringOp .add (strOf (p1 n ++ Lib.decDigits b)) ⟨#[46]⟩).run Tryz.prog w = .ok (.string (strOf (p2 n))) w := fun w => by rw [e2]; exact dX _ [46] w (by simp; omega)
 have s4 : ∀ w : World, (Op.stringOp .add (strOf (p2 n)) (strOf (Lib.decDigits c))).run Tryz.prog w = .ok (.string (strOf (p2 n ++ Lib.decDigits c))) w := fun w => dX _ _ w (by omega)
 have s5 : ∀ w : World, (Op.stringOp .add (strOf (p2 n ++ Lib.decDigits c)) ⟨#[46]⟩).run Tryz.prog w = .ok (.string (strOf (p3 n))) w := fun w => by rw [e3]; exact dX _ [46] w (by simp; omega)
 have s6 : ∀ w : World, (Op.stringOp .add (strOf (p3 n)) (strOf (Lib.decDigits d))).run Tryz.prog w = .ok (.string (strOf (pr n))) w := fun w => by rw [e4]; exact dX _ _ w (by omega)
 generalize strOf (p1 n) = P1 at s1 s2
 generalize strOf (p1 n ++ Lib.decDigits b) = P2 at s2 s3
 generalize strOf (p2 n) = P3 at s3 s4
 generalize strOf (p2 n ++ Lib.decDigits c) = P4 at s4 s5
 generalize strOf (p3 n) = P5 at s5 s6
 generalize strOf (pr n) = P6 at s6 ⊢
 have DA := hid (fun w => iL (a + 1) a (by omega) (by omega) w)
 have DB := hid (fun w => iL (b + 1) b (by omega) (by omega) w)
 have DC := hid (fun w => iL (c + 1) c (by omega) (by omega) w)
 have DD := hid (fun w => iL (d + 1) d (by omega) (by omega) w)
 generalize strOf (Lib.decDigits a) = S1 at s1 DA
 generalize strOf (Lib.decDigits b) = S2 at s2 DB
 generalize strOf (Lib.decDigits c) = S3 at s4 DC
 generalize strOf (Lib.decDigits d) = S4 at s6 DD
 have hni : (n : Int) < 4294967296 := by omega
 have hn0 : 0 ≤ (n : Int) := by omega
 have ha3 : (a : Int) < 256 := by omega
 have hb3 : (b : Int) < 256 := by omega
 have hc3 : (c : Int) < 256 := by omega
 have hd3 : (d : Int) < 256 := by omega
 clear e1 e2 e3 e4 hl1 hl2 hl3 hal hbl hcl hdl ha hb hc hd ha2 hb2 hc2 hd2
 go_enter Tryz.func228, Tryz.ntmps228
 go_wp2_with fail
 refine (DA.out _).mono ?_
 rintro e w2 ⟨rfl, h2⟩
 have H2 := hid h2
 clear h2
 go_wp2_with fail
 refine (DB.out _).mono ?_
 rintro e w3 ⟨rfl, h3⟩
 have H3 := hid (bel H2.out h3)
 clear h3
 go_wp2_with fail
 refine (DC.out _).mono ?_
 rintro e w4 ⟨rfl, h4⟩
 have H4 := hid (bel H3.out h4)
 clear h4
 go_wp2_with fail
 refine (DD.out _).mono ?_
 rintro e w5 ⟨rfl, h5⟩
 have H5 := hid (bel H4.out h5)
 clear h5
 go_wp2
 go_ret
 exact ⟨rfl, H5.out⟩
end Go.Proofs.YtmdofbccebkbiaaGreatDoor.QudH
namespace Go.Proofs.YtmdofbccebkbiaaGreatDoor.VP
open Go.RowKit Base dM mX wS Bc
theorem Uu (d : Nat) (h : d < 10) : dv (UInt8.ofNat (48 + d)) = d ∧ jV 10 (UInt8.ofNat (48 + d)) = true := by
 have H : ∀ d : Fin 10, dv (UInt8.ofNat (48 + d.val)) = d.val ∧ jV 10 (UInt8.ofNat (48 + d.val)) = true := by decide +kernel
 exact H ⟨d, h⟩
theorem oL (b : Nat) (c : UInt8) (h : jV b c = true) : c ≠ 46 := by
 rintro rfl
 unfold jV at h
 rw [Bool.and_eq_true] at h
 exact absurd (of_decide_eq_true h.1) (by decide)
theorem YG (b : Nat) (L : List UInt8) (h : dH b L = true) : ∀ c ∈ L, c ≠ 46 := fun c hc => oL b c (List.all_eq_true.1 h c hc)
theorem F8 : ∀ (N n : Nat), n < N → val 10 (Lib.decDigits n) = n ∧ dH 10 (Lib.decDigits n) = true
 | 0, n, h => absurd h (by omega)
 | N + 1, n, hN => by
  rw [Lib.decDigits]
  split
  ·rename_i h
   obtain ⟨h1, h2⟩ := Uu n h
   refine ⟨?_, ?_⟩
   ·show 0 * 10 + dv (UInt8.ofNat (48 + n)) = n
    rw [h1]; omega
   ·show (jV 10 (UInt8.ofNat (48 + n)) && true) = true
    rw [h2]; rfl
  ·obtain ⟨h1, h2⟩ := Uu (n % 10) (by omega)
   obtain ⟨i1, i2⟩ := F8 N (n / 10) (by omega)
   refine ⟨by rw [iQ, i1, h1]; omega, ?_⟩
   unfold dH at i2 ⊢
   rw [List.all_append, i2, List.all_cons, h2]
   rfl
theorem OQ : ∀ (N n : Nat), n < N → 0 < n → (Lib.decDigits n).head? ≠ some 48 ∧ Lib.decDigits n ≠ []
 | 0, n, h, _ => absurd h (by omega)
 | N + 1, n, hN, h0 => by
  rw [Lib.decDigits]
  split
  ·rename_i h
   refine ⟨?_, by simp⟩
   have H : ∀ d : Fin 10, 0 < d.val → UInt8.ofNat (48 + d.val) ≠ 48 := by decide +kernel
   simpa using H ⟨n, h⟩ h0
  ·obtain ⟨i1, i2⟩ := OQ N (n / 10) (by omega) (by omega)
   refine ⟨?_, by simp⟩
   cases hL : Lib.decDigits (n / 10) with
   | nil => exact absurd hL i2
   | cons a r =>
    rw [hL] at i1
    exact i1
theorem Bg (n : Nat) : Lib.decDigits n ≠ [] := by
 rw [Lib.decDigits]
 split <;> simp
theorem shp_dec (n : Nat) : BZ (Lib.decDigits n) = (10, Lib.decDigits n) := by
 by_cases h : n < 10
 ·rw [Lib.decDigits, dif_pos h]
  rfl
 ·obtain ⟨h1, h2⟩ := OQ (n + 1) n (by omega) (by omega)
  match hL : Lib.decDigits n with
  | [] => exact absurd hL h2
  | [a] => rfl
  | a :: x :: r =>
   rw [hL] at h1
   have ha : a ≠ 48 := by simpa using h1
   unfold BZ
   simp only
   rw [if_neg ha]
theorem vU (n : Nat) : num (Lib.decDigits n) = some n := by
 obtain ⟨h1, h2⟩ := F8 (n + 1) n (by omega)
 unfold num
 rw [if_neg (Bg n), shp_dec]
 simp only
 rw [if_pos h2, h1]
theorem Dp : ∀ M : List UInt8, (∀ c ∈ M, c ≠ 46) → bY M = [M]
 | [], _ => rfl
 | c :: M, h => by rw [bY, if_neg (h c (by simp)), Dp M fun d hd => h d (by simp [hd])]
theorem nH : ∀ (A M : List UInt8), (∀ c ∈ A, c ≠ 46) → bY (A ++ 46 :: M) = A :: bY M
 | [], M, _ => by rw [List.nil_append, bY, if_pos rfl]
 | c :: A, M, h => by rw [List.cons_append, bY, if_neg (h c (by simp)), nH A M fun d hd => h d (by simp [hd])]
theorem jv (n : Nat) : ∀ c ∈ Lib.decDigits n, c ≠ 46 := YG 10 _ (F8 (n + 1) n (by omega)).2
theorem Jo (A M : List UInt8) (hM : M ≠ []) (h : ∀ c ∈ M, c ≠ 46) : xg (A ++ M) = A ++ M := by
 rcases List.eq_nil_or_concat M with rfl | ⟨M', d, rfl⟩
 ·exact absurd rfl hM
 ·rw [List.concat_eq_append] at h ⊢
  rw [← List.append_assoc]
  exact EW _ d (h d (by simp))
def BJ (n : Nat) : List (List UInt8) := [Lib.decDigits (n / 16777216), Lib.decDigits (n / 65536 % 256), Lib.decDigits (n / 256 % 256), Lib.decDigits (n % 256)]
theorem Vb (n : Nat) : pr n = Lib.decDigits (n / 16777216) ++ 46 :: (Lib.decDigits (n / 65536 % 256) ++ 46 :: (Lib.decDigits (n / 256 % 256) ++ 46 :: Lib.decDigits (n % 256))) := by
 simp [pr, p3, p2, p1]
theorem NK (n : Nat) : bY (pr n) = BJ n := by
 rw [Vb, nH _ _ (jv _), nH _ _ (jv _), nH _ _ (jv _), Dp _ (jv _)]
 rfl
theorem aaG (n : Nat) : xg (pr n) = pr n := Jo (p3 n) _ (Bg _) (jv _)
theorem J4 (n : Nat) (h : n < 4294967296) : kY 4294967296 0 (BJ n) = some n := by
 unfold BJ
 rw [uZ _ _ _ _ _ _ (vU _) (by omega), uZ _ _ _ _ _ _ (vU _) (by omega), uZ _ _ _ _ _ _ (vU _) (by omega), kZ _ _ _ _ (vU _) (by omega)]
 congr 1
 omega
theorem prs_pr (n : Nat) (h : n < 4294967296) : FX (pr n) = some n := by
 unfold FX
 rw [aaG, NK, if_pos (by simp [BJ]), J4 n h]
theorem MV (L M : List UInt8) (n : Nat) (h1 : xg L = M) (h2 : lst M = Lib.decDigits n) : ends L = true := by
 unfold ends
 rw [h1, h2, vU]
 rfl
theorem Zz (n : Nat) : lst (pr n) = Lib.decDigits (n % 256) := by
 unfold lst
 rw [NK]
 rfl
theorem ends_pr (n : Nat) : ends (pr n) = true := MV _ _ _ (aaG n) (Zz n)
theorem pr_head (n : Nat) : ∃ c r, pr n = c :: r ∧ c ≠ 46 := by
 rw [Vb]
 cases h : Lib.decDigits (n / 16777216) with
 | nil => exact absurd h (Bg _)
 | cons c r => exact ⟨c, _, rfl, jv (n / 16777216) c (by rw [h]; simp)⟩
end Go.Proofs.YtmdofbccebkbiaaGreatDoor.VP
