/- Texts that belong together: CG, X9, vO, TokR, TokU, TokS. -/
import Derived.Test.YtcfgioklgmlclaaGreatDoorMU
import Derived.Lib.TrimUEq
import Derived.Laws.RangeAny
import Derived.Test.YtcfgioklgmlclaaGreatDoorMA
set_option linter.unusedSimpArgs false
set_option linter.unusedVariables false
set_option maxRecDepth 100000
set_option maxHeartbeats 64000000
namespace Go.Proofs.YtcfgioklgmlclaaGreatDoor.CG
open Go.RowKit Base aP nV Nw vN
theorem ad3 (s : ByteArray) (w : World) (hs : s.size ≤ 1073741824) :
  Calls Tryz.prog 126 #[.string s] w fun e w' => e = .returned (.string (strOf (nI s.data.toList))) ∧ Below w.heap.size w w' := by
 have hcon : Calls Tryz.prog 31 #[.string s, .string (strOf blanks)] w fun e w' => e = .returned (.string (strOf (nI s.data.toList))) ∧ Below w.heap.size w w' :=
  Tryz.strings_Trim_set s (strOf blanks) w (by omega) (by decide) (ascii_of_all (by decide))
 obtain ⟨r, hr⟩ : ∃ r, r = strOf (nI s.data.toList) := ⟨_, rfl⟩
 rw [← hr] at hcon ⊢
 clear hr
 go_enter Tryz.func126, Tryz.ntmps126
 go_wp2_with fail
 refine hcon.mono ?_
 rintro e w1 ⟨rfl, hb⟩
 go_wp2_with fail
 go_ret
 exact ⟨rfl, hb⟩
theorem EM (s : ByteArray) (w : World) (hs : s.size ≤ 1073741824) :
  Calls Tryz.prog 127 #[.string s] w fun e w' => e = .returned (.string (strOf (tr s.data.toList))) ∧ Below w.heap.size w w' := by
 have hcon : Calls Tryz.prog 77 #[.string s, .string (strOf blanks)] w fun e w' => e = .returned (.string (strOf (tr s.data.toList))) ∧ Below w.heap.size w w' :=
  Tryz.strings_TrimRight_set s (strOf blanks) w (by omega) (by decide) (ascii_of_all (by decide))
 obtain ⟨r, hr⟩ : ∃ r, r = strOf (tr s.data.toList) := ⟨_, rfl⟩
 rw [← hr] at hcon ⊢
 clear hr
 go_enter Tryz.func127, Tryz.ntmps127
 go_wp2_with fail
 refine hcon.mono ?_
 rintro e w1 ⟨rfl, hb⟩
 go_wp2_with fail
 go_ret
 exact ⟨rfl, hb⟩
theorem XP (L : List UInt8) (c : UInt8) : tr (L ++ [c]) = if blanks.contains c then tr L else L ++ [c] := by
 unfold tr Lib.trimRightS
 rw [List.reverse_append, List.reverse_singleton, List.singleton_append, List.dropWhile_cons]
 split
 ·rfl
 ·simp
theorem MK (s : ByteArray) (n : Nat) (h : s.size = n + 1) : ∃ c, (∀ h', s[n]'h' = c) ∧ s.data.toList = s.data.toList.take n ++ [c] := by
 have hl : s.data.toList.length = s.size := Array.length_toList
 refine ⟨s[n], fun _ => rfl, ?_⟩
 have := List.take_succ_eq_append_getElem (l := s.data.toList) (i := n) (by omega)
 rw [List.take_of_length_le (by omega)] at this
 exact this
theorem ext_to (s : ByteArray) (k : Nat) : s.extract 0 k = strOf (s.data.toList.take k) := by
 apply ByteArray.ext
 apply Array.ext'
 rw [ByteArray.data_extract]
 simp [strOf, Array.toList_extract, List.extract_eq_take_drop]
theorem ext_from (s : ByteArray) (k n : Nat) (h : n = s.size) : s.extract k n = strOf (s.data.toList.drop k) := by
 subst h
 apply ByteArray.ext
 apply Array.ext'
 rw [ByteArray.data_extract]
 simp only [strOf, Array.toList_extract, List.extract_eq_take_drop]
 rw [List.take_of_length_le]
 rw [List.length_drop, Array.length_toList]
 exact Nat.le_refl _
theorem zI (s : ByteArray) (w : World) (hs : s.size ≤ 1073741824) :
  Calls Tryz.prog 40 #[.string s, .string (strOf blanks)] w fun e w' => e = .returned (.string (strOf (tr s.data.toList))) ∧ w = w' := by
 obtain ⟨T, hT⟩ : ∃ T, T = tr s.data.toList := ⟨_, rfl⟩
 have HT0 := hid hT
 rw [← hT]
 clear hT
 obtain ⟨B, hB⟩ : ∃ B, B = strOf blanks := ⟨_, rfl⟩
 have HB := hid hB
 rw [← hB]
 clear hB
 go_enter Tryz.func40, Tryz.ntmps40
 go_wp2
 go_loop [0] (fun v => ∃ u : ByteArray, v = .string u ∧ u.size ≤ s.size ∧ Hid (tr u.data.toList = T)) (fun v => match v with | .string u => u.size | _ => 0)
 case atStart => exact ⟨s, rfl, Nat.le_refl _, HT0.out.symm⟩
 case round =>
  obtain ⟨u, rfl, hu, HT⟩ := hrel
  rcases Nat.eq_zero_or_pos u.size with h0 | h0
  ·have e0 := toList_eq u h0
   have HV : Hid (u = strOf T) := by
    show _ = _
    rw [← HT.out, empty_of u h0]
    rfl
   clear h0
   go_wp2
   go_ret
   rw [HV.out]
   exact ⟨rfl, rfl⟩
  ·have e0 := kQ u h0
   have e0' := kH u h0
   obtain ⟨n, hn⟩ : ∃ n, u.size = n + 1 := ⟨u.size - 1, by omega⟩
   obtain ⟨c, hc, hs2⟩ := MK u n hn
   have HS := hid hs2
   have HN := hid hn
   have hsz : ((u.size : Int) - 1) = (n : Int) := by omega
   have hlt : n < u.size := by omega
   have hx := ext_to u n
   clear hs2
   cases hb : has blanks c
   ·have HV : Hid (u = strOf T) := by
     show _ = _
     rw [← HT.out, HS.out, XP, if_neg (by unfold has at hb; rw [hb]; decide), ← HS.out, ay]
    have Gz := hid hb
    clear hb
    go_wp2_with fail
    rw [HB.out]
    refine (lC (strOf blanks) c _ (by decide)).mono ?_
    rintro e w2 ⟨rfl, rfl⟩
    rw [show has (strOf blanks).data.toList c = false from Gz.out]
    go_wp2_with fail
    go_ret
    rw [HV.out]
    exact ⟨rfl, rfl⟩
   ·have HV : Hid (tr (strOf (u.data.toList.take n)).data.toList = T) := by
     show _ = _
     rw [← HT.out]
     conv => rhs; rw [HS.out, XP, if_pos (by unfold has at hb; rw [hb])]
     rfl
    have Gz := hid hb
    clear hb
    go_wp2_with fail
    rw [HB.out]
    refine (lC (strOf blanks) c _ (by decide)).mono ?_
    rintro e w2 ⟨rfl, rfl⟩
    rw [show has (strOf blanks).data.toList c = true from Gz.out]
    rw [← HB.out]
    go_wp2_with fail
    go_round
    case rel => exact ⟨_, rfl, by rw [ah, List.length_take]; omega, HV⟩
    case measure => simp [ah]; omega
theorem Gu (L : List UInt8) (c : UInt8) : tl (c :: L) = if blanks.contains c then tl L else c :: L := by
 unfold tl Lib.trimLeftS
 rw [List.dropWhile_cons]
theorem first (s : ByteArray) (h : 0 < s.size) : ∃ c M, (∀ h', s[0]'h' = c) ∧ s.data.toList = c :: M ∧ s.extract 1 s.size = strOf M ∧ M.length + 1 = s.size :=
 ⟨s[0], s.data.toList.drop 1, fun _ => rfl, drop_at s 0 h, ext_from s 1 s.size rfl, by rw [List.length_drop, Array.length_toList]; show s.size - 1 + 1 = _; omega⟩
theorem adE (s : ByteArray) (w : World) (hs : s.size ≤ 1073741824) :
  Calls Tryz.prog 37 #[.string s, .string (strOf blanks)] w fun e w' => e = .returned (.string (strOf (nI s.data.toList))) ∧ w = w' := by
 obtain ⟨T, hT⟩ : ∃ T, T = nI s.data.toList := ⟨_, rfl⟩
 have HT0 : Hid (T = tr (tl s.data.toList)) := by rw [hT, sU, ← XQ]; exact rfl
 rw [← hT]
 clear hT
 obtain ⟨B, hB⟩ : ∃ B, B = strOf blanks := ⟨_, rfl⟩
 have HB := hid hB
 rw [← hB]
 clear hB
 go_enter Tryz.func37, Tryz.ntmps37
 go_wp2
 go_loop [0] (fun v => ∃ u : ByteArray, v = .string u ∧ u.size ≤ s.size ∧ Hid (tr (tl u.data.toList) = T)) (fun v => match v with | .string u => u.size | _ => 0)
 case atStart => exact ⟨s, rfl, Nat.le_refl _, HT0.out.symm⟩
 case round =>
  obtain ⟨u, rfl, hu, HT⟩ := hrel
  rcases Nat.eq_zero_or_pos u.size with h0 | h0
  ·have e0 := toList_eq u h0
   have HV : Hid (tr u.data.toList = T) := by
    show _ = _
    rw [← HT.out, empty_of u h0]
    rfl
   clear h0
   go_wp2_with fail
   rw [HB.out]
   refine (zI u _ (by omega)).mono ?_
   rintro e w2 ⟨rfl, rfl⟩
   rw [HV.out]
   go_wp2_with fail
   go_ret
   exact ⟨rfl, rfl⟩
  ·have e0 := kQ u h0
   have e0' := kH u h0
   obtain ⟨c, M, hc, hs2, hx, hM⟩ := first u h0
   have HS := hid hs2
   have HM := hid hM
   clear hM
   clear hs2
   cases hb : has blanks c
   ·have HV : Hid (tr u.data.toList = T) := by
     show _ = _
     rw [← HT.out]
     conv => rhs; rw [HS.out, Gu, if_neg (by unfold has at hb; rw [hb]; decide), ← HS.out]
    have Gz := hid hb
    clear hb
    go_wp2_with fail
    rw [HB.out]
    refine (lC (strOf blanks) c _ (by decide)).mono ?_
    rintro e w2 ⟨rfl, rfl⟩
    rw [show has (strOf blanks).data.toList c = false from Gz.out]
    go_wp2_with fail
    refine (zI u _ (by omega)).mono ?_
    rintro e w2 ⟨rfl, rfl⟩
    rw [HV.out]
    go_wp2_with fail
    go_ret
    exact ⟨rfl, rfl⟩
   ·have HV : Hid (tr (tl (strOf M).data.toList) = T) := by
     show _ = _
     rw [← HT.out]
     conv => rhs; rw [HS.out, Gu, if_pos (by unfold has at hb; rw [hb])]
     rfl
    have Gz := hid hb
    clear hb
    have h1 : (1 : Int) ≤ (u.size : Int) := by omega
    go_wp2_with fail
    rw [HB.out]
    refine (lC (strOf blanks) c _ (by decide)).mono ?_
    rintro e w2 ⟨rfl, rfl⟩
    rw [show has (strOf blanks).data.toList c = true from Gz.out]
    rw [← HB.out]
    go_wp2_with fail
    go_round
    case rel => exact ⟨_, rfl, by have := HM.out; rw [ah]; omega, HV⟩
    case measure => have := HM.out; simp [ah]; omega
end Go.Proofs.YtcfgioklgmlclaaGreatDoor.CG
namespace Go.Proofs.YtcfgioklgmlclaaGreatDoor.X9
open Go.RowKit Base aP nV Nw vN CG
def Pm (C L : List UInt8) : List UInt8 := Lib.trimRightS L C
def tlS (C L : List UInt8) : List UInt8 := Lib.trimLeftS L C
theorem zi (C L : List UInt8) (c : UInt8) : Pm C (L ++ [c]) = if C.contains c then Pm C L else L ++ [c] := by
 unfold Pm Lib.trimRightS
 rw [List.reverse_append, List.reverse_singleton, List.singleton_append, List.dropWhile_cons]
 split
 ·rfl
 ·simp
theorem JF (C L : List UInt8) (c : UInt8) : tlS C (c :: L) = if C.contains c then tlS C L else c :: L := by
 unfold tlS Lib.trimLeftS
 rw [List.dropWhile_cons]
theorem JI (C L : List UInt8) : Lib.trimS L C = Pm C (tlS C L) := by
 unfold Lib.trimS Pm tlS Lib.trimRightS Lib.trimLeftS
 rw [abD, List.reverse_reverse]
theorem XO (C L : List UInt8) : (Pm C L).length ≤ L.length := by
 unfold Pm Lib.trimRightS
 rw [List.length_reverse]
 have := (List.dropWhile_sublist (fun x => C.contains x) (l := L.reverse)).length_le
 simpa using this
theorem ML (C L : List UInt8) : (Lib.trimS L C).length ≤ L.length := by
 rw [JI]
 refine Nat.le_trans (XO _ _) ?_
 unfold tlS Lib.trimLeftS
 exact (List.dropWhile_sublist _).length_le
theorem BG (C : List UInt8) (hC : C.length ≤ 1000) (s : ByteArray) (w : World) (hs : s.size ≤ 1073741824) :
  Calls Tryz.prog 40 #[.string s, .string (strOf C)] w fun e w' => e = .returned (.string (strOf (Pm C s.data.toList))) ∧ w = w' := by
 have HCL := hid hC
 have TR : Hid ((strOf C).size ≤ 1073741824) := by show _ ≤ _; rw [ah]; omega
 clear hC
 obtain ⟨T, hT⟩ : ∃ T, T = Pm C s.data.toList := ⟨_, rfl⟩
 have HT0 := hid hT
 rw [← hT]
 clear hT
 obtain ⟨B, hB⟩ : ∃ B, B = strOf C := ⟨_, rfl⟩
 have HB := hid hB
 rw [← hB]
 clear hB
 go_enter Tryz.func40, Tryz.ntmps40
 go_wp2
 go_loop [0] (fun v => ∃ u : ByteArray, v = .string u ∧ u.size ≤ s.size ∧ Hid (Pm C u.data.toList = T)) (fun v => match v with | .string u => u.size | _ => 0)
 case atStart => exact ⟨s, rfl, Nat.le_refl _, HT0.out.symm⟩
 case round =>
  obtain ⟨u, rfl, hu, HT⟩ := hrel
  rcases Nat.eq_zero_or_pos u.size with h0 | h0
  ·have e0 := toList_eq u h0
   have HV : Hid (u = strOf T) := by
    show _ = _
    rw [← HT.out, empty_of u h0]
    rfl
   clear h0
   go_wp2
   go_ret
   rw [HV.out]
   exact ⟨rfl, rfl⟩
  ·have e0 := kQ u h0
   have e0' := kH u h0
   obtain ⟨n, hn⟩ : ∃ n, u.size = n + 1 := ⟨u.size - 1, by omega⟩
   obtain ⟨c, hc, hs2⟩ := MK u n hn
   have HS := hid hs2
   have HN := hid hn
   have hsz : ((u.size : Int) - 1) = (n : Int) := by omega
   have hlt : n < u.size := by omega
   have hx := ext_to u n
   clear hs2
   cases hb : has C c
   ·have HV : Hid (u = strOf T) := by
     show _ = _
     rw [← HT.out, HS.out, zi, if_neg (by unfold has at hb; rw [hb]; decide), ← HS.out, ay]
    have Gz := hid hb
    clear hb
    go_wp2_with fail
    rw [HB.out]
    refine (lC (strOf C) c _ TR.out).mono ?_
    rintro e w2 ⟨rfl, rfl⟩
    rw [show has (strOf C).data.toList c = false from Gz.out]
    go_wp2_with fail
    go_ret
    rw [HV.out]
    exact ⟨rfl, rfl⟩
   ·have HV : Hid (Pm C (strOf (u.data.toList.take n)).data.toList = T) := by
     show _ = _
     rw [← HT.out]
     conv => rhs; rw [HS.out, zi, if_pos (by unfold has at hb; rw [hb])]
     rfl
    have Gz := hid hb
    clear hb
    go_wp2_with fail
    rw [HB.out]
    refine (lC (strOf C) c _ TR.out).mono ?_
    rintro e w2 ⟨rfl, rfl⟩
    rw [show has (strOf C).data.toList c = true from Gz.out]
    rw [← HB.out]
    go_wp2_with fail
    go_round
    case rel => exact ⟨_, rfl, by rw [ah, List.length_take]; omega, HV⟩
    case measure => simp [ah]; omega
theorem ZC (C : List UInt8) (hC : C.length ≤ 1000) (s : ByteArray) (w : World) (hs : s.size ≤ 1073741824) :
  Calls Tryz.prog 37 #[.string s, .string (strOf C)] w fun e w' => e = .returned (.string (strOf (Lib.trimS s.data.toList C))) ∧ w = w' := by
 have HCL := hid hC
 have TR : Hid ((strOf C).size ≤ 1073741824) := by show _ ≤ _; rw [ah]; omega
 clear hC
 obtain ⟨T, hT⟩ : ∃ T, T = Lib.trimS s.data.toList C := ⟨_, rfl⟩
 have HT0 : Hid (T = Pm C (tlS C s.data.toList)) := by show _ = _; rw [hT, JI]
 rw [← hT]
 clear hT
 obtain ⟨B, hB⟩ : ∃ B, B = strOf C := ⟨_, rfl⟩
 have HB := hid hB
 rw [← hB]
 clear hB
 go_enter Tryz.func37, Tryz.ntmps37
 go_wp2
 go_loop [0] (fun v => ∃ u : ByteArray, v = .string u ∧ u.size ≤ s.size ∧ Hid (Pm C (tlS C u.data.toList) = T)) (fun v => match v with | .string u => u.size | _ => 0)
 case atStart => exact ⟨s, rfl, Nat.le_refl _, HT0.out.symm⟩
 case round =>
  obtain ⟨u, rfl, hu, HT⟩ := hrel
  rcases Nat.eq_zero_or_pos u.size with h0 | h0
  ·have e0 := toList_eq u h0
   have HV : Hid (Pm C u.data.toList = T) := by
    show _ = _
    rw [← HT.out, empty_of u h0]
    rfl
   clear h0
   go_wp2_with fail
   rw [HB.out]
   refine (BG C HCL.out u _ (by omega)).mono ?_
   rintro e w2 ⟨rfl, rfl⟩
   rw [HV.out]
   go_wp2_with fail
   go_ret
   exact ⟨rfl, rfl⟩
  ·have e0 := kQ u h0
   have e0' := kH u h0
   obtain ⟨c, M, hc, hs2, hx, hM⟩ := first u h0
   have HS := hid hs2
   have HM := hid hM
   clear hM
   clear hs2
   cases hb : has C c
   ·have HV : Hid (Pm C u.data.toList = T) := by
     show _ = _
     rw [← HT.out]
     conv => rhs; rw [HS.out, JF, if_neg (by unfold has at hb; rw [hb]; decide), ← HS.out]
    have Gz := hid hb
    clear hb
    go_wp2_with fail
    rw [HB.out]
    refine (lC (strOf C) c _ TR.out).mono ?_
    rintro e w2 ⟨rfl, rfl⟩
    rw [show has (strOf C).data.toList c = false from Gz.out]
    go_wp2_with fail
    refine (BG C HCL.out u _ (by omega)).mono ?_
    rintro e w2 ⟨rfl, rfl⟩
    rw [HV.out]
    go_wp2_with fail
    go_ret
    exact ⟨rfl, rfl⟩
   ·have HV : Hid (Pm C (tlS C (strOf M).data.toList) = T) := by
     show _ = _
     rw [← HT.out]
     conv => rhs; rw [HS.out, JF, if_pos (by unfold has at hb; rw [hb])]
     rfl
    have Gz := hid hb
    clear hb
    have h1 : (1 : Int) ≤ (u.size : Int) := by omega
    go_wp2_with fail
    rw [HB.out]
    refine (lC (strOf C) c _ TR.out).mono ?_
    rintro e w2 ⟨rfl, rfl⟩
    rw [show has (strOf C).data.toList c = true from Gz.out]
    rw [← HB.out]
    go_wp2_with fail
    go_round
    case rel => exact ⟨_, rfl, by have := HM.out; rw [ah]; omega, HV⟩
    case measure => have := HM.out; simp [ah]; omega
end Go.Proofs.YtcfgioklgmlclaaGreatDoor.X9
namespace Go.Proofs.YtcfgioklgmlclaaGreatDoor.vO
open Go.RowKit Base aP nV Nw uy Uw
theorem un (x : Int) (h0 : 0 ≤ x) (h1 : x ≤ 255) : (u x).toNat = x.toNat := by have := iW x h0 h1; omega
theorem yB (r : Int) (h : xM r) (t : List UInt8) : Lib.decodeN (Lib.encodeRune r ++ t).length ((Lib.encodeRune r ++ t).getD 0 0).toNat ((Lib.encodeRune r ++ t).getD 1 0).toNat ((Lib.encodeRune r ++ t).getD 2 0).toNat ((Lib.encodeRune r ++ t).getD 3 0).toNat = (r.toNat, (Lib.encodeRune r).length) := by
 obtain ⟨h0, h1, h2⟩ := h
 by_cases a : r ≤ 127
 ·rw [enc1 r h0 a]
  simp only [List.cons_append, List.nil_append, List.getD_cons_zero, un r h0 (by omega), Lib.decodeN]
  rw [if_pos (by omega)]
  rfl
 by_cases b : r ≤ 2047
 ·rw [enc2 r (by omega) b]
  simp only [List.cons_append, List.nil_append, List.getD_cons_zero, List.getD_cons_succ, un (192 + r / 64) (by omega) (by omega), un (128 + r % 64) (by omega) (by omega), Lib.decodeN, List.length_cons, List.length_nil]
  rw [if_neg (by omega), if_pos (by omega), if_pos (by omega)]
  refine Prod.ext ?_ rfl
  simp only
  omega
 by_cases c : r ≤ 65535
 ·rw [enc3 r (by omega)]
  simp only [List.cons_append, List.nil_append, List.getD_cons_zero, List.getD_cons_succ, un (224 + r / 4096) (by omega) (by omega), un (128 + r / 64 % 64) (by omega) (by omega), un (128 + r % 64) (by omega) (by omega), Lib.decodeN, List.length_cons, List.length_nil]
  rw [if_neg (by omega), if_neg (by omega), if_pos (by omega), if_pos (by omega)]
  refine Prod.ext ?_ rfl
  simp only
  omega
 ·rw [enc4 r (by omega) h1]
  simp only [List.cons_append, List.nil_append, List.getD_cons_zero, List.getD_cons_succ, un (240 + r / 262144) (by omega) (by omega), un (128 + r / 4096 % 64) (by omega) (by omega), un (128 + r / 64 % 64) (by omega) (by omega), un (128 + r % 64) (by omega) (by omega), Lib.decodeN, List.length_cons, List.length_nil]
  rw [if_neg (by omega), if_neg (by omega), if_neg (by omega), if_pos (by omega), if_pos (by omega)]
  refine Prod.ext ?_ rfl
  simp only
  omega
theorem YC (s : ByteArray) (pos : Nat) (h : pos < s.size) (hw : (rd (s.data.toList.drop pos)).2.2 = true) :
  ∃ c z : Nat, Utf8.decode s pos = (c, z) ∧ (c : Int) = (rd (s.data.toList.drop pos)).1 ∧ (z : Int) = (rd (s.data.toList.drop pos)).2.1 ∧ c ≤ 1114111 := by
 obtain ⟨x, t, hL⟩ : ∃ x t, s.data.toList.drop pos = x :: t := ⟨_, _, drop_at s pos h⟩
 obtain ⟨hC, hE⟩ := (pJ x t).1 (by rw [← hL]; exact hw)
 have hsz := lF x t
 have hpos : 1 ≤ (rd (x :: t)).2.1.toNat := by omega
 obtain ⟨r, hr⟩ : ∃ r, r = (rd (x :: t)).1 := ⟨_, rfl⟩
 obtain ⟨z, hz⟩ : ∃ z, z = (rd (x :: t)).2.1.toNat := ⟨_, rfl⟩
 rw [← hr] at hC hE
 rw [← hz] at hE
 have hsplit : x :: t = Lib.encodeRune r ++ (x :: t).drop z := by rw [hE, List.take_append_drop]
 have hlen : (Lib.encodeRune r).length = z := by
  rw [hE, List.length_take, List.length_cons]
  omega
 have hd := yB r hC ((x :: t).drop z)
 rw [← hsplit, hlen] at hd
 have hg : ∀ k, (x :: t).getD k 0 = s.data.toList.getD (pos + k) 0 := fun k => by
  rw [← hL, List.getD_eq_getElem?_getD, List.getD_eq_getElem?_getD, List.getElem?_drop]
 have hl : (x :: t).length = s.data.toList.length - pos := by rw [← hL, List.length_drop]
 rw [hg, hg, hg, hg, hl, Nat.add_zero, ← Lib.decode_N] at hd
 refine ⟨r.toNat, z, hd, ?_, ?_, ?_⟩
 ·rw [hL, ← hr]
  have := hC.1
  omega
 ·rw [hL]
  omega
 ·have := hC.2.1
  omega
def RZ (r : Int) : Bool := decide (r = 9 ∨ 32 ≤ r ∧ r ≤ 126 ∨ 128 ≤ r ∧ r ≤ 255)
def quotable (L : List UInt8) : Bool := val L && (dec L).all RZ
theorem DX (s : ByteArray) (w : World) (hs : s.size ≤ 1073741824) :
  Calls Tryz.prog 108 #[.string s] w fun e w' => e = .returned (.bool (quotable s.data.toList)) ∧ Below w.heap.size w w' := by
 have hl : s.data.toList.length = s.size := Array.length_toList
 have HL := hid hl
 clear hl
 have hcv := fun (w : World) s => run_bytes_of_string (P := Tryz.prog) w 9 30 5 s Tryz.underlying9 Tryz.underlying30 Tryz.underlying5
 have FW : Hid (s.size ≤ grownCap w s.size 0 5) := grownCap_ge w s.size 0 5
 cases hv : val s.data.toList
 ·have HV : Hid (quotable s.data.toList = false) := by show _ = _; rw [quotable, hv, Bool.false_and]
  have HVV := hid hv
  clear hv
  go_enter Tryz.func108, Tryz.ntmps108
  go_wp2_with fail
  refine (uy.iP _ s.size _ s.data.toList _ (iy s _ w 5) hs FW.out).mono ?_
  rintro e w2 ⟨rfl, hb2⟩
  rw [HVV.out]
  clear hcv
  go_wp2_with fail
  go_ret
  rw [HV.out]
  exact ⟨rfl, ((Below.refl _ _).alloc (Nat.le_refl _) _).drew.trans (hb2.mono (by simp))⟩
 ·have HVV := hid hv
  clear hv
  go_enter Tryz.func108, Tryz.ntmps108
  go_wp2_with fail
  refine (uy.iP _ s.size _ s.data.toList _ (iy s _ w 5) hs FW.out).mono ?_
  rintro e w2 ⟨rfl, hb2⟩
  rw [HVV.out]
  clear hcv
  have hbel : Below w.heap.size w w2 := ((Below.refl _ _).alloc (Nat.le_refl _) _).drew.trans (hb2.mono (by simp))
  clear hb2
  go_wp2_with fail
  go_loopw [] (fun wr => ∃ pos : Nat, wr = w2.iter s pos ∧ pos ≤ s.size ∧ Hid (val (s.data.toList.drop pos) = true) ∧ Hid ((dec s.data.toList).all RZ = (dec (s.data.toList.drop pos)).all RZ)) (fun wr => s.size - wr.iterPos w2.heap.size)
  case atStart => exact ⟨0, rfl, Nat.zero_le _, HVV.out, rfl⟩
  case round =>
   obtain ⟨pos, rfl, hpos, HVL, HQ⟩ := hrel
   by_cases hlt : pos < s.size
   ·have hvd := TG s.data.toList pos (by rw [HL.out]; exact hlt)
    rw [HVL.out] at hvd
    have hvd' := hvd.symm
    rw [Bool.and_eq_true] at hvd'
    obtain ⟨hw, hvn⟩ := hvd'
    obtain ⟨c, z, hdec, hc, hz, hcm⟩ := YC s pos hlt hw
    obtain ⟨d1, d2, d3⟩ := H8 s.data.toList pos (by rw [HL.out]; exact hlt)
    rw [← hz] at hvn d1 d2 d3
    rw [← hc] at d1
    simp only [Int.toNat_natCast] at hvn d1
    rw [HL.out] at d3
    have hz1 : 1 ≤ z := by omega
    have hz2 : pos + z ≤ s.size := by omega
    have HVN := hid hvn
    have HD := hid d1
    have hnx : ∀ ty, (Instr.next (.pointer (some ⟨w2.heap.size, 0, none⟩)) true ty).run Tryz.prog (w2.iter s pos) = .ok (.tuple #[.bool true, .int .i64 pos, .int .i32 (c : Int)]) (w2.iter s (pos + z)) := fun ty => by
     have := run_next_any (P := Tryz.prog) w2 s pos ty hlt
     rw [hdec] at this
     exact this
    clear hvd hw hvn hdec hc hz d1 d2 d3
    by_cases hq : (c : Int) = 9 ∨ 32 ≤ (c : Int) ∧ (c : Int) ≤ 126 ∨ 128 ≤ (c : Int) ∧ (c : Int) ≤ 255
    ·have HQ2 : Hid ((dec s.data.toList).all RZ = (dec (s.data.toList.drop (pos + z))).all RZ) := by
      show _ = _
      rw [HQ.out, HD.out, List.all_cons, show RZ (c : Int) = true by unfold RZ; rw [decide_eq_true_iff]; exact hq, Bool.true_and]
     rcases hq with h | ⟨h1, h2⟩ | ⟨h1, h2⟩
     ·have e1 : ((c : Int) != 9) = false := by simp [h]
      clear h
      go_wp2
      all_goals
       go_roundw
       case rel => exact ⟨pos + z, rfl, hz2, HVN, HQ2⟩
       case measure => simp; omega
     ·have e1 : ((c : Int) != 9) = true := by simp; omega
      go_wp2
      all_goals
       go_roundw
       case rel => exact ⟨pos + z, rfl, hz2, HVN, HQ2⟩
       case measure => simp; omega
     ·have e1 : ((c : Int) != 9) = true := by simp; omega
      go_wp2
      all_goals
       go_roundw
       case rel => exact ⟨pos + z, rfl, hz2, HVN, HQ2⟩
       case measure => simp; omega
    ·have HF : Hid (quotable s.data.toList = false) := by
      show _ = _
      rw [quotable, HQ.out, HD.out, List.all_cons, show RZ (c : Int) = false by unfold RZ; rw [decide_eq_false_iff_not]; exact hq, Bool.false_and, Bool.and_false]
     have e1 : ((c : Int) != 9) = true := by simp; omega
     have hcase : (c : Int) < 32 ∨ (c : Int) = 127 ∨ 255 < (c : Int) := by omega
     clear hq
     rcases hcase with h | h | h
     all_goals
      go_wp2
      all_goals
       go_ret
       rw [HF.out]
       exact ⟨rfl, hbel.alloc hbel.size _⟩
   ·obtain rfl : pos = s.size := by omega
    have HF : Hid (quotable s.data.toList = true) := by
     show _ = _
     rw [quotable, HQ.out, ← HL.out, List.drop_length, HVV.out]
     rfl
    have hnx : ∀ ty, (Instr.next (.pointer (some ⟨w2.heap.size, 0, none⟩)) true ty).run Tryz.prog (w2.iter s s.size) = .ok (.tuple #[.bool false]) (w2.iter s s.size) := fun ty => run_next_end w2 s s.size ty hlt
    go_wp2
    go_ret
    rw [HF.out]
    exact ⟨rfl, hbel.alloc hbel.size _⟩
end Go.Proofs.YtcfgioklgmlclaaGreatDoor.vO
namespace Go.Proofs.YtcfgioklgmlclaaGreatDoor.TokR
open Go.RowKit Base aP nV Nw
theorem VQ (s : ByteArray) (w : World) (hs : s.size ≤ 1073741824) :
  Calls Tryz.prog 86 #[.string s] w fun e w' => e = .returned (.tuple #[.string (strOf (iJ s.data.toList).1), .int .i64 (((iJ s.data.toList).2 : Nat) : Int)]) ∧ Below w.heap.size w w' := by
 have hl : s.data.toList.length = s.size := Array.length_toList
 have HL := hid hl
 clear hl
 obtain ⟨i0, hi, hz0, hz1, hz2⟩ := info_parts jU
 rcases Nat.eq_zero_or_pos s.size with h0 | h0
 ·have HE : Hid (iJ s.data.toList = ([], 0)) := by rw [empty_of s h0]; exact rfl
  have e0 := toList_eq s h0
  clear HL h0 hs
  go_enter Tryz.func86, Tryz.ntmps86
  go_wp2
  go_ret2
  rw [HE.out]
  exact ⟨rfl, Below.refl _ _⟩
 ·have e0 := kQ s h0
  have e0' := kH s h0
  obtain ⟨c, hc⟩ : ∃ c, s[0] = c := ⟨_, rfl⟩
  have HD0 : Hid (s.data.toList = c :: s.data.toList.drop 1) := by
   have := drop_at s 0 h0
   rw [hc] at this
   exact this
  by_cases Aa : (c.toNat : Int) = 34
  ·have e1 : ((c.toNat : Int) != 34) = false := by simp [Aa]
   have HQ : Hid (iJ s.data.toList = ((qd (s.data.toList.drop 1)).1, (qd (s.data.toList.drop 1)).2 + 1)) := by
    show _ = _
    rw [HD0.out, iJ, if_pos (yD c 34 Aa)]
    rfl
   clear HD0 Aa
   go_enter Tryz.func86, Tryz.ntmps86
   go_wp2
   go_loopw [4, 5] (fun v vk wr => ∃ (j : Nat) (X : List UInt8), 1 ≤ j ∧ j ≤ s.size ∧ X.length ≤ j ∧ vk = .int .i64 j ∧ wr.ownsRow w.heap.size 5 1 v X.length (ak X) ∧ Hid (qd (s.data.toList.drop 1) = (X ++ (qd (s.data.toList.drop j)).1, j - 1 + (qd (s.data.toList.drop j)).2)) ∧ Below w.heap.size w wr) (fun _ vk _ => s.size - (intOf vk).toNat)
   case atStart => exact ⟨1, [], Nat.le_refl _, h0, Nat.zero_le _, rfl, World.ownsRow_nil _ _ _ _, by show _ = _; simp, Below.refl _ _⟩
   case round =>
    clear e1 hc e0 e0'
    obtain ⟨j, X, hj1, hj, hX, rfl, hown, Uf, hbel⟩ := hrel
    by_cases hlt : j < s.size
    ·obtain ⟨c, hc⟩ : ∃ c, s[j] = c := ⟨_, rfl⟩
     have HC : Hid (s.data.toList.drop j = c :: s.data.toList.drop (j + 1)) := by
      have := drop_at s j hlt
      rw [hc] at this
      exact this
     by_cases Aa : (c.toNat : Int) = 34
     ·have e1 : ((c.toNat : Int) != 34) = false := by simp [Aa]
      have HV : Hid (iJ s.data.toList = (X, j + 1)) := by
       show _ = _
       rw [HQ.out, Uf.out, HC.out, yD c 34 Aa, VI]
       refine Prod.ext (by simp) ?_
       show j - 1 + 1 + 1 = j + 1
       omega
      clear Aa
      obtain ⟨A, cp, rfl, _, _, hrd⟩ := bZ hown
      have hst := aQ 30 9 5 Tryz.underlying30 Tryz.underlying5 Tryz.underlying9 _ cp hrd
      have hmin : min ((j : Int) + 1) (s.size : Int) = (j : Int) + 1 := by omega
      go_wp2
      all_goals
       go_ret2
       rw [HV.out]
       exact ⟨by first | rfl | exact nR rfl (int_eq (by omega)), hbel⟩
     ·have e1 : ((c.toNat : Int) != 34) = true := by simp [Aa]
      by_cases YW : (c.toNat : Int) = 92 ∧ j + 1 < s.size
      ·obtain ⟨YW, hlt2⟩ := YW
       have e2 : ((c.toNat : Int) == 92) = true := by simp [YW]
       have hlt2' : (j : Int) + 1 < (s.size : Int) := by omega
       obtain ⟨d, hd⟩ : ∃ d, s[j + 1] = d := ⟨_, rfl⟩
       have HC2 : Hid (s.data.toList.drop (j + 1) = d :: s.data.toList.drop (j + 2)) := by
        have := drop_at s (j + 1) hlt2
        rw [hd] at this
        exact this
       have HV : Hid (qd (s.data.toList.drop 1) = ((X ++ [d]) ++ (qd (s.data.toList.drop (j + 2))).1, j + 2 - 1 + (qd (s.data.toList.drop (j + 2))).2)) := by
        show _ = _
        rw [Uf.out, HC.out, HC2.out, yD c 92 YW, VJ]
        refine Prod.ext (by simp) ?_
        simp only
        omega
       clear Aa YW
       have ht : ((j : Int) + 1).toNat = j + 1 := by omega
       go_wp2_with (at_builtin; refine bC rfl _ _ 30 rfl w.heap.size 5 i0 (.int .u8 0) 1 Tryz.underlying30 hi hz0 hz1 hz2 rfl _ X.length _ rfl hown hbel hbel.size [.int .u8 (d.toNat : Int)] 1 rfl rfl (by intro u hu; simp at hu; subst hu; rfl) (by unfold maxLen; omega) (by omega) ?_)
       intro v' w3 hown3 dK
       clear hown hbel
       go_wp2
       go_roundw
       case rel => exact ⟨j + 2, X ++ [d], by omega, by omega, by simp; omega, by rw [show ((j + 2 : Nat) : Int) = (j : Int) + 1 + 1 by omega], by rw [aX, List.length_append]; exact hown3, HV, dK⟩
       case measure => simp [intOf]; omega
      ·have HV : Hid (qd (s.data.toList.drop 1) = ((X ++ [c]) ++ (qd (s.data.toList.drop (j + 1))).1, j + 1 - 1 + (qd (s.data.toList.drop (j + 1))).2)) := by
        show _ = _
        by_cases hq : (c.toNat : Int) = 92
        ·have hn : j + 1 = s.size := by omega
         have e : s.data.toList.drop (j + 1) = [] := by rw [hn, ← HL.out, List.drop_length]
         rw [Uf.out, HC.out, e, yD c 92 hq, XE]
         refine Prod.ext (by simp [qd]) ?_
         simp [qd]
         omega
        ·rw [Uf.out, HC.out, Jg c _ (ne34 c Aa) (ne92 c hq)]
         refine Prod.ext (by simp) ?_
         simp only
         omega
       have hcase : ((c.toNat : Int) == 92) = false ∨ (((c.toNat : Int) == 92) = true ∧ ¬ ((j : Int) + 1 < (s.size : Int))) := by
        by_cases hq : (c.toNat : Int) = 92
        ·exact .inr ⟨by simp [hq], by omega⟩
        ·exact .inl (by simp [hq])
       clear Aa YW
       rcases hcase with e2 | ⟨e2, e3⟩
       all_goals
        go_wp2_with (at_builtin; refine bC rfl _ _ 30 rfl w.heap.size 5 i0 (.int .u8 0) 1 Tryz.underlying30 hi hz0 hz1 hz2 rfl _ X.length _ rfl hown hbel hbel.size [.int .u8 (c.toNat : Int)] 1 rfl rfl (by intro u hu; simp at hu; subst hu; rfl) (by unfold maxLen; omega) (by omega) ?_)
        intro v' w3 hown3 dK
        clear hown hbel
        go_wp2
        go_roundw
        case rel => exact ⟨j + 1, X ++ [c], by omega, by omega, by simp; omega, by go_num, by rw [aX, List.length_append]; exact hown3, HV, dK⟩
        case measure => simp [intOf]; omega
    ·obtain rfl : j = s.size := by omega
     have HV : Hid (iJ s.data.toList = (X, s.size)) := by
      show _ = _
      rw [HQ.out, Uf.out, show s.data.toList.drop s.size = [] by rw [← HL.out, List.drop_length]]
      refine Prod.ext (by simp [qd]) ?_
      simp [qd]
      omega
     obtain ⟨A, cp, rfl, _, _, hrd⟩ := bZ hown
     have hst := aQ 30 9 5 Tryz.underlying30 Tryz.underlying5 Tryz.underlying9 _ cp hrd
     have hmin : min ((s.size : Int) + 1) (s.size : Int) = (s.size : Int) := by omega
     go_wp2
     all_goals
      go_ret2
      rw [HV.out]
      exact ⟨by first | rfl | exact nR rfl (int_eq (by omega)), hbel⟩
  ·have e1 : ((c.toNat : Int) != 34) = true := by simp [Aa]
   have HQ : Hid (iJ s.data.toList = ([], 0)) := by
    show _ = _
    rw [HD0.out, iJ, if_neg (ne34 c Aa)]
   clear HD0 Aa
   go_enter Tryz.func86, Tryz.ntmps86
   go_wp2
   go_ret2
   rw [HQ.out]
   exact ⟨rfl, Below.refl _ _⟩
end Go.Proofs.YtcfgioklgmlclaaGreatDoor.TokR
namespace Go.Proofs.YtcfgioklgmlclaaGreatDoor.TokU
open Go.RowKit Base aP nV Nw vN CG uy vO
theorem DY (s : ByteArray) (w : World) (hs : s.size ≤ 1073741824) :
  Calls Tryz.prog 88 #[.string s] w fun e w' => e = .returned (.bool (quotable s.data.toList)) ∧ Below w.heap.size w w' := by
 have hl : s.data.toList.length = s.size := Array.length_toList
 have HL := hid hl
 clear hl
 have hcv := fun (w : World) s => run_bytes_of_string (P := Tryz.prog) w 9 30 5 s Tryz.underlying9 Tryz.underlying30 Tryz.underlying5
 have FW : Hid (s.size ≤ grownCap w s.size 0 5) := grownCap_ge w s.size 0 5
 go_enter Tryz.func88, Tryz.ntmps88
 go_wp2_with fail
 refine (RefD.decode_any _ s.size _ s.data.toList _ (iy s _ w 5) hs FW.out).mono ?_
 rintro e w2 ⟨v, rfl, hown, hb2⟩
 have hbel : Below w.heap.size w w2 := ((Below.refl _ _).alloc (Nat.le_refl _) _).drew.trans (hb2.mono (by simp))
 clear hb2 hcv FW
 obtain ⟨n, hn⟩ : ∃ n, n = (dec s.data.toList).length := ⟨_, rfl⟩
 have hn2 : n ≤ 1073741824 := by rw [hn]; have := RefV.lu s.data.toList; have := HL.out; omega
 rw [← hn] at hown
 have HN := hid hn
 clear hn
 obtain ⟨A, cap, rfl, hc, _, hr⟩ := bZ hown
 have HR := hid hr
 clear hown hr
 go_wp2_with fail
 go_loop [10] (fun vk => ∃ k : Nat, k ≤ n ∧ vk = .int .i64 k ∧ Hid ((dec s.data.toList).all RZ = ((dec s.data.toList).drop k).all RZ)) (fun vk => n - (intOf vk).toNat)
 case atStart => exact ⟨0, Nat.zero_le _, rfl, rfl⟩
 case round =>
  obtain ⟨k, hk, rfl, HQ⟩ := hrel
  by_cases hlt : k < n
  ·have hlt' : k < (dec s.data.toList).length := by rw [← HN.out]; exact hlt
   obtain ⟨r, hrr⟩ : ∃ r, r = (dec s.data.toList)[k] := ⟨_, rfl⟩
   obtain ⟨b, off, rfl, hb, _⟩ := HR.out.spot (by omega)
   have hcell := HR.out.int k hlt'
   rw [← hrr] at hcell
   have HD : Hid ((dec s.data.toList).drop k = r :: (dec s.data.toList).drop (k + 1)) := by
    show _ = _
    rw [List.drop_eq_getElem_cons hlt', hrr]
   clear hrr
   by_cases hq : r = 9 ∨ 32 ≤ r ∧ r ≤ 126 ∨ 128 ≤ r ∧ r ≤ 255
   ·have HQ2 : Hid ((dec s.data.toList).all RZ = ((dec s.data.toList).drop (k + 1)).all RZ) := by
     show _ = _
     rw [HQ.out, HD.out, List.all_cons, show RZ r = true by unfold RZ; rw [decide_eq_true_iff]; exact hq, Bool.true_and]
    rcases hq with h | ⟨h1, h2⟩ | ⟨h1, h2⟩
    ·subst h
     go_wp2
     go_round
     case rel => exact ⟨k + 1, by omega, by go_num, HQ2⟩
     case measure => simp [intOf]; omega
    ·have e1 : (r == 127) = false := by simp; omega
     by_cases h9 : r = 9
     ·omega
     have e2 : (r != 9) = true := by simp; omega
     go_wp2
     go_round
     case rel => exact ⟨k + 1, by omega, by go_num, HQ2⟩
     case measure => simp [intOf]; omega
    ·have e1 : (r == 127) = false := by simp; omega
     have e2 : (r != 9) = true := by simp; omega
     go_wp2
     go_round
     case rel => exact ⟨k + 1, by omega, by go_num, HQ2⟩
     case measure => simp [intOf]; omega
   ·have HF : Hid (quotable s.data.toList = false) := by
     show _ = _
     rw [quotable, HQ.out, HD.out, List.all_cons, show RZ r = false by unfold RZ; rw [decide_eq_false_iff_not]; exact hq, Bool.false_and, Bool.and_false]
    have e2 : (r != 9) = true := by simp; omega
    have hcase : r < 32 ∨ (r == 127) = true ∧ ¬ r < 32 ∨ (r == 127) = false ∧ ¬ r < 32 ∧ 255 < r := by
     by_cases h127 : r = 127
     ·exact .inr (.inl ⟨by simp [h127], by omega⟩)
     ·by_cases h32 : r < 32
      ·exact .inl h32
      ·exact .inr (.inr ⟨by simp [h127], h32, by omega⟩)
    clear hq
    rcases hcase with h | ⟨h, h'⟩ | ⟨h, h', h''⟩
    all_goals
     go_wp2
     all_goals
      go_ret
      rw [HF.out]
      exact ⟨rfl, hbel⟩
  ·obtain rfl : k = n := by omega
   have HF : Hid (quotable s.data.toList = val s.data.toList) := by
    show _ = _
    rw [quotable, HQ.out, HN.out, List.drop_length]
    simp
   have hcv := fun (w : World) s => run_bytes_of_string (P := Tryz.prog) w 9 30 5 s Tryz.underlying9 Tryz.underlying30 Tryz.underlying5
   have FW : Hid (s.size ≤ grownCap w2 s.size 0 5) := grownCap_ge w2 s.size 0 5
   go_wp2_with fail
   refine (RefV.iP _ s.size _ s.data.toList _ (iy s _ w2 5) hs FW.out).mono ?_
   rintro e w3 ⟨rfl, hb3⟩
   rw [← HF.out]
   clear hcv
   go_wp2_with fail
   go_ret
   exact ⟨rfl, ((hbel.alloc hbel.size _).drew).trans (hb3.mono (by have := hbel.size; simp; omega))⟩
end Go.Proofs.YtcfgioklgmlclaaGreatDoor.TokU
namespace Go.Proofs.YtcfgioklgmlclaaGreatDoor.TokS
open Go.RowKit Base aP nV Nw
theorem Zy (s : ByteArray) (w : World) (hs : s.size ≤ 1073741824) :
  Calls Tryz.prog 163 #[.string s] w fun e w' => e = .returned (.string (strOf (qq s.data.toList))) ∧ Below w.heap.size w w' := by
 have hl : s.data.toList.length = s.size := Array.length_toList
 have HL := hid hl
 clear hl
 obtain ⟨i0, hi, hz0, hz1, hz2⟩ := info_parts jU
 go_enter Tryz.func163, Tryz.ntmps163
 go_wp2
 have hown0 : (w.alloc (.cells #[.int .u8 34] 5)).ownsRow w.heap.size 5 1 (.slice (some ⟨w.heap.size, 0, none⟩) 1 1) 1 (ak [34]) :=
  ⟨rfl, .inr ⟨w.heap.size, 1, #[.int .u8 34], rfl, Nat.le_refl _, heap_alloc_new w _, Nat.le_refl _, by decide, rfl, rfl⟩⟩
 go_loopw [3, 4] (fun v vk wr => ∃ (j m : Nat), j ≤ s.size ∧ m ≤ 2 * j + 1 ∧ vk = .int .i64 j ∧ Hid ((34 :: qt (s.data.toList.take j)).length = m) ∧ wr.ownsRow w.heap.size 5 1 v m (ak (34 :: qt (s.data.toList.take j))) ∧ Below w.heap.size w wr) (fun _ vk _ => s.size - (intOf vk).toNat)
 case atStart => exact ⟨0, 1, Nat.zero_le _, by omega, rfl, rfl, hown0, (Below.refl _ _).alloc (Nat.le_refl _) _⟩
 case round =>
  clear hown0
  obtain ⟨j, m, hj, hm, rfl, HM, hown, hbel⟩ := hrel
  by_cases hlt : j < s.size
  ·obtain ⟨c, hc⟩ : ∃ c, s[j] = c := ⟨_, rfl⟩
   have HS : Hid (s.data.toList.take (j + 1) = s.data.toList.take j ++ [c]) := by
    rw [← hc, List.take_succ_eq_append_getElem (by rw [HL.out]; exact hlt)]
    rfl
   by_cases hq : (c.toNat : Int) = 34 ∨ (c.toNat : Int) = 92
   ·have HE : Hid (34 :: qt (s.data.toList.take (j + 1)) = (34 :: qt (s.data.toList.take j)) ++ [92] ++ [c]) := by
     show _ = _
     rw [HS.out, XF, qe, if_pos (by rcases hq with h | h; exact .inl (yD c 34 h); exact .inr (yD c 92 h))]
     simp
    have hcase : ((c.toNat : Int) == 34) = true ∨ (((c.toNat : Int) == 34) = false ∧ ((c.toNat : Int) == 92) = true) := by
     by_cases h : (c.toNat : Int) = 34
     ·exact .inl (by simp [h])
     ·exact .inr ⟨by simp [h], by simp; omega⟩
    clear hq
    rcases hcase with e1 | ⟨e1, e2⟩
    all_goals
     go_wp2_with (at_builtin; refine bC rfl _ _ 30 rfl w.heap.size 5 i0 (.int .u8 0) 1 Tryz.underlying30 hi hz0 hz1 hz2 rfl _ m _ rfl hown hbel hbel.size [.int .u8 92] 1 rfl rfl (by intro u hu; simp at hu; subst hu; rfl) (by unfold maxLen; omega) (by omega) ?_)
     intro v' w3 hown3 dK
     clear hown hbel
     go_wp2_with (at_builtin; refine bC rfl _ _ 30 rfl w.heap.size 5 i0 (.int .u8 0) 1 Tryz.underlying30 hi hz0 hz1 hz2 rfl _ (m + 1) _ rfl hown3 dK dK.size [.int .u8 (c.toNat : Int)] 1 rfl rfl (by intro u hu; simp at hu; subst hu; rfl) (by unfold maxLen; omega) (by omega) ?_)
     intro v4 w4 hown4 jl
     clear hown3 dK
     go_wp2
     go_roundw
     case rel => exact ⟨j + 1, m + 1 + 1, by omega, by omega, by go_num, by rw [HE.out, List.length_append, List.length_append, HM.out]; exact rfl, by rw [HE.out, aX, aX, show ak [92] = [.int .u8 92] from rfl, List.append_assoc]; exact hown4, jl⟩
     case measure => simp [intOf]; omega
   ·have HE : Hid (34 :: qt (s.data.toList.take (j + 1)) = (34 :: qt (s.data.toList.take j)) ++ [c]) := by
     show _ = _
     rw [HS.out, XF, qe, if_neg (by rintro (h | h); exact hq (.inl (by rw [h]; rfl)); exact hq (.inr (by rw [h]; rfl)))]
     all_goals simp
    have e1 : ((c.toNat : Int) == 34) = false := by simp; omega
    have e2 : ((c.toNat : Int) == 92) = false := by simp; omega
    clear hq
    go_wp2_with (at_builtin; refine bC rfl _ _ 30 rfl w.heap.size 5 i0 (.int .u8 0) 1 Tryz.underlying30 hi hz0 hz1 hz2 rfl _ m _ rfl hown hbel hbel.size [.int .u8 (c.toNat : Int)] 1 rfl rfl (by intro u hu; simp at hu; subst hu; rfl) (by unfold maxLen; omega) (by omega) ?_)
    intro v' w3 hown3 dK
    clear hown hbel
    go_wp2
    go_roundw
    case rel => exact ⟨j + 1, m + 1, by omega, by omega, by go_num, by rw [HE.out, List.length_append, HM.out]; exact rfl, by rw [HE.out, aX]; exact hown3, dK⟩
    case measure => simp [intOf]; omega
  ·obtain rfl : j = s.size := by omega
   have HE : Hid (34 :: qt (s.data.toList.take s.size) = 34 :: qt s.data.toList) := by
    show _ = _
    rw [← HL.out, List.take_length]
   rw [HE.out] at hown
   clear HM
   go_wp2_with (at_builtin; refine bC rfl _ _ 30 rfl w.heap.size 5 i0 (.int .u8 0) 1 Tryz.underlying30 hi hz0 hz1 hz2 rfl _ m _ rfl hown hbel hbel.size [.int .u8 34] 1 rfl rfl (by intro u hu; simp at hu; subst hu; rfl) (by unfold maxLen; omega) (by omega) ?_)
   intro v' w3 hown3 dK
   clear hown hbel
   have hown4 : w3.ownsRow w.heap.size 5 1 v' (m + 1) (ak (qq s.data.toList)) := by
    have e : ak (34 :: qt s.data.toList) ++ [.int .u8 34] = ak (qq s.data.toList) := by simp [qq, ak]
    rw [← e]
    exact hown3
   clear hown3
   obtain ⟨A, cp, rfl, _, _, hrd⟩ := bZ hown4
   have hst := aQ 30 9 5 Tryz.underlying30 Tryz.underlying5 Tryz.underlying9 _ cp hrd
   go_wp2
   go_ret
   exact ⟨rfl, dK⟩
end Go.Proofs.YtcfgioklgmlclaaGreatDoor.TokS
