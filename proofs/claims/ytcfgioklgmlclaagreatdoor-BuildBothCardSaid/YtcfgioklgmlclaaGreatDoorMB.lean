/- Texts that belong together: G9, Ko, SplG, Fh, Kq, fH, kX, QA, mD. -/
import Derived.Test.YtcfgioklgmlclaaGreatDoorM0
import Derived.Test.YtcfgioklgmlclaaGreatDoorMA
import Derived.Laws.BitsAllLaws
import Derived.Test.YtcfgioklgmlclaaGreatDoorShelf3
import Derived.Lib.SplitLaws
import Derived.Lib.IndexLaws
import Derived.Test.YtcfgioklgmlclaaGreatDoorShelf
import Derived.Laws.Rows
import Derived.BigQuiet
import Derived.Laws.CopyOwn
import Derived.Lib.LaidTab
import Derived.Lib.LaidU8
import Derived.Lib.SmallJoins
import Derived.Laws.Bits64b
set_option linter.unusedSimpArgs false
set_option linter.unusedVariables false
set_option maxRecDepth 100000
set_option maxHeartbeats 64000000
namespace Go.Proofs.YtcfgioklgmlclaaGreatDoor.G9
open Go.RowKit Base eX nO tC
theorem Di {b : Nat} {L : List UInt8} (h : gW b L = true) {c : UInt8} (hc : c ∈ L) : ny b c = true := List.all_eq_true.1 h c hc
theorem WY {b : Nat} {L : List UInt8} {c : UInt8} (hc : c ∈ L) (h : ny b c = false) : gW b L = false := by
 cases e : gW b L with
 | false => rfl
 | true => rw [Di e hc] at h; cases h
theorem Jw {t : List UInt8} : dO t = [[]] ↔ t = [] := by
 constructor
 ·intro h
  cases t with
  | nil => rfl
  | cons a r =>
   by_cases ha : a = 58
   ·subst ha; rw [eP] at h; injection h with _ h; exact absurd h (jH r)
   ·obtain ⟨x, s, _, e⟩ := iO ha r
    rw [e] at h
    cases h
 ·rintro rfl; rfl
theorem wI {p : List UInt8} (h1 : 1 ≤ p.length) (h4 : p.length ≤ 4) (hd : gW 16 p = true) : piece p = some (val 16 p) := if_pos ⟨h1, h4, hd⟩
theorem jm {q : List UInt8} {r : List (List UInt8)} (h : small q = none) : smalls (q :: r) = none := by rw [smalls, h]
theorem vH {q : List UInt8} {c : UInt8} (hc : c ∈ q) (h : ny 10 c = false) : small q = none := if_neg (fun e => by have := WY hc h; rw [this] at e; cases e.2.2.2.1)
theorem sN {t : List UInt8} (h : smalls (dN t) = none) : nG t = none := by unfold nG; rw [h]; rfl
theorem EK {q : List UInt8} {c : UInt8} (hc : c ∈ q) (h : ny 16 c = false) : piece q = none := if_neg (fun e => by have := WY hc h; rw [this] at e; cases e.2.2)
theorem Tv {l : List Nat} (h : l.length ≠ 4) : two l = none := by
 unfold two
 split
 ·exact absurd rfl h
 ·rfl
end Go.Proofs.YtcfgioklgmlclaaGreatDoor.G9
namespace Go.Proofs.YtcfgioklgmlclaaGreatDoor.Ko
open Go.RowKit Base aP eX nO tC G9
theorem take_snoc {α : Type} (l : List α) (k : Nat) (h : k < l.length) : l.take (k + 1) = l.take k ++ [l[k]] := List.take_succ_eq_append_getElem h
theorem Ba (b : Nat) (c : UInt8) (h : ny b c = true) : hex c.toNat = (dv c : Int) := by
 unfold ny at h
 rw [Bool.and_eq_true] at h
 have := of_decide_eq_true h.1
 unfold dv
 omega
theorem hex_neg (c : UInt8) (h : hex c.toNat < 0) : ny 16 c = false := by
 unfold ny
 rw [decide_eq_false (by omega)]
 rfl
theorem hex_pos (c : UInt8) (h : 0 ≤ hex c.toNat) : ny 16 c = true := by
 have := Bc c
 unfold ny
 rw [decide_eq_true h, decide_eq_true (by omega)]
 rfl
theorem dv_lt (b : Nat) (c : UInt8) (h : ny b c = true) : dv c < b := by
 unfold ny at h
 rw [Bool.and_eq_true] at h
 have h1 := of_decide_eq_true h.1
 have h2 := of_decide_eq_true h.2
 unfold dv
 omega
theorem BQ (b : Nat) (hb : 1 ≤ b) (L : List UInt8) (h : gW b L = true) : val b L < b ^ L.length := by
 have H : ∀ M : List UInt8, gW b M.reverse = true → val b M.reverse < b ^ M.length := by
  intro M
  induction M with
  | nil => intro _; simp [val]
  | cons c M ih =>
   intro h
   rw [List.reverse_cons] at h ⊢
   unfold gW at h
   rw [List.all_append, Bool.and_eq_true] at h
   have h1 := ih h.1
   have h2 : ny b c = true := by simpa using h.2
   have h3 := dv_lt b c h2
   rw [jK, List.length_cons, Nat.pow_succ]
   have : (val b M.reverse + 1) * b ≤ b ^ M.length * b := Nat.mul_le_mul_right _ h1
   rw [Nat.add_mul] at this
   omega
 have := H L.reverse (by rwa [List.reverse_reverse])
 rwa [List.reverse_reverse, List.length_reverse] at this
theorem Ez (b : Nat) (L : List UInt8) (c : UInt8) : gW b (L ++ [c]) = (gW b L && ny b c) := by
 unfold gW
 rw [List.all_append]
 simp
theorem LQ (a : Nat) (ha : a < 9223372036854775808) : (BitVec.ofInt 64 (a : Int)).toNat = a := by
 rw [BitVec.ofInt_natCast, BitVec.toNat_ofNat]; exact Nat.mod_eq_of_lt (by omega)
theorem U8 (a b : Nat) (ha : a < 9223372036854775808) (hb : b < 9223372036854775808) : bits .or .i64 (a : Int) (b : Int) = ((a ||| b : Nat) : Int) := by
 have hx : a ||| b < 2 ^ 63 := Nat.or_lt_two_pow (by omega) (by omega)
 show IntKind.i64.wrap ((BitVec.ofInt 64 (a : Int) ||| BitVec.ofInt 64 (b : Int)).toNat : Int) = _
 rw [BitVec.toNat_or, LQ a ha, LQ b hb, IntKind.wrap_i64]
 omega
theorem or_hex (n d : Nat) (hn : n < 65536) (hd : d < 16) : bits .or .i64 ((n : Int) * 16) (d : Int) = ((n * 16 + d : Nat) : Int) := by
 rw [show ((n : Int) * 16) = ((n * 16 : Nat) : Int) by omega, U8 _ _ (by omega) (by omega)]
 have := Nat.shiftLeft_add_eq_or_of_lt (i := 4) (b := d) (by omega) n
 rw [Nat.shiftLeft_eq] at this
 rw [← this]
def PV (o : Option Nat) : Value := match o with
 | some v => .tuple #[.int .u16 (v : Int), .bool true]
 | none => .tuple #[.int .u16 0, .bool false]
theorem OT {o : Option Nat} (h : o = none) : PV o = .tuple #[.int .u16 0, .bool false] := by rw [h]; rfl
theorem pv_some {o : Option Nat} {v : Nat} (h : o = some v) : PV o = .tuple #[.int .u16 (v : Int), .bool true] := by rw [h]; rfl
theorem LV {p : List UInt8} (h : ¬ (1 ≤ p.length ∧ p.length ≤ 4)) : piece p = none := if_neg (fun e => h ⟨e.1, e.2.1⟩)
theorem qy (s : ByteArray) (w : World) : Calls Tryz.prog 230 #[.string s] w fun e w' => e = .returned (PV (piece s.data.toList)) ∧ w = w' := by
 have hl : s.data.toList.length = s.size := Array.length_toList
 have HL := hid hl
 by_cases h1 : s.size < 1
 ·have HE := hid (OT (LV (p := s.data.toList) (by omega)))
  have hi : (s.size : Int) < 1 := by omega
  clear hl h1
  go_enter Tryz.func230, Tryz.ntmps230
  go_wp2
  go_ret2
  exact ⟨by rw [HE.out]; rfl, rfl⟩
 by_cases h4 : 4 < s.size
 ·have HE := hid (OT (LV (p := s.data.toList) (by omega)))
  have hi : (4 : Int) < (s.size : Int) := by omega
  have hi1 : ¬ (s.size : Int) < 1 := by omega
  clear hl h1 h4
  go_enter Tryz.func230, Tryz.ntmps230
  go_wp2
  go_ret2
  exact ⟨by rw [HE.out]; rfl, rfl⟩
 have hi : ¬ (4 : Int) < (s.size : Int) := by omega
 have hi1 : ¬ (s.size : Int) < 1 := by omega
 have JW : Hid (1 ≤ s.size ∧ s.size ≤ 4) := ⟨by omega, by omega⟩
 clear hl h1 h4
 go_enter Tryz.func230, Tryz.ntmps230
 go_wp2
 clear hi hi1
 generalize decide ((s.size : Int) < 1) = d1
 generalize decide ((4 : Int) < (s.size : Int)) = d2
 go_loopw [4, 5, 6] (fun vn vk _ wr => ∃ (k n : Nat), k ≤ s.size ∧ vk = .int .i64 (k : Int) ∧ vn = .int .i64 (n : Int) ∧ wr = w ∧ Hid (n = val 16 (s.data.toList.take k)) ∧ Hid (gW 16 (s.data.toList.take k) = true)) (fun _ vk _ _ => s.size - (intOf vk).toNat)
 case atStart => exact ⟨0, 0, Nat.zero_le _, rfl, rfl, rfl, rfl, rfl⟩
 case round =>
  obtain ⟨k, n, hk, rfl, rfl, rfl, HV, HT⟩ := hrel
  have hs4 : s.size ≤ 4 := JW.out.2
  by_cases hlt : k < s.size
  ·obtain ⟨c, hc⟩ : ∃ c, s[k] = c := ⟨_, rfl⟩
   have hkl : k < s.data.toList.length := by rw [HL.out]; exact hlt
   have hcl : s.data.toList[k] = c := hc
   have HS : Hid (s.data.toList.take (k + 1) = s.data.toList.take k ++ [c]) := by rw [← hcl]; exact take_snoc _ k hkl
   have HM : Hid (c ∈ s.data.toList) := by show _ ∈ _; rw [← hcl]; exact List.getElem_mem _
   have h0 : 0 ≤ (c.toNat : Int) := by omega
   have h1 : (c.toNat : Int) ≤ 255 := by have := c.toNat_lt; omega
   have hn : n < 4096 := by
    have h := BQ 16 (by omega) _ HT.out
    rw [← HV.out, List.length_take, HL.out] at h
    have h2 : k ≤ 3 := by have := JW.out.2; omega
    have h3 : 16 ^ min k s.size ≤ 16 ^ 3 := Nat.pow_le_pow_right (by omega) (by omega)
    omega
   clear hcl hkl
   by_cases hx : hex c.toNat < 0
   ·have HE := hid (OT (EK HM.out (hex_neg c hx)))
    obtain ⟨x, hxx⟩ : ∃ x, x = hex c.toNat := ⟨_, rfl⟩
    rw [← hxx] at hx
    have HX := hid hxx
    clear hxx
    go_wp2_with fail
    refine (eX.kL _ _ h0 h1).mono ?_
    rintro e w2 ⟨rfl, hw2⟩
    subst hw2
    rw [← HX.out]
    go_wp2
    go_ret2
    exact ⟨by rw [HE.out]; rfl, rfl⟩
   ·have hD : ny 16 c = true := hex_pos c (by omega)
    obtain ⟨d, hd⟩ : ∃ d, d = dv c := ⟨_, rfl⟩
    have hd16 : d < 16 := by rw [hd]; exact dv_lt 16 c hD
    have HX : Hid (hex c.toNat = (d : Int)) := by show _ = _; rw [hd]; exact Ba 16 c hD
    have Ci : Hid (n * 16 + d = val 16 (s.data.toList.take (k + 1))) := by show _ = _; rw [HS.out, jK, ← HV.out, hd]
    have HT2 : Hid (gW 16 (s.data.toList.take (k + 1)) = true) := by show _ = _; rw [HS.out, Ez, HT.out, hD]; rfl
    have hor := or_hex n d (by omega) hd16
    have hd0 : ¬ (d : Int) < 0 := by omega
    have hnb : (n : Int) < 4096 := by omega
    clear hx hD hd
    go_wp2_with fail
    refine (eX.kL _ _ h0 h1).mono ?_
    rintro e w2 ⟨rfl, hw2⟩
    subst hw2
    rw [HX.out]
    go_wp2
    go_roundw
    case rel => exact ⟨k + 1, n * 16 + d, by omega, by go_num, by first | rfl | go_num, by first | rfl | trivial, Ci.out, HT2.out⟩
    case measure => simp [intOf]; omega
  ·obtain rfl : k = s.size := by omega
   have hfull : s.data.toList.take s.size = s.data.toList := List.take_of_length_le (by rw [HL.out]; exact Nat.le_refl _)
   have hn : n < 65536 := by
    have h := BQ 16 (by omega) _ HT.out
    rw [← HV.out, hfull, HL.out] at h
    have h3 : 16 ^ s.size ≤ 16 ^ 4 := Nat.pow_le_pow_right (by omega) JW.out.2
    omega
   have HE : Hid (PV (piece s.data.toList) = .tuple #[.int .u16 (n : Int), .bool true]) := by
    show _ = _
    have h1 := HT.out
    have h2 := HV.out
    rw [hfull] at h1 h2
    rw [h2]
    exact pv_some (wI (by rw [HL.out]; exact JW.out.1) (by rw [HL.out]; exact JW.out.2) h1)
   have hni : (n : Int) < 65536 := by omega
   clear hfull
   go_wp2
   go_ret2
   exact ⟨by rw [HE.out]; rfl, rfl⟩
def SV (o : Option Nat) (e : Ending) : Prop := match o with
 | some v => e = .returned (.tuple #[.int .u16 (v : Int), .bool true])
 | none => ∃ x : Int, e = .returned (.tuple #[.int .u16 x, .bool false])
theorem D9 {o : Option Nat} (h : o = none) (x : Int) : SV o (.returned (.tuple #[.int .u16 x, .bool false])) := by rw [h]; exact ⟨x, rfl⟩
theorem sv_some {o : Option Nat} {v : Nat} (h : o = some v) : SV o (.returned (.tuple #[.int .u16 (v : Int), .bool true])) := by rw [h]; rfl
theorem YE (c : UInt8) (h : ny 10 c = true) : 48 ≤ c.toNat ∧ c.toNat ≤ 57 ∧ dv c = c.toNat - 48 := by
 have H : ∀ n : Fin 256, (decide (0 ≤ hex (n.val : Int)) && decide (hex (n.val : Int) < (10 : Nat))) = true → 48 ≤ n.val ∧ n.val ≤ 57 ∧ (hex (n.val : Int)).toNat = n.val - 48 := by decide +kernel
 exact H ⟨c.toNat, c.toNat_lt⟩ h
theorem MC {p : List UInt8} (h : ¬ (1 ≤ p.length ∧ p.length ≤ 3)) : small p = none := if_neg (fun e => h ⟨e.1, e.2.1⟩)
theorem VX {p : List UInt8} (h1 : 1 < p.length) (h2 : p.head? = some 48) : small p = none := if_neg (fun e => e.2.2.1 ⟨h1, h2⟩)
theorem qE (s : ByteArray) (w : World) : Calls Tryz.prog 234 #[.string s] w fun e w' => SV (small s.data.toList) e ∧ w = w' := by
 have hl : s.data.toList.length = s.size := Array.length_toList
 have HL := hid hl
 by_cases h1 : s.size < 1
 ·have HE : Hid (small s.data.toList = none) := MC (by omega)
  have hi : (s.size : Int) < 1 := by omega
  clear hl h1
  go_enter Tryz.func234, Tryz.ntmps234
  go_wp2
  go_ret2
  exact ⟨D9 HE.out _, rfl⟩
 by_cases h4 : 3 < s.size
 ·have HE : Hid (small s.data.toList = none) := MC (by omega)
  have hi : (3 : Int) < (s.size : Int) := by omega
  have hi1 : ¬ (s.size : Int) < 1 := by omega
  clear hl h1 h4
  go_enter Tryz.func234, Tryz.ntmps234
  go_wp2
  go_ret2
  exact ⟨D9 HE.out _, rfl⟩
 have hi : ¬ (3 : Int) < (s.size : Int) := by omega
 have hi1 : ¬ (s.size : Int) < 1 := by omega
 have JW : Hid (1 ≤ s.size ∧ s.size ≤ 3) := ⟨by omega, by omega⟩
 have h0s : 0 < s.size := by omega
 obtain ⟨a, ha⟩ : ∃ a, s[0] = a := ⟨_, rfl⟩
 have HA : Hid (s.data.toList.head? = some a) := by
  show _ = _
  have hcl : s.data.toList[0]'(by omega) = a := ha
  rw [List.head?_eq_getElem?, List.getElem?_eq_getElem (by omega), hcl]
 have hbr : (1 < s.size ∧ a = 48) ∨ ¬ (1 < s.size ∧ a = 48) := Classical.em _
 clear hl h1 h4
 rcases hbr with ⟨hb1, hb2⟩ | hb
 ·have HE : Hid (small s.data.toList = none) := VX (by rw [HL.out]; exact hb1) (by rw [HA.out, hb2])
  have hb1i : (1 : Int) < (s.size : Int) := by omega
  have hb2i : ((a.toNat : Int) == 48) = true := by rw [hb2]; rfl
  clear hb2
  go_enter Tryz.func234, Tryz.ntmps234
  go_wp2
  go_ret2
  exact ⟨D9 HE.out _, rfl⟩
 have HBR : Hid (¬ (1 < s.size ∧ s.data.toList.head? = some 48)) := by
  rintro ⟨x1, x2⟩
  rw [HA.out] at x2
  injection x2 with x2
  exact hb ⟨x1, x2⟩
 have hbr2 : ¬ (1 : Int) < (s.size : Int) ∨ ((1 : Int) < (s.size : Int) ∧ ((a.toNat : Int) == 48) = false) := by
  by_cases h : 1 < s.size
  ·refine .inr ⟨by omega, ?_⟩
   have : a ≠ 48 := fun e => hb ⟨h, e⟩
   rw [beq_eq_false_iff_ne]
   intro e
   exact this (UInt8.toNat_inj.1 (by show _ = 48; omega))
  ·exact .inl (by omega)
 clear hb
 rcases hbr2 with hq | ⟨hq, hq2⟩
 all_goals
  go_enter Tryz.func234, Tryz.ntmps234
  go_wp2
  try generalize decide ((s.size : Int) < 1) = d1
  try generalize decide ((3 : Int) < (s.size : Int)) = d2
  try generalize decide ((1 : Int) < (s.size : Int)) = d3
  clear hi hi1 hq
  go_loopw [4, 5] (fun vn vk wr => ∃ (k n : Nat), k ≤ s.size ∧ vk = .int .i64 (k : Int) ∧ vn = .int .u16 (n : Int) ∧ wr = w ∧ Hid (n = val 10 (s.data.toList.take k)) ∧ Hid (gW 10 (s.data.toList.take k) = true)) (fun _ vk _ => s.size - (intOf vk).toNat)
  case atStart => exact ⟨0, 0, Nat.zero_le _, rfl, rfl, rfl, rfl, rfl⟩
  case round =>
   obtain ⟨k, n, hk, rfl, rfl, rfl, HV, HT⟩ := hrel
   have hs3 : s.size ≤ 3 := JW.out.2
   by_cases hlt : k < s.size
   ·obtain ⟨c, hc⟩ : ∃ c, s[k] = c := ⟨_, rfl⟩
    have hkl : k < s.data.toList.length := by rw [HL.out]; exact hlt
    have hcl : s.data.toList[k] = c := hc
    have HS : Hid (s.data.toList.take (k + 1) = s.data.toList.take k ++ [c]) := by rw [← hcl]; exact take_snoc _ k hkl
    have HM : Hid (c ∈ s.data.toList) := by show _ ∈ _; rw [← hcl]; exact List.getElem_mem _
    have hn : n < 100 := by
     have h := BQ 10 (by omega) _ HT.out
     rw [← HV.out, List.length_take, HL.out] at h
     have h2 : k ≤ 2 := by have := JW.out.2; omega
     have h3 : 10 ^ min k s.size ≤ 10 ^ 2 := Nat.pow_le_pow_right (by omega) (by omega)
     omega
    clear hcl hkl
    cases hD : ny 10 c with
    | false =>
     have HE : Hid (small s.data.toList = none) := vH HM.out hD
     have hdg : eX.digit (c.toNat : Int) = false := by rw [KY, hD]
     have HDG := hid hdg
     clear hD hdg
     go_wp2_with fail
     refine (eX.ji _ _).mono ?_
     rintro e w2 ⟨rfl, hw2⟩
     subst hw2
     rw [HDG.out]
     go_wp2
     go_ret2
     exact ⟨D9 HE.out _, rfl⟩
    | true =>
     obtain ⟨hc1, hc2, hc3⟩ := YE c hD
     have HDG : Hid (eX.digit (c.toNat : Int) = true) := by show _ = _; rw [KY, hD]
     have Ci : Hid (n * 10 + (c.toNat - 48) = val 10 (s.data.toList.take (k + 1))) := by show _ = _; rw [HS.out, jK, ← HV.out, hc3]
     have HT2 : Hid (gW 10 (s.data.toList.take (k + 1)) = true) := by show _ = _; rw [HS.out, Ez, HT.out, hD]; rfl
     have hnb : (n : Int) < 100 := by omega
     have hci : 48 ≤ (c.toNat : Int) := by omega
     have hci2 : (c.toNat : Int) ≤ 57 := by omega
     have iQ : Hid ((n : Int) * 10 + ((c.toNat : Int) - 48) = ((n * 10 + (c.toNat - 48) : Nat) : Int)) := by show _ = _; omega
     clear hD hc3 hc1 hc2
     go_wp2_with fail
     refine (eX.ji _ _).mono ?_
     rintro e w2 ⟨rfl, hw2⟩
     subst hw2
     rw [HDG.out]
     go_wp2
     go_roundw
     case rel => exact ⟨k + 1, n * 10 + (c.toNat - 48), by omega, by go_num, by first | exact int_eq iQ.out | go_num, by first | rfl | trivial, Ci.out, HT2.out⟩
     case measure => simp [intOf]; omega
   ·obtain rfl : k = s.size := by omega
    have hfull : s.data.toList.take s.size = s.data.toList := List.take_of_length_le (by rw [HL.out]; exact Nat.le_refl _)
    have hn : n < 1000 := by
     have h := BQ 10 (by omega) _ HT.out
     rw [← HV.out, hfull, HL.out] at h
     have h3 : 10 ^ s.size ≤ 10 ^ 3 := Nat.pow_le_pow_right (by omega) JW.out.2
     omega
    have h1 := HT.out
    have h2 := HV.out
    rw [hfull] at h1 h2
    have hni : (n : Int) < 1000 := by omega
    clear hfull
    by_cases abZ : n ≤ 255
    ·have HE : Hid (small s.data.toList = some n) := by
      show _ = _
      rw [h2] at abZ ⊢
      exact if_pos ⟨by rw [HL.out]; exact JW.out.1, by rw [HL.out]; exact JW.out.2, by rw [HL.out]; exact HBR.out, h1, abZ⟩
     have hle : (n : Int) ≤ 255 := by omega
     clear h1 h2 abZ
     go_wp2
     go_ret2
     exact ⟨sv_some HE.out, rfl⟩
    ·have HE : Hid (small s.data.toList = none) := if_neg (fun e => abZ (by rw [h2]; exact e.2.2.2.2))
     have hle : ¬ (n : Int) ≤ 255 := by omega
     clear h1 h2 abZ
     go_wp2
     go_ret2
     exact ⟨D9 HE.out _, rfl⟩
end Go.Proofs.YtcfgioklgmlclaaGreatDoor.Ko
namespace Go.Proofs.YtcfgioklgmlclaaGreatDoor.Fh
open Go.RowKit Base aP uf
def Max (w : World) : Prop := ∃ m, w.cell? ⟨0, 0, none⟩ = some (.int .i64 m)
theorem Max.below {w w' : World} (h : Max w) (hb : Below w.heap.size w w') : Max w' := by
 obtain ⟨m, hm⟩ := h
 exact ⟨m, (hb.cell (World.block_lt_of_cell? _ _ hm)).trans hm⟩
theorem wP (b : UInt8) (f : List UInt8 → List (List UInt8)) (f0 : f [] = [[]]) (f1 : ∀ L, f (b :: L) = [] :: f L) (f2 : ∀ c L, c ≠ b → f (c :: L) = match f L with
  | [] => [[c]]
  | x :: r => (c :: x) :: r) : ∀ (L : List UInt8) (k : Nat), L.count b ≤ k → Lib.splitK [b] 0 k L = f L
 | [], 0, _ => f0.symm
 | [], k + 1, _ => f0.symm
 | a :: l, 0, h => by
  have hb : a ≠ b := by rintro rfl; simp at h
  have ih := wP b f f0 f1 f2 l 0 (by rw [List.count_cons_of_ne (by simpa using hb)] at h; exact h)
  show [a :: l] = _
  rw [f2 a l hb, ← ih]
  rfl
 | a :: l, k + 1, h => by
  by_cases hb : a = b
  ·subst hb
   have ih := wP a f f0 f1 f2 l k (by simp at h; omega)
   have e : Lib.index (a :: l) [a] = 0 := by rw [Lib.index, if_pos (by simp [List.isPrefixOf])]
   rw [f1, Lib.splitK, e, if_neg (by decide)]
   show [] :: _ = _
   rw [← ih]
   rfl
  ·have hc : l.count b ≤ k + 1 := by rw [List.count_cons_of_ne (by simpa using hb)] at h; exact h
   have ih := wP b f f0 f1 f2 l (k + 1) hc
   have e : Lib.index (a :: l) [b] = if Lib.index l [b] == -1 then -1 else Lib.index l [b] + 1 := by rw [Lib.index, if_neg (by simp [List.isPrefixOf, Ne.symm hb])]
   rw [Lib.splitK] at ih ⊢
   rw [f2 a l hb, ← ih, e]
   by_cases hm : Lib.index l [b] = -1
   ·rw [hm]
    rfl
   ·have hge := Lib.index_ge l [b]
    obtain ⟨j, hj⟩ : ∃ j : Nat, Lib.index l [b] = j := ⟨(Lib.index l [b]).toNat, by omega⟩
    have h1 : ((j : Int) == -1) = false := beq_eq_false_iff_ne.2 (by omega)
    have h2 : ((j : Int) + 1 == -1) = false := beq_eq_false_iff_ne.2 (by omega)
    have h3 : ((j : Int) + 1).toNat = j + 1 := by omega
    simp only [hj, h1, Bool.false_eq_true, if_false, h2, h3]
    simp
def Read (w : World) (l : List (List UInt8)) (e : Ending) (w' : World) : Prop := ∃ A n c, e = .returned (.slice A n c) ∧ n = l.length ∧ n ≤ c ∧ c ≤ maxLen ∧ dS w' A n ((l.map strOf).map Value.string) ∧ Below w.heap.size w w'
theorem qF (b : UInt8) (f : List UInt8 → List (List UInt8)) (f0 : f [] = [[]]) (f1 : ∀ L, f (b :: L) = [] :: f L) (f2 : ∀ c L, c ≠ b → f (c :: L) = match f L with
  | [] => [[c]]
  | x :: r => (c :: x) :: r) (s : ByteArray) (w : World) (hs : s.size ≤ 1073741824) (hM : Max w) : Calls Tryz.prog 226 #[.string s, .string ⟨#[b]⟩] w (Read w (f s.data.toList)) := by
 obtain ⟨m, hm⟩ := hM
 refine (Tryz.strings_Split s ⟨#[b]⟩ m w (by omega) hm (Nat.le_refl _)).mono ?_
 rintro e w' ⟨rfl, rfl⟩
 have hd := Lib.splitB_data ⟨#[b]⟩ 0 (Lib.countB s ⟨#[b]⟩) s
 rw [show (⟨#[b]⟩ : ByteArray).data.toList = [b] from rfl, wP b f f0 f1 f2 _ _ (by rw [← Lib.count_one]; exact Nat.le_refl _)] at hd
 have hl := Lib.splitB_all ⟨#[b]⟩ (Nat.le_refl _) 0 _ s rfl
 have hc := Lib.countB_le ⟨#[b]⟩ (Nat.le_refl _) s.size s (Nat.le_refl _)
 generalize Lib.splitB ⟨#[b]⟩ 0 (Lib.countB s ⟨#[b]⟩) s = B at hd hl ⊢
 have hB : B = (f s.data.toList).map strOf := by
  rw [← hd, List.map_map]
  conv => lhs; rw [← List.map_id B]
  exact List.map_congr_left fun x _ => (ay x).symm
 unfold Read
 rw [← hB]
 refine ⟨_, _, _, rfl, by rw [← hl, hB, List.length_map], Nat.le_refl _, by unfold maxLen; omega, ?_, (Below.refl _ _).alloc (Nat.le_refl _) _⟩
 exact dS.oN (by rw [List.length_map, hl]) (by simp) (fun j hj => by
  rw [Nat.zero_add, World.cell?_alloc_mark]
  simp)
end Go.Proofs.YtcfgioklgmlclaaGreatDoor.Fh
namespace Go.Proofs.YtcfgioklgmlclaaGreatDoor.Fh
open Go.RowKit Base aP uf nO tC G9
theorem S9 (s : ByteArray) (w : World) (hs : s.size ≤ 1073741824) (hM : Max w) : Calls Tryz.prog 226 #[.string s, .string ⟨#[46]⟩] w (Read w (dN s.data.toList)) :=
 qF 46 dN rfl (fun L => by rw [dN, if_pos rfl]) (fun c L h => by rw [dN, if_neg h]; cases dN L <;> rfl) s w hs hM
theorem Tc (s : ByteArray) (w : World) (hs : s.size ≤ 1073741824) (hM : Max w) : Calls Tryz.prog 226 #[.string s, .string ⟨#[58]⟩] w (Read w (dO s.data.toList)) :=
 qF 58 dO rfl eP (fun c L h => by rw [dO, if_neg h]; cases dO L <;> rfl) s w hs hM
theorem has46 (L : List UInt8) : decide (0 ≤ Lib.indexByte L 46) = L.contains 46 := by
 have hge := Lib.indexByte_ge L 46
 by_cases h : Lib.indexByte L 46 = -1
 ·have hn := Lib.indexByte_none h
  rw [decide_eq_false (by omega)]
  cases e : L.contains 46 with
  | false => rfl
  | true =>
   have hm : (46 : UInt8) ∈ L := by simpa using e
   obtain ⟨j, hj, he⟩ := List.getElem_of_mem hm
   exact absurd (List.getElem?_eq_some_iff.2 ⟨hj, he⟩) (hn j)
 ·obtain ⟨o, ho⟩ : ∃ o : Nat, Lib.indexByte L 46 = o := ⟨(Lib.indexByte L 46).toNat, by omega⟩
  have hs := (Lib.indexByte_some ho).1
  rw [decide_eq_true (by omega)]
  obtain ⟨hj, he⟩ := List.getElem?_eq_some_iff.1 hs
  symm
  simpa using (show (46 : UInt8) ∈ L by rw [← he]; exact List.getElem_mem _)
theorem CY (s : ByteArray) (w : World) : Calls Tryz.prog 58 #[.string s, .string ⟨#[46]⟩] w fun e w' => e = .returned (.bool (s.data.toList.contains 46)) ∧ w = w' := by
 refine (Tryz.strings_Contains_one s 46 w).mono ?_
 rintro e w' ⟨rfl, rfl⟩
 exact ⟨aB (has46 _), rfl⟩
theorem LD : ∀ (s : List UInt8), Lib.cut s [58, 58] = match xC s with
  | some p => (p.1, p.2, true)
  | none => (s, [], false)
 | [] => rfl
 | [a] => by
  by_cases h : a = 58
  ·subst h; rfl
  ·have : Lib.index [a] [58, 58] = -1 := by
    rw [Lib.index, if_neg (by simp [List.isPrefixOf])]
    rfl
   unfold Lib.cut
   rw [this]
   rfl
 | a :: b :: r => by
  have ih := LD (b :: r)
  rw [xC]
  by_cases h : a = 58 ∧ b = 58
  ·obtain ⟨rfl, rfl⟩ := h
   rw [if_pos ⟨rfl, rfl⟩]
   have : Lib.index (58 :: 58 :: r) [58, 58] = 0 := by rw [Lib.index, if_pos (by simp [List.isPrefixOf])]
   unfold Lib.cut
   rw [this]
   rfl
  ·rw [if_neg h]
   have e : Lib.index (a :: b :: r) [58, 58] = if Lib.index (b :: r) [58, 58] == -1 then -1 else Lib.index (b :: r) [58, 58] + 1 := by
    rw [Lib.index, if_neg]
    simp only [List.isPrefixOf, Bool.and_eq_true, beq_iff_eq]
    rintro ⟨h1, h2, _⟩
    exact h ⟨h1.symm, h2.symm⟩
   have hge := Lib.index_ge (b :: r) [58, 58]
   unfold Lib.cut at ih ⊢
   rw [e]
   by_cases hm : Lib.index (b :: r) [58, 58] = -1
   ·rw [hm] at ih ⊢
    cases hc : xC (b :: r) with
    | none => rfl
    | some p => rw [hc] at ih; simp at ih
   ·obtain ⟨j, hj⟩ : ∃ j : Nat, Lib.index (b :: r) [58, 58] = j := ⟨(Lib.index (b :: r) [58, 58]).toNat, by omega⟩
    rw [hj] at ih ⊢
    have h1 : ((j : Int) == -1) = false := beq_eq_false_iff_ne.2 (by omega)
    rw [if_pos (by omega)] at ih
    simp only [h1, Bool.false_eq_true, if_false]
    rw [if_pos (by omega)]
    cases hc : xC (b :: r) with
    | none => rw [hc] at ih; simp at ih
    | some p =>
     rw [hc] at ih
     simp only [Prod.mk.injEq] at ih ⊢
     have h3 : ((j : Int) + 1).toNat = j + 1 := by omega
     rw [h3, ← ih.1, ← ih.2.1]
     refine ⟨?_, ?_, ?_⟩
     ·simp
     ·show List.drop (j + 2 + 1) (a :: b :: r) = List.drop (j + 2) (b :: r)
      rw [List.drop_succ_cons]
     ·trivial
def cutV (s : ByteArray) : Value := match xC s.data.toList with
 | some p => .tuple #[.string (strOf p.1), .string (strOf p.2), .bool true]
 | none => .tuple #[.string s, .string (strOf []), .bool false]
theorem cut_any (s : ByteArray) (w : World) (hs : s.size ≤ 1073741824) (hM : Max w) : Calls Tryz.prog 28 #[.string s, .string ⟨#[58, 58]⟩] w fun e w' => e = .returned (cutV s) ∧ ∃ n, w' = w.drewN n := by
 obtain ⟨m, hm⟩ := hM
 refine (Tryz.strings_Cut s ⟨#[58, 58]⟩ m w (by omega) hm).mono ?_
 rintro e w' ⟨rfl, hn⟩
 refine ⟨?_, hn⟩
 rw [show (⟨#[58, 58]⟩ : ByteArray).data.toList = [58, 58] from rfl, LD]
 unfold cutV
 cases xC s.data.toList with
 | none => exact ret3 (by show Value.string (strOf s.data.toList) = _; rw [ay]) rfl rfl
 | some p => rfl
end Go.Proofs.YtcfgioklgmlclaaGreatDoor.Fh
namespace Go.Proofs.YtcfgioklgmlclaaGreatDoor.Kq
open Go.RowKit Base aP uf eX nO tC G9 Ko Fh
theorem drop_at {α : Type} (R : List α) (k : Nat) (p : α) (hk : k < R.length) (h : R[k] = p) : R.drop k = p :: R.drop (k + 1) := by rw [← h]; exact List.drop_eq_getElem_cons hk
def aW (L : List Nat) : List Value := L.map fun (n : Nat) => Value.int .u16 (n : Int)
theorem jM (L : List Nat) : (aW L).length = L.length := by simp [aW]
theorem wC (a b : List Nat) : aW (a ++ b) = aW a ++ aW b := by simp [aW]
theorem Vm (L : List Nat) : ∀ u ∈ aW L, u.oneCell' = true := by
 intro u hu
 simp only [aW, List.mem_map] at hu
 obtain ⟨c, _, rfl⟩ := hu
 rfl
def Box (w : World) (g : Nat) (t : TypeId) (L : List Nat) : Prop := w.heap[g]? = some (.cells (aW L).toArray t (0, 0))
theorem Box.cell {w : World} {g : Nat} {t : TypeId} {L : List Nat} (h : Box w g t L) (j : Nat) (hj : j < L.length) : w.cell? ⟨g, j, none⟩ = some (.int .u16 (L[j] : Int)) := by
 refine (cell_of_row w g j _ _ _ h).trans ?_
 simp [aW, hj]
theorem Box.frozen {w : World} {g : Nat} {t : TypeId} {L : List Nat} (h : Box w g t L) (j : Nat) : w.frozen? ⟨g, j, none⟩ = false := by
 unfold World.frozen?
 rw [h]
 simp
theorem Box.set {w : World} {g : Nat} {t : TypeId} {L : List Nat} (h : Box w g t L) (j n : Nat) : Box (w.setCell ⟨g, j, none⟩ (.int .u16 (n : Int))) g t (L.set j n) := by
 have := heap_setCell_same w g j _ _ (.int .u16 (n : Int)) h
 unfold Box
 rw [this]
 simp [aW, List.map_set]
theorem Box.below {w w' : World} {g : Nat} {t : TypeId} {L : List Nat} (h : Box w g t L) (hb : Below w.heap.size w w') : Box w' g t L := (hb.block _ (Array.getElem?_eq_some_iff.1 h).1).trans h
theorem Box.lt {w : World} {g : Nat} {t : TypeId} {L : List Nat} (h : Box w g t L) : g < w.heap.size := (Array.getElem?_eq_some_iff.1 h).1
theorem SX (p : List UInt8) (r : List (List UInt8)) (v : Nat) (h : small p = some v) : smalls (p :: r) = (smalls r).map (v :: ·) := by
 rw [smalls, h]
 cases smalls r <;> rfl
theorem SS {p : List UInt8} {v : Nat} (h : small p = some v) : v ≤ 255 := by
 unfold small at h
 split at h
 ·rename_i h2; injection h with h; omega
 ·cases h
theorem sJ (xs : List Nat) (v : Nat) (o : Option (List Nat)) : (o.map (v :: ·)).map (xs ++ ·) = o.map ((xs ++ [v]) ++ ·) := by
 cases o <;> simp
theorem KF (L : List Nat) (k v : Nat) (h : k < L.length) : (L.set k v).take (k + 1) = L.take k ++ [v] := by
 rw [List.take_succ_eq_append_getElem (by simpa using h)]
 simp [List.take_set_of_le]
theorem Xw (a b : Nat) (ha : a ≤ 255) (hb : b ≤ 255) : bits .or .u16 ((a : Int) * 256) (b : Int) = ((a * 256 + b : Nat) : Int) := by
 rw [show ((a : Int) * 256) = ((a * 256 : Nat) : Int) by omega, u16_or_nat _ _ (by omega) (by omega)]
 have := Nat.shiftLeft_add_eq_or_of_lt (i := 8) (b := b) (by omega) a
 rw [Nat.shiftLeft_eq] at this
 rw [← this]
def QV (o : Option (List Nat)) : Value := match o with
 | some [a, b] => .tuple #[.int .u16 (a : Int), .int .u16 (b : Int), .bool true]
 | _ => .tuple #[.int .u16 0, .int .u16 0, .bool false]
theorem XH {o : Option (List Nat)} (h : o = none) : QV o = .tuple #[.int .u16 0, .int .u16 0, .bool false] := by rw [h]; rfl
theorem qv_some {o : Option (List Nat)} {a b : Nat} (h : o = some [a, b]) : QV o = .tuple #[.int .u16 (a : Int), .int .u16 (b : Int), .bool true] := by rw [h]; rfl
theorem Ju : ∀ {ps : List (List UInt8)} {l : List Nat}, smalls ps = some l → l.length = ps.length
 | [], l, h => by injection h with h; subst h; rfl
 | p :: r, l, h => by
  rw [smalls] at h
  split at h
  ·rename_i n x h1 h2
   injection h with h
   subst h
   simp [Ju h2]
  ·cases h
theorem Zx {t : List UInt8} (h : (dN t).length ≠ 4) : nG t = none := by
 unfold nG
 cases e : smalls (dN t) with
 | none => rfl
 | some l => exact Tv (by rw [Ju e]; exact h)
theorem Sj (s : ByteArray) (w : World) (hs : s.size ≤ 1073741824) (hM : Max w) : Calls Tryz.prog 229 #[.string s] w fun e w' => e = .returned (QV (nG s.data.toList)) ∧ Below w.heap.size w w' := by
 have hsl : s.data.toList.length = s.size := Array.length_toList
 obtain ⟨S, hS⟩ : ∃ S, S = nG s.data.toList := ⟨_, rfl⟩
 obtain ⟨R, hR⟩ : ∃ R, R = dN s.data.toList := ⟨_, rfl⟩
 have GV : Hid (∀ p ∈ R, p.length ≤ 1073741824) := by
  intro p hp
  rw [hR] at hp
  have := qG _ p hp
  omega
 have HR := hid hR
 have HS := hid hS
 have Wy := hid hM
 rw [← hS]
 clear hS hR hM hsl
 go_enter Tryz.func229, Tryz.ntmps229
 go_wp2_with fail
 refine (S9 s _ hs Wy.out).mono ?_
 rintro e w3 ⟨A, n, c, rfl, hn, hnc, hcm, hrd, hb⟩
 rw [← HR.out] at hn hrd
 have HN := hid hn
 have WB := hid hrd
 have HB := hid hb
 unfold maxLen at hcm
 clear hn hrd hb
 by_cases h4 : n = 4
 ·subst h4
  obtain ⟨g, off, rfl, hg, _⟩ := WB.out.spot (by omega)
  go_wp2
  generalize hw4 : w3.alloc _ = w4
  have jl : Below w3.heap.size w3 w4 := by rw [← hw4]; exact (Below.refl _ _).alloc (Nat.le_refl _) _
  have Qi : Hid (Box w4 w3.heap.size 221 [0, 0, 0, 0]) := by show Box _ _ _ _; rw [← hw4]; exact heap_alloc_new _ _
  have HW0 : Hid (smalls R = (smalls (R.drop 0)).map (([] : List Nat) ++ ·)) := by show _ = _; rw [List.drop_zero]; cases smalls R <;> simp
  clear hw4
  go_loopw [7, 8, 9, 10, 18] (fun _ _ _ _ vk wr => ∃ (k : Nat) (L : List Nat), k ≤ 4 ∧ vk = .int .i64 (k : Int) ∧ L.length = 4 ∧ Hid (Box wr w3.heap.size 221 L) ∧ Hid (Below w3.heap.size w3 wr) ∧ Hid (smalls R = (smalls (R.drop k)).map (L.take k ++ ·)) ∧ Hid (∀ x ∈ L, x ≤ 255)) (fun _ _ _ _ vk _ => 4 - (intOf vk).toNat)
  case atStart => exact ⟨0, [0, 0, 0, 0], by omega, rfl, rfl, Qi, jl, HW0, by intro x hx; simp at hx; omega⟩
  case round =>
   clear HW0 Qi jl
   obtain ⟨k, L, hk, rfl, hL, Qi, iM, HW, TU⟩ := hrel
   by_cases hlt : k < 4
   ·obtain ⟨p, hp⟩ : ∃ p, R[k]'(by rw [← HN.out]; exact hlt) = p := ⟨_, rfl⟩
    obtain ⟨Y, hY⟩ : ∃ Y, Y = strOf p := ⟨_, rfl⟩
    have qo : Hid (Y.data.toList = p) := by show _ = _; rw [hY]; rfl
    have hcl : wr.cell? ⟨g, off + k, none⟩ = some (.string Y) := by
     obtain ⟨b', o', e1, _, hc'⟩ := (WB.out.below iM.out).2 k (by rw [List.length_map, List.length_map, ← HN.out]; exact hlt)
     cases e1
     rw [hc', List.getElem_map, List.getElem_map, hp, hY]
    have HDR : Hid (R.drop k = p :: R.drop (k + 1)) := drop_at R k p (by rw [← HN.out]; exact hlt) hp
    clear hp hY
    cases hsm : small p with
    | none =>
     have HE : Hid (QV S = .tuple #[.int .u16 0, .int .u16 0, .bool false]) := by
      refine XH ?_
      rw [HS.out]
      refine sN ?_
      rw [← HR.out, HW.out, HDR.out, jm hsm]
      rfl
     have Ug := hid hsm
     clear hsm
     go_wp2_with fail
     refine (qE Y _).mono ?_
     rw [qo.out, Ug.out]
     rintro e w5 ⟨⟨x, rfl⟩, rfl⟩
     go_wp2
     go_ret3
     exact ⟨by rw [HE.out]; rfl, bel HB.out iM.out⟩
    | some v =>
     have hv := SS hsm
     have Ug := hid hsm
     have HW2 : Hid (smalls R = (smalls (R.drop (k + 1))).map ((L.set k v).take (k + 1) ++ ·)) := by
      show _ = _
      rw [HW.out, HDR.out, SX p _ v hsm, KF L k v (by omega), sJ]
     have hc0 := Qi.out.cell k (by omega)
     have hf0 := Qi.out.frozen k
     have HB2 := hid (Qi.out.set k v)
     have oP : Hid (Below w3.heap.size w3 (wr.setCell ⟨w3.heap.size, k, none⟩ (.int .u16 (v : Int)))) := iM.out.setCell (Nat.le_refl _) _
     have HLE2 : Hid (∀ x ∈ L.set k v, x ≤ 255) := by
      intro x hx
      rcases List.mem_or_eq_of_mem_set hx with h | h
      ·exact TU.out x h
      ·omega
     clear hsm hv
     go_wp2_with fail
     refine (qE Y _).mono ?_
     rw [qo.out, Ug.out]
     rintro e w5 ⟨rfl, rfl⟩
     go_wp2
     go_roundw
     case rel => exact ⟨k + 1, L.set k v, by omega, by go_num, by rw [List.length_set]; exact hL, HB2.out, oP.out, HW2.out, HLE2.out⟩
     case measure => simp [intOf]; omega
   ·obtain rfl : k = 4 := by omega
    have hall : smalls R = some L := by
     rw [HW.out, List.drop_eq_nil_of_le (by rw [← HN.out]; exact Nat.le_refl _), List.take_of_length_le (by omega)]
     simp [smalls]
    match L, hL, Qi, TU, hall with
    | [a, b, c, d], _, Qi, TU, hall =>
     have ha := TU.out a (by simp)
     have hb := TU.out b (by simp)
     have hc := TU.out c (by simp)
     have hd := TU.out d (by simp)
     have HE : Hid (QV S = .tuple #[.int .u16 ((a * 256 + b : Nat) : Int), .int .u16 ((c * 256 + d : Nat) : Int), .bool true]) := by
      refine qv_some ?_
      rw [HS.out]
      unfold nG
      rw [← HR.out, hall]
      rfl
     have c0 := Qi.out.cell 0 (by simp)
     have c1 := Qi.out.cell 1 (by simp)
     have c2 := Qi.out.cell 2 (by simp)
     have c3 := Qi.out.cell 3 (by simp)
     simp only [List.getElem_cons_zero, List.getElem_cons_succ] at c0 c1 c2 c3
     have o1 := Xw a b ha hb
     have o2 := Xw c d hc hd
     have hai : (a : Int) ≤ 255 := by omega
     have hci : (c : Int) ≤ 255 := by omega
     have HBZ := hid (bel HB.out iM.out)
     clear hall hL Qi TU iM HW ha hb hc hd
     go_wp2_with fail
     go_quiet (fail)
     go_wp2
     go_ret3
     exact ⟨by rw [HE.out]; rfl, Base.below_drewN HBZ.out _⟩
 ·have HE : Hid (QV S = .tuple #[.int .u16 0, .int .u16 0, .bool false]) := by
   refine XH ?_
   rw [HS.out]
   exact Zx (by rw [← HR.out, ← HN.out]; exact h4)
  have h4i : ¬ (n : Int) = 4 := by omega
  go_wp2
  go_ret3
  exact ⟨by rw [HE.out]; rfl, HB.out⟩
def PcV (w : World) (o : Option (List Nat)) (e : Ending) (w' : World) : Prop := match o with
 | some l => ∃ v, e = .returned (.tuple #[v, .bool true]) ∧ w'.ownsRow w.heap.size 190 1 v l.length (aW l)
 | none => ∃ v, e = .returned (.tuple #[v, .bool false])
theorem yP {w w' : World} {o : Option (List Nat)} (h : o = none) (v : Value) : PcV w o (.returned (.tuple #[v, .bool false])) w' := by rw [h]; exact ⟨v, rfl⟩
theorem DU {w w' : World} {o : Option (List Nat)} {l : List Nat} (h : o = some l) (v : Value) (ho : w'.ownsRow w.heap.size 190 1 v l.length (aW l)) : PcV w o (.returned (.tuple #[v, .bool true])) w' := by rw [h]; exact ⟨v, rfl, ho⟩
theorem acN : (Tryz.prog.info? 190).map (fun i => (i.zero, i.size, i.bytes)) = some (some (.int .u16 0), 1, 2) := by kernel_rfl
def NB (e : Bool) (r : List (List UInt8)) (p : List UInt8) : Prop := ¬ (e = true ∧ r = [] ∧ p.contains 46 = true)
theorem adk {e : Bool} {p : List UInt8} {r : List (List UInt8)} (h : NB e r p) {v : Nat} (hp : piece p = some v) : lD e (p :: r) = (lD e r).map (v :: ·) := by
 rw [lD, if_neg h, hp]
 cases lD e r <;> rfl
theorem Vr {e : Bool} {p : List UInt8} {r : List (List UInt8)} (h : NB e r p) (hp : piece p = none) : lD e (p :: r) = none := by
 rw [lD, if_neg h, hp]
theorem ado {p : List UInt8} {v : Nat} (h : piece p = some v) : v < 65536 := by
 unfold piece at h
 split at h
 ·rename_i h2
  injection h with h
  have h3 := BQ 16 (by omega) p h2.2.2
  have h4 : 16 ^ p.length ≤ 16 ^ 4 := Nat.pow_le_pow_right (by omega) h2.2.1
  omega
 ·cases h
theorem two_ex {l x : List Nat} (h : two l = some x) : ∃ a b, x = [a, b] := by
 unfold two at h
 split at h
 ·injection h with h; exact ⟨_, _, h.symm⟩
 ·cases h
theorem XG {p : List UInt8} {x : List Nat} (h : nG p = some x) : ∃ a b, x = [a, b] := by
 unfold nG at h
 cases e : smalls (dN p) with
 | none => rw [e] at h; cases h
 | some l => rw [e] at h; exact two_ex h
theorem I7 (s : ByteArray) (e : Bool) (w : World) (hs : s.size ≤ 1048576) (hM : Max w) : Calls Tryz.prog 219 #[.string s, .bool e] w fun en w' => PcV w (lD e (dO s.data.toList)) en w' ∧ Below w.heap.size w w' := by
 have hsl : s.data.toList.length = s.size := Array.length_toList
 obtain ⟨i0, hi, hz0, hz1, hz2⟩ := info_parts acN
 obtain ⟨R, hR⟩ : ∃ R, R = dO s.data.toList := ⟨_, rfl⟩
 have GV : Hid (∀ p ∈ R, p.length ≤ 1073741824) := by
  intro p hp
  rw [hR] at hp
  have := zK _ p hp
  omega
 have hRl : R.length ≤ 1048577 := by have := yL s.data.toList; rw [hR]; omega
 rw [← hR]
 obtain ⟨S, hS⟩ : ∃ S, S = lD e R := ⟨_, rfl⟩
 rw [← hS]
 have HR := hid hR
 have HS := hid hS
 have Wy := hid hM
 clear hR hM hsl hS
 go_enter Tryz.func219, Tryz.ntmps219
 go_wp2_with fail
 refine (Tc s _ (by omega) Wy.out).mono ?_
 rintro en w3 ⟨A, n, c, rfl, hn, hnc, hcm, hrd, hb⟩
 rw [← HR.out] at hn hrd
 rw [← hn] at hRl
 have HN := hid hn
 have WB := hid hrd
 have HB := hid hb
 unfold maxLen at hcm
 have hnp : 0 < n := by rw [hn, HR.out]; exact List.length_pos_iff.2 (jH _)
 clear hn hrd hb
 have HW0 : Hid (S = (lD e (R.drop 0)).map (([] : List Nat) ++ ·)) := by show _ = _; rw [List.drop_zero, HS.out]; cases lD e R <;> simp
 have jd : Hid (Max w3) := Wy.out.below HB.out
 obtain ⟨g, off, rfl, hg, _⟩ := WB.out.spot hnp
 go_wp2
 go_loopw [6, 8, 9, 13, 14, 19] (fun vl _ _ _ _ vk wr => ∃ (k : Nat) (xs : List Nat), k ≤ n ∧ xs.length ≤ k ∧ vk = .int .i64 (k : Int) ∧ Hid (wr.ownsRow w3.heap.size 190 1 vl xs.length (aW xs)) ∧ Hid (Below w3.heap.size w3 wr) ∧ Hid (S = (lD e (R.drop k)).map (xs ++ ·))) (fun _ _ _ _ _ vk _ => n - (intOf vk).toNat)
 case atStart => exact ⟨0, [], by omega, Nat.le_refl _, rfl, World.ownsRow_nil _ _ _ _, Below.refl _ _, HW0⟩
 case round =>
  clear HW0
  obtain ⟨k, xs, hk, hxk, rfl, HO, iM, HW⟩ := hrel
  by_cases hlt : k < n
  ·obtain ⟨p, hp⟩ : ∃ p, R[k]'(by rw [← HN.out]; exact hlt) = p := ⟨_, rfl⟩
   obtain ⟨Y, hY⟩ : ∃ Y, Y = strOf p := ⟨_, rfl⟩
   obtain ⟨m, hm⟩ : ∃ m, m = xs.length := ⟨_, rfl⟩
   have qo : Hid (Y.data.toList = p) := by show _ = _; rw [hY]; rfl
   have hcl : wr.cell? ⟨g, off + k, none⟩ = some (.string Y) := by
    obtain ⟨b', o', e1, _, hc'⟩ := (WB.out.below iM.out).2 k (by rw [List.length_map, List.length_map, ← HN.out]; exact hlt)
    cases e1
    rw [hc', List.getElem_map, List.getElem_map, hp, hY]
   have HYS : Hid (Y.size ≤ 1073741824) := by
    show _ ≤ _
    rw [hY, ah]
    exact GV.out p (by rw [← hp]; exact List.getElem_mem _)
   have HDR : Hid (R.drop k = p :: R.drop (k + 1)) := drop_at R k p (by rw [← HN.out]; exact hlt) hp
   have aaA : Hid (R.drop (k + 1) = [] ↔ k + 1 = n) := by
    show _ ↔ _
    rw [List.drop_eq_nil_iff, ← HN.out]
    omega
   rw [← hm] at HO hxk
   have HM := hid hm
   have hbw : wr.heap.size ≥ w3.heap.size := iM.out.size
   clear hp hY hm
   cases e with
   | false =>
    have HNB : Hid (NB false (R.drop (k + 1)) p) := fun h => by cases h.1
    cases hpc : piece p with
    | none =>
     have HE : Hid (S = none) := by show _ = _; rw [HW.out, HDR.out, Vr HNB.out hpc]; rfl
     have J3 := hid hpc
     clear hpc
     go_wp2_with fail
     refine (qy Y _).mono ?_
     rw [qo.out, J3.out]
     rintro e5 w5 ⟨rfl, hw5⟩
     subst hw5
     rw [PV]
     go_wp2
     go_ret2
     exact ⟨yP HE.out _, bel HB.out iM.out⟩
    | some v =>
     have J3 := hid hpc
     have HW2 : Hid (S = (lD false (R.drop (k + 1))).map ((xs ++ [v]) ++ ·)) := by show _ = _; rw [HW.out, HDR.out, adk HNB.out hpc, sJ]
     have hown := HO.out
     have hbel := iM.out
     clear hpc HO iM HW
     go_wp2_with fail
     refine (qy Y _).mono ?_
     rw [qo.out, J3.out]
     rintro e5 w5 ⟨rfl, hw5⟩
     subst hw5
     rw [PV]
     go_wp2_with (at_builtin; refine bC rfl _ _ 203 rfl w3.heap.size 190 i0 (.int .u16 0) 2 Tryz.underlying203 hi hz0 hz1 hz2 rfl _ m _ rfl hown hbel hbel.size [.int .u16 (v : Int)] 1 rfl rfl (by intro u hu; simp at hu; subst hu; rfl) (by unfold maxLen; omega) (by omega) ?_)
     intro v7 w7 uN rZ
     have PU : Hid (w7.ownsRow w3.heap.size 190 1 v7 (xs ++ [v]).length (aW (xs ++ [v]))) := by
      show World.ownsRow _ _ _ _ _ _ _
      rw [List.length_append, ← HM.out, wC]
      exact uN
     have rD := hid rZ
     clear hown hbel uN rZ
     go_wp2
     go_roundw
     case rel => exact ⟨k + 1, xs ++ [v], by omega, by rw [List.length_append, ← HM.out]; show m + 1 ≤ _; omega, by go_num, PU.out, rD.out, HW2.out⟩
     case measure => simp [intOf]; omega
   | true =>
    by_cases hkn : k + 1 = n
    ·have HKN := hid hkn
     have hq : ((k : Int) == (n : Int) - 1) = true := by simp; omega
     cases hct : p.contains 46 with
     | true =>
      have HCT := hid hct
      clear hct hkn
      go_wp2_with fail
      refine (CY Y _).mono ?_
      rw [qo.out, HCT.out]
      rintro e4 w4 ⟨rfl, hw4⟩
      subst hw4
      have HCOND : Hid (lD true (p :: R.drop (k + 1)) = nG p) := by show _ = _; rw [lD, if_pos ⟨rfl, aaA.out.2 HKN.out, HCT.out⟩]
      cases hqd : nG p with
      | none =>
       have HE : Hid (S = none) := by show _ = _; rw [HW.out, HDR.out, HCOND.out, hqd]; rfl
       have HQD : Hid (QV (nG p) = .tuple #[.int .u16 0, .int .u16 0, .bool false]) := by show _ = _; rw [hqd]; rfl
       have hown := HO.out
       clear hqd HO
       go_wp2_with fail
       refine (Sj Y _ HYS.out (jd.out.below iM.out)).mono ?_
       rw [qo.out, HQD.out]
       rintro e5 w5 ⟨rfl, hb5⟩
       have hown5 := aI hown hb5
       have qU : Below w3.heap.size w3 w5 := iM.out.trans (hb5.mono hbw)
       clear hown hb5
       go_wp2_with (at_builtin; refine bC rfl _ _ 203 rfl w3.heap.size 190 i0 (.int .u16 0) 2 Tryz.underlying203 hi hz0 hz1 hz2 rfl _ m _ rfl hown5 qU qU.size [.int .u16 0, .int .u16 0] 2 rfl rfl (by intro u hu; simp at hu; subst hu; rfl) (by unfold maxLen; omega) (by omega) ?_)
       intro v7 w7 uN rZ
       have rD := hid rZ
       clear hown5 qU uN rZ
       go_wp2
       go_ret2
       exact ⟨yP HE.out _, bel HB.out rD.out⟩
      | some x =>
       obtain ⟨a, b, rfl⟩ := XG hqd
       have HE : Hid (S = some (xs ++ [a, b])) := by show _ = _; rw [HW.out, HDR.out, HCOND.out, hqd]; rfl
       have HQD : Hid (QV (nG p) = .tuple #[.int .u16 (a : Int), .int .u16 (b : Int), .bool true]) := by show _ = _; rw [hqd]; rfl
       have hown := HO.out
       clear hqd HO
       go_wp2_with fail
       refine (Sj Y _ HYS.out (jd.out.below iM.out)).mono ?_
       rw [qo.out, HQD.out]
       rintro e5 w5 ⟨rfl, hb5⟩
       have hown5 := aI hown hb5
       have qU : Below w3.heap.size w3 w5 := iM.out.trans (hb5.mono hbw)
       clear hown hb5
       go_wp2_with (at_builtin; refine bC rfl _ _ 203 rfl w3.heap.size 190 i0 (.int .u16 0) 2 Tryz.underlying203 hi hz0 hz1 hz2 rfl _ m _ rfl hown5 qU qU.size [.int .u16 (a : Int), .int .u16 (b : Int)] 2 rfl rfl (by intro u hu; simp at hu; rcases hu with rfl | rfl <;> rfl) (by unfold maxLen; omega) (by omega) ?_)
       intro v7 w7 uN rZ
       have PU : Hid (w7.ownsRow w3.heap.size 190 1 v7 (xs ++ [a, b]).length (aW (xs ++ [a, b]))) := by
        show World.ownsRow _ _ _ _ _ _ _
        rw [List.length_append, ← HM.out, wC]
        exact uN
       have rD := hid rZ
       clear hown5 qU uN rZ
       go_wp2
       go_ret2
       exact ⟨DU HE.out _ (aF PU.out HB.out.size), bel HB.out rD.out⟩
     | false =>
      have HCT := hid hct
      have HNB : Hid (NB true (R.drop (k + 1)) p) := fun h => by rw [HCT.out] at h; cases h.2.2
      clear hct hkn
      go_wp2_with fail
      refine (CY Y _).mono ?_
      rw [qo.out, HCT.out]
      rintro e4 w4 ⟨rfl, hw4⟩
      subst hw4
      cases hpc : piece p with
      | none =>
       have HE : Hid (S = none) := by show _ = _; rw [HW.out, HDR.out, Vr HNB.out hpc]; rfl
       have J3 := hid hpc
       clear hpc
       go_wp2_with fail
       refine (qy Y _).mono ?_
       rw [qo.out, J3.out]
       rintro e5 w5 ⟨rfl, hw5⟩
       subst hw5
       rw [PV]
       go_wp2
       go_ret2
       exact ⟨yP HE.out _, bel HB.out iM.out⟩
      | some v =>
       have J3 := hid hpc
       have HW2 : Hid (S = (lD true (R.drop (k + 1))).map ((xs ++ [v]) ++ ·)) := by show _ = _; rw [HW.out, HDR.out, adk HNB.out hpc, sJ]
       have hown := HO.out
       have hbel := iM.out
       clear hpc HO iM HW
       go_wp2_with fail
       refine (qy Y _).mono ?_
       rw [qo.out, J3.out]
       rintro e5 w5 ⟨rfl, hw5⟩
       subst hw5
       rw [PV]
       go_wp2_with (at_builtin; refine bC rfl _ _ 203 rfl w3.heap.size 190 i0 (.int .u16 0) 2 Tryz.underlying203 hi hz0 hz1 hz2 rfl _ m _ rfl hown hbel hbel.size [.int .u16 (v : Int)] 1 rfl rfl (by intro u hu; simp at hu; subst hu; rfl) (by unfold maxLen; omega) (by omega) ?_)
       intro v7 w7 uN rZ
       have PU : Hid (w7.ownsRow w3.heap.size 190 1 v7 (xs ++ [v]).length (aW (xs ++ [v]))) := by
        show World.ownsRow _ _ _ _ _ _ _
        rw [List.length_append, ← HM.out, wC]
        exact uN
       have rD := hid rZ
       clear hown hbel uN rZ
       go_wp2
       go_roundw
       case rel => exact ⟨k + 1, xs ++ [v], by omega, by rw [List.length_append, ← HM.out]; show m + 1 ≤ _; omega, by go_num, PU.out, rD.out, HW2.out⟩
       case measure => simp [intOf]; omega
    ·have hq : ((k : Int) == (n : Int) - 1) = false := by simp; omega
     have HNB : Hid (NB true (R.drop (k + 1)) p) := fun h => hkn (aaA.out.1 h.2.1)
     clear hkn
     cases hpc : piece p with
     | none =>
      have HE : Hid (S = none) := by show _ = _; rw [HW.out, HDR.out, Vr HNB.out hpc]; rfl
      have J3 := hid hpc
      clear hpc
      go_wp2_with fail
      refine (qy Y _).mono ?_
      rw [qo.out, J3.out]
      rintro e5 w5 ⟨rfl, hw5⟩
      subst hw5
      rw [PV]
      go_wp2
      go_ret2
      exact ⟨yP HE.out _, bel HB.out iM.out⟩
     | some v =>
      have J3 := hid hpc
      have HW2 : Hid (S = (lD true (R.drop (k + 1))).map ((xs ++ [v]) ++ ·)) := by show _ = _; rw [HW.out, HDR.out, adk HNB.out hpc, sJ]
      have hown := HO.out
      have hbel := iM.out
      clear hpc HO iM HW
      go_wp2_with fail
      refine (qy Y _).mono ?_
      rw [qo.out, J3.out]
      rintro e5 w5 ⟨rfl, hw5⟩
      subst hw5
      rw [PV]
      go_wp2_with (at_builtin; refine bC rfl _ _ 203 rfl w3.heap.size 190 i0 (.int .u16 0) 2 Tryz.underlying203 hi hz0 hz1 hz2 rfl _ m _ rfl hown hbel hbel.size [.int .u16 (v : Int)] 1 rfl rfl (by intro u hu; simp at hu; subst hu; rfl) (by unfold maxLen; omega) (by omega) ?_)
      intro v7 w7 uN rZ
      have PU : Hid (w7.ownsRow w3.heap.size 190 1 v7 (xs ++ [v]).length (aW (xs ++ [v]))) := by
       show World.ownsRow _ _ _ _ _ _ _
       rw [List.length_append, ← HM.out, wC]
       exact uN
      have rD := hid rZ
      clear hown hbel uN rZ
      go_wp2
      go_roundw
      case rel => exact ⟨k + 1, xs ++ [v], by omega, by rw [List.length_append, ← HM.out]; show m + 1 ≤ _; omega, by go_num, PU.out, rD.out, HW2.out⟩
      case measure => simp [intOf]; omega
  ·obtain rfl : k = n := by omega
   have HE : Hid (S = some xs) := by
    show _ = _
    rw [HW.out, List.drop_eq_nil_of_le (by rw [← HN.out]; exact Nat.le_refl _)]
    simp [lD]
   go_wp2
   go_ret2
   exact ⟨DU HE.out _ (aF HO.out HB.out.size), bel HB.out iM.out⟩
theorem Js (s : ByteArray) (e : Bool) (w : World) (hs : s.size ≤ 1048576) (hM : Max w) : Calls Tryz.prog 220 #[.string s, .bool e] w fun en w' => PcV w (fJ e (dO s.data.toList)) en w' ∧ Below w.heap.size w w' := by
 by_cases h : s.data.toList = []
 ·have HE : Hid (fJ e (dO s.data.toList) = some []) := by show _ = _; rw [h]; rfl
  have h1 : s.toList = [] := by rw [Lib.toList_data]; exact h
  clear h
  go_enter Tryz.func220, Tryz.ntmps220
  go_wp2
  go_ret2
  exact ⟨DU HE.out _ (World.ownsRow_nil _ _ _ _), Below.refl _ _⟩
 ·have HE : Hid (fJ e (dO s.data.toList) = lD e (dO s.data.toList)) := l9 e (fun h2 => h (Jw.1 h2))
  have h1 : (s.toList == []) = false := by rw [Lib.toList_data]; simpa using h
  have h2 : s.toList.isEmpty = false := by rw [Lib.toList_data]; simpa using h
  have Wy := hid hM
  obtain ⟨S, hS⟩ : ∃ S, S = lD e (dO s.data.toList) := ⟨_, rfl⟩
  have HS := hid hS
  rw [HE.out, ← hS]
  clear hM hS
  go_enter Tryz.func220, Tryz.ntmps220
  go_wp2_with fail
  refine (I7 s e _ hs Wy.out).mono ?_
  rw [← HS.out]
  rintro en w2 ⟨hp, hb⟩
  cases S with
  | none =>
   obtain ⟨v, rfl⟩ := hp
   go_wp2
   go_ret2
   exact ⟨yP rfl _, hb⟩
  | some l =>
   obtain ⟨v, rfl, ho⟩ := hp
   go_wp2
   go_ret2
   exact ⟨DU rfl _ ho, hb⟩
end Go.Proofs.YtcfgioklgmlclaaGreatDoor.Kq
namespace Go.Proofs.YtcfgioklgmlclaaGreatDoor.fH
open Go.RowKit Base aP uf eX nO tC G9 Ko Kq Fh
def sV : List Nat := [0, 0, 0, 0, 0, 0, 0, 0]
def Yp (o : Option (List Nat)) : Value := match o with
 | some V => .tuple #[.agg (aW V).toArray, .bool true]
 | none => .tuple #[.agg (aW sV).toArray, .bool false]
theorem qC {o : Option (List Nat)} (h : o = none) : Yp o = .tuple #[.agg (aW sV).toArray, .bool false] := by rw [h]; rfl
theorem EP {o : Option (List Nat)} {V : List Nat} (h : o = some V) : Yp o = .tuple #[.agg (aW V).toArray, .bool true] := by rw [h]; rfl
theorem jg {w : World} {g : Nat} {t : TypeId} {L : List Nat} (h : Box w g t L) (f : Nat → Nat) (hL : L = [f 0, f 1, f 2, f 3, f 4, f 5, f 6, f 7]) :
  w.cell? ⟨g, 0, none⟩ = some (.int .u16 (f 0 : Int)) ∧ w.cell? ⟨g, 1, none⟩ = some (.int .u16 (f 1 : Int)) ∧ w.cell? ⟨g, 2, none⟩ = some (.int .u16 (f 2 : Int)) ∧ w.cell? ⟨g, 3, none⟩ = some (.int .u16 (f 3 : Int)) ∧ w.cell? ⟨g, 4, none⟩ = some (.int .u16 (f 4 : Int)) ∧ w.cell? ⟨g, 5, none⟩ = some (.int .u16 (f 5 : Int)) ∧ w.cell? ⟨g, 6, none⟩ = some (.int .u16 (f 6 : Int)) ∧ w.cell? ⟨g, 7, none⟩ = some (.int .u16 (f 7 : Int)) := by
 subst hL
 refine ⟨h.cell 0 (by simp), h.cell 1 (by simp), h.cell 2 (by simp), h.cell 3 (by simp), h.cell 4 (by simp), h.cell 5 (by simp), h.cell 6 (by simp), h.cell 7 (by simp)⟩
theorem qg {w : World} {g : Nat} {t : TypeId} {L : List Nat} (h : Box w g t L) : w.frozen? ⟨g, 0, none⟩ = false ∧ w.frozen? ⟨g, 1, none⟩ = false ∧ w.frozen? ⟨g, 2, none⟩ = false ∧ w.frozen? ⟨g, 3, none⟩ = false ∧ w.frozen? ⟨g, 4, none⟩ = false ∧ w.frozen? ⟨g, 5, none⟩ = false ∧ w.frozen? ⟨g, 6, none⟩ = false ∧ w.frozen? ⟨g, 7, none⟩ = false :=
 ⟨h.frozen 0, h.frozen 1, h.frozen 2, h.frozen 3, h.frozen 4, h.frozen 5, h.frozen 6, h.frozen 7⟩
def Jf (w : World) (g : Nat) (f : Nat → Nat) : World := (((((((w.setCell ⟨g, 0, none⟩ (.int .u16 (f 0 : Int))).setCell ⟨g, 1, none⟩ (.int .u16 (f 1 : Int))).setCell ⟨g, 2, none⟩ (.int .u16 (f 2 : Int))).setCell ⟨g, 3, none⟩ (.int .u16 (f 3 : Int))).setCell ⟨g, 4, none⟩ (.int .u16 (f 4 : Int))).setCell ⟨g, 5, none⟩ (.int .u16 (f 5 : Int))).setCell ⟨g, 6, none⟩ (.int .u16 (f 6 : Int))).setCell ⟨g, 7, none⟩ (.int .u16 (f 7 : Int))
theorem pX {w : World} {g : Nat} {t : TypeId} (h : Box w g t sV) (f : Nat → Nat) : Box (Jf w g f) g t [f 0, f 1, f 2, f 3, f 4, f 5, f 6, f 7] :=
 (((((((h.set 0 (f 0)).set 1 (f 1)).set 2 (f 2)).set 3 (f 3)).set 4 (f 4)).set 5 (f 5)).set 6 (f 6)).set 7 (f 7)
theorem jA {w0 w : World} {B g : Nat} (h : Below B w0 w) (hg : B ≤ g) (f : Nat → Nat) : Below B w0 (Jf w g f) := (((((((h.setCell hg _).setCell hg _).setCell hg _).setCell hg _).setCell hg _).setCell hg _).setCell hg _).setCell hg _
theorem load8 {w : World} {g : Nat} {L : List Nat} (h : Box w g 191 L) (hl : L.length = 8) : (loadVar 191 ⟨g, 0, none⟩).run Tryz.prog w = .ok (.agg (aW L).toArray) w :=
 run_loadVar_row w g _ _ (aW L).toArray (0, 0) _ h Tryz.underlying191 rfl (by
  rw [show (Tryz.prog.info? 191).map (·.size) = some 8 by kernel_rfl]
  simp [aW, hl])
theorem ql {w : World} {g : Nat} {L : List Nat} (h : Box w g 191 L) (hl : L.length = 8) (ok : Bool) (tmps : Array Value) (h2 : tmps.getD 2 undef = .pointer (some ⟨g, 0, none⟩)) (h3 : tmps.getD 3 undef = .bool ok) :
  (results Tryz.f204 tmps).run Tryz.prog w = .ok (.tuple #[.agg (aW L).toArray, .bool ok]) w := by
 have hp' : tmps[2]?.getD undef = .pointer (some ⟨g, 0, none⟩) := by simpa using h2
 have hq' : tmps[3]?.getD undef = .bool ok := by simpa using h3
 simp [results, Tryz.results204, hp', hq', asAddr, load8 h hl]
theorem aC {w w' : World} {base gb : Nat} {e : TypeId} {size n : Nat} {v : Value} {xs : List Value} (h : w.ownsRow base e size v n xs) (ho : ∀ k, k ≠ gb → w'.heap[k]? = w.heap[k]?) (hg : gb < base) : w'.ownsRow base e size v n xs := by
 refine ⟨h.1, ?_⟩
 rcases h.2 with hn | ⟨g, cap, cur, rfl, hb, hh, rest⟩
 ·exact .inl hn
 ·exact .inr ⟨g, cap, cur, rfl, hb, (ho g (by omega)).trans hh, rest⟩
theorem Ky (L : List Nat) (off : Nat) (cs : List Nat) : splice (aW L) off (aW cs) = aW (splice L off cs) := by simp [splice, aW]
theorem yw {P : Program} {w : World} {ops : Array Oper} {rest : List Oper} {o : Oper} {a : Act} {Q : Exit → Act → World → Prop} (hgd : o.guard = none) (d s : Operand) (dT sT : TypeId)
  (ho : o.op = .call { callee := .builtin .copy, args := #[d, s], argTypes := #[dT, sT] }) (elem : TypeId) (hu : P.underlying dT = some (.slice elem)) (hsz : (P.info? elem).map (·.size) = some 1)
  (dp : Option Addr) (dLen dCap : Nat) (A : Option Addr) (n c : Nat) (hd : a.eval d = .slice dp dLen dCap) (hs : a.eval s = .slice A n c)
  (g off : Nat) (L : List Nat) (t : TypeId) (hg : Box w g t L) (cs : List Nat) (hr : dS w A n (aW cs)) (hn : n ≤ dLen) (hpos : 0 < n → dp = some ⟨g, off, none⟩) (hfit : off + cs.length ≤ L.length)
  (h : ∀ w', Hid (Box w' g t (splice L off cs)) → (∀ k, k ≠ g → w'.heap[k]? = w.heap[k]?) → Below g w w' → wpList P ops Q rest (a.put o.dst (goInt (aW cs).length)) w') :
  wpList P ops Q (o :: rest) a w := by
 have hl : cs.length = n := by rw [← jM]; exact hr.1
 by_cases h0 : n = 0
 ·subst h0
  obtain rfl : cs = [] := List.eq_nil_of_length_eq_zero hl
  refine wpList_copy_nothing hgd d s dT sT ho elem hu hsz dp A dLen dCap 0 c hd hs (by simp) ?_
  exact h w (show Box _ _ _ _ by simpa [splice] using hg) (fun _ _ => rfl) (Below.refl _ _)
 ·obtain rfl := hpos (by omega)
  obtain ⟨b, bo, rfl, _, hc⟩ := hr.spot (by omega)
  refine wpList_copy_own hgd d s dT sT ho elem hu hsz g off dLen dCap ⟨b, bo, none⟩ n c hd hs (aW L).toArray t hg (aW cs) (by rw [jM, hl]; exact (Nat.min_eq_left hn).symm) (fun j v hj => ?_) (by simpa [aW] using hfit) (Vm cs) ?_
  ·obtain ⟨hj', e⟩ := List.getElem?_eq_some_iff.1 hj
   have ha : (⟨b, bo, none⟩ : Addr).add j = ⟨b, bo + j, none⟩ := by
    unfold Addr.add
    split <;> simp_all
   rw [ha, hc j hj', e]
  ·refine h _ ?_ (fun k hk => setRow_other w g k _ hk) (below_setRow (Below.refl _ _) (Nat.le_refl _) _)
   have := setRow_heap w g (aW L).toArray ((aW L).take off ++ (aW cs ++ (aW L).drop (off + (aW cs).length))).toArray t (0, 0) hg
   show Box _ _ _ _
   unfold Box
   rw [← Ky]
   exact this
theorem QS : ∀ {s : List UInt8} {p : List UInt8 × List UInt8}, xC s = some p → p.1.length ≤ s.length ∧ p.2.length ≤ s.length
 | [], _, h => by cases h
 | [_], _, h => by cases h
 | a :: b :: r, p, h => by
  rw [xC] at h
  split at h
  ·injection h with h; subst h; simp; omega
  ·cases e : xC (b :: r) with
   | none => rw [e] at h; cases h
   | some q =>
    rw [e] at h
    injection h with h
    subst h
    have := QS e
    simp at this ⊢
    omega
theorem adl (e : Bool) : ∀ {ps : List (List UInt8)} {l : List Nat}, lD e ps = some l → l.length ≤ ps.length + 1
 | [], l, h => by injection h with h; subst h; simp
 | p :: r, l, h => by
  rw [lD] at h
  split at h
  ·have := DW h; simp; omega
  ·split at h
   ·cases h
   ·split at h
    ·cases h
    ·rename_i x e2
     injection h with h
     subst h
     have := adl e e2
     simp
     omega
theorem SK {e : Bool} {ps : List (List UInt8)} {l : List Nat} (h : fJ e ps = some l) : l.length ≤ ps.length + 1 := by
 unfold fJ at h
 split at h
 ·injection h with h; subst h; simp
 ·exact adl e h
theorem FD {V : List Nat} (h : V.length = 8) : V = [V.getD 0 0, V.getD 1 0, V.getD 2 0, V.getD 3 0, V.getD 4 0, V.getD 5 0, V.getD 6 0, V.getD 7 0] := by
 match V, h with
 | [a, b, c, d, e, f, g, i], _ => rfl
theorem VY {l : List Nat} (h : l.length = 8) : splice sV 0 l = l := by
 unfold splice
 rw [h]
 simp [sV]
theorem FM (a b : List Nat) (h : a.length + b.length < 8) : splice (splice sV 0 a) (8 - b.length) b = fill a b := by
 have h1 : splice sV 0 a = a ++ List.replicate (8 - a.length) 0 := by
  unfold splice
  rw [show sV = List.replicate 8 0 from rfl, List.take_zero, List.nil_append, List.drop_replicate, Nat.zero_add]
 rw [h1]
 unfold splice fill
 rw [List.take_append, List.take_of_length_le (show a.length ≤ 8 - b.length by omega), List.take_replicate, List.drop_eq_nil_of_le (by simp; omega), List.append_nil]
 rw [show min (8 - b.length - a.length) (8 - a.length) = 8 - (a.length + b.length) by omega]
theorem parse_any (s : ByteArray) (w : World) (hs : s.size ≤ 1048576) (hM : Max w) : Calls Tryz.prog 204 #[.string s] w fun e w' => e = .returned (Yp (six s.data.toList)) ∧ Below w.heap.size w w' := by
 have Wy := hid hM
 clear hM
 go_enter Tryz.func204, Tryz.ntmps204
 go_wp2_with fail
 generalize hw1 : ((w.alloc _).alloc _).alloc _ = w1
 have HB1 : Hid (Below w.heap.size w w1) := by
  show Below _ _ _
  rw [← hw1]
  exact (((Below.refl _ _).alloc (Nat.le_refl _) _).alloc (by simp) _).alloc (by simp; omega) _
 have HA : Hid (Box w1 w.heap.size 191 sV) := by
  show Box _ _ _ _
  rw [← hw1]
  unfold Box
  rw [heap_alloc_old _ _ (by simp; omega), heap_alloc_old _ _ (by simp)]
  exact heap_alloc_new _ _
 have HN : Hid (Box w1 (w.heap.size + 1) 191 sV) := by
  show Box _ _ _ _
  rw [← hw1]
  unfold Box
  rw [heap_alloc_old _ _ (by simp)]
  have := heap_alloc_new (w.alloc (.cells (aW sV).toArray 191)) (.cells (aW sV).toArray 191)
  rw [show (w.alloc (.cells (aW sV).toArray 191)).heap.size = w.heap.size + 1 by simp] at this
  exact this
 have HV : Hid (Box w1 (w.heap.size + 1 + 1) 191 sV) := by
  show Box _ _ _ _
  rw [← hw1]
  unfold Box
  have := heap_alloc_new ((w.alloc (.cells (aW sV).toArray 191)).alloc (.cells (aW sV).toArray 191)) (.cells (aW sV).toArray 191)
  rw [show ((w.alloc (.cells (aW sV).toArray 191)).alloc (.cells (aW sV).toArray 191)).heap.size = w.heap.size + 1 + 1 by simp] at this
  exact this
 clear hw1
 refine (cut_any s _ (by omega) (Wy.out.below HB1.out)).mono ?_
 rintro e wc ⟨rfl, m, rfl⟩
 have HB2 : Hid (Below w.heap.size w (w1.drewN m)) := Base.below_drewN HB1.out m
 have HA2 : Hid (Box (w1.drewN m) w.heap.size 191 sV) := HA
 have xk : Hid (Box (w1.drewN m) (w.heap.size + 1) 191 sV) := HN
 have Ci : Hid (Box (w1.drewN m) (w.heap.size + 1 + 1) 191 sV) := HV
 generalize w1.drewN m = w2 at HB2 HA2 xk Ci
 clear HB1 HA HN HV
 cases hc : xC s.data.toList with
 | none =>
  have HC : Hid (six s.data.toList = eight (lD true (dO s.data.toList)) []) := by show _ = _; unfold six; rw [hc]
  have HCV : Hid (cutV s = .tuple #[.string s, .string (strOf []), .bool false]) := by show _ = _; unfold cutV; rw [hc]
  rw [HCV.out]
  clear hc
  go_wp2_with fail
  refine (I7 s true _ hs (Wy.out.below HB2.out)).mono ?_
  rintro e w3 ⟨hp, hb3⟩
  have HB3 := hid (bel HB2.out hb3)
  have HA3 := hid (HA2.out.below hb3)
  have HN3 := hid (xk.out.below hb3)
  have HV3 := hid (Ci.out.below hb3)
  have HG3 := hid Ci.out.lt
  obtain ⟨S, hS⟩ : ∃ S, S = lD true (dO s.data.toList) := ⟨_, rfl⟩
  rw [← hS] at hp HC
  clear hS hb3
  cases S with
  | none =>
   obtain ⟨v, rfl⟩ := hp
   have HE := hid (qC HC.out)
   obtain ⟨c0, c1, c2, c3, c4, c5, c6, c7⟩ := jg HN3.out (fun _ => 0) rfl
   obtain ⟨a0, a1, a2, a3, a4, a5, a6, a7⟩ := jg HA3.out (fun _ => 0) rfl
   obtain ⟨f0, f1, f2, f3, f4, f5, f6, f7⟩ := qg HA3.out
   go_wp2
   exact bodyPost_ret (w := Jf _ w.heap.size (fun _ => 0)) (ql (L := sV) (pX HA3.out (fun _ => 0)) rfl false _ rfl rfl) rfl ⟨by rw [HE.out], jA HB3.out (Nat.le_refl _) _⟩
  | some l =>
   obtain ⟨v, rfl, ho⟩ := hp
   obtain ⟨A, c, rfl, hlc, hcm, hr⟩ := bZ ho
   have HR := hid hr
   clear ho hr
   by_cases h8 : l.length = 8
   ·have TT := hid h8
    have h8i : ((l.length : Int) == 8) = true := by simp; omega
    have h8n : (l.length : Int) = 8 := by omega
    rw [h8] at HR
    obtain ⟨n8, hn8⟩ : ∃ n8, n8 = l.length := ⟨_, rfl⟩
    rw [← hn8] at h8i h8n h8 hlc ⊢
    subst h8
    clear hn8
    go_wp2_with (refine yw rfl _ _ 203 203 rfl 190 Tryz.underlying203 (by kernel_rfl) _ _ _ A _ _ (by rfl) (by rfl) (w.heap.size + 1 + 1) 0 sV 191 HV3.out l HR.out (Nat.le_refl _) (fun _ => rfl) (by rw [TT.out]; exact Nat.le_refl _) ?_)
    intro w4 hv4 ho4 hb4
    have HV4 : Hid (Box w4 (w.heap.size + 1 + 1) 191 l) := by have := hv4.out; rw [VY TT.out] at this; exact this
    have MZ : Hid (Box w4 w.heap.size 191 sV) := (ho4 _ (by omega)).trans HA3.out
    have HB4 : Hid (Below w.heap.size w w4) := HB3.out.trans (hb4.mono (by omega))
    clear hv4 ho4 hb4
    have HE := hid (EP (show six s.data.toList = some l by rw [HC.out]; unfold eight; simp only []; rw [if_pos (by rw [TT.out]; rfl)]; rfl))
    obtain ⟨c0, c1, c2, c3, c4, c5, c6, c7⟩ := jg HV4.out (fun i => (l).getD i 0) (FD TT.out)
    obtain ⟨a0, a1, a2, a3, a4, a5, a6, a7⟩ := jg MZ.out (fun _ => 0) rfl
    obtain ⟨f0, f1, f2, f3, f4, f5, f6, f7⟩ := qg MZ.out
    go_wp2
    exact bodyPost_ret (w := Jf _ w.heap.size (fun i => (l).getD i 0)) (ql (pX MZ.out (fun i => (l).getD i 0)) rfl true _ rfl rfl) rfl ⟨(congrArg (fun z => Ending.returned (.tuple #[.agg (aW z).toArray, .bool true])) (FD TT.out).symm).trans (by rw [HE.out]), jA HB4.out (Nat.le_refl _) _⟩
   ·have h8i : ((l.length : Int) == 8) = false := by simp; omega
    have TT := hid h8
    have HE := hid (qC (show six s.data.toList = none by rw [HC.out]; unfold eight; simp only []; rw [if_neg (by simpa using TT.out)]))
    obtain ⟨c0, c1, c2, c3, c4, c5, c6, c7⟩ := jg HN3.out (fun _ => 0) rfl
    obtain ⟨a0, a1, a2, a3, a4, a5, a6, a7⟩ := jg HA3.out (fun _ => 0) rfl
    obtain ⟨f0, f1, f2, f3, f4, f5, f6, f7⟩ := qg HA3.out
    go_wp2
    exact bodyPost_ret (w := Jf _ w.heap.size (fun _ => 0)) (ql (L := sV) (pX HA3.out (fun _ => 0)) rfl false _ rfl rfl) rfl ⟨by rw [HE.out], jA HB3.out (Nat.le_refl _) _⟩
 | some p =>
  have HC : Hid (six s.data.toList = both (fJ false (dO p.1)) (fJ true (dO p.2)) []) := by show _ = _; unfold six; rw [hc]
  have HCV : Hid (cutV s = .tuple #[.string (strOf p.1), .string (strOf p.2), .bool true]) := by show _ = _; unfold cutV; rw [hc]
  have hlen := QS hc
  have hsl : s.data.toList.length = s.size := Array.length_toList
  rw [HCV.out]
  clear hc
  obtain ⟨X, hXe⟩ : ∃ X, X = strOf p.1 := ⟨_, rfl⟩
  obtain ⟨Y, hYe⟩ : ∃ Y, Y = strOf p.2 := ⟨_, rfl⟩
  have hX : X.size ≤ 1048576 := by rw [hXe, ah]; omega
  have hY : Y.size ≤ 1048576 := by rw [hYe, ah]; omega
  obtain ⟨S1, hS1⟩ : ∃ S1, S1 = fJ false (dO p.1) := ⟨_, rfl⟩
  obtain ⟨S2, hS2⟩ : ∃ S2, S2 = fJ true (dO p.2) := ⟨_, rfl⟩
  have FT : Hid (S1 = fJ false (dO X.data.toList)) := by show _ = _; rw [hXe, hS1]; rfl
  have HS2 : Hid (S2 = fJ true (dO Y.data.toList)) := by show _ = _; rw [hYe, hS2]; rfl
  have HLS1 : Hid (∀ l, S1 = some l → l.length ≤ 1048578) := by
   intro l hl
   have h1 := SK (hS1.symm.trans hl)
   have h2 := yL p.1
   omega
  have HLS2 : Hid (∀ l, S2 = some l → l.length ≤ 1048578) := by
   intro l hl
   have h1 := SK (hS2.symm.trans hl)
   have h2 := yL p.2
   omega
  rw [← hXe, ← hYe]
  rw [← hS1, ← hS2] at HC
  clear hXe hYe hS1 hS2 hlen hsl HCV
  go_wp2_with fail
  refine (Js X false _ hX (Wy.out.below HB2.out)).mono ?_
  rw [← FT.out]
  rintro e w3 ⟨hp1, hb3⟩
  have HB3 := hid (bel HB2.out hb3)
  have HA3 := hid (HA2.out.below hb3)
  have HN3 := hid (xk.out.below hb3)
  have HV3 := hid (Ci.out.below hb3)
  have hG2 := Ci.out.lt
  cases S1 with
  | none =>
   obtain ⟨v1, rfl⟩ := hp1
   clear hb3 hG2
   go_wp2_with fail
   refine (Js Y true _ hY (Wy.out.below HB3.out)).mono ?_
   rw [← HS2.out]
   rintro e w4 ⟨hp2, hb4⟩
   have HB4 := hid (bel HB3.out hb4)
   have MZ := hid (HA3.out.below hb4)
   have HN4 := hid (HN3.out.below hb4)
   have HV4 := hid (HV3.out.below hb4)
   clear hb4
   cases S2 with
   | none =>
    obtain ⟨v2, rfl⟩ := hp2
    have HE := hid (qC (show six s.data.toList = none by rw [HC.out]; rfl))
    obtain ⟨c0, c1, c2, c3, c4, c5, c6, c7⟩ := jg HN4.out (fun _ => 0) rfl
    obtain ⟨a0, a1, a2, a3, a4, a5, a6, a7⟩ := jg MZ.out (fun _ => 0) rfl
    obtain ⟨f0, f1, f2, f3, f4, f5, f6, f7⟩ := qg MZ.out
    go_wp2
    exact bodyPost_ret (w := Jf _ w.heap.size (fun _ => 0)) (ql (L := sV) (pX MZ.out (fun _ => 0)) rfl false _ rfl rfl) rfl ⟨by rw [HE.out], jA HB4.out (Nat.le_refl _) _⟩
   | some b =>
    obtain ⟨v2, rfl, _⟩ := hp2
    have HE := hid (qC (show six s.data.toList = none by rw [HC.out]; rfl))
    obtain ⟨c0, c1, c2, c3, c4, c5, c6, c7⟩ := jg HN4.out (fun _ => 0) rfl
    obtain ⟨a0, a1, a2, a3, a4, a5, a6, a7⟩ := jg MZ.out (fun _ => 0) rfl
    obtain ⟨f0, f1, f2, f3, f4, f5, f6, f7⟩ := qg MZ.out
    go_wp2
    exact bodyPost_ret (w := Jf _ w.heap.size (fun _ => 0)) (ql (L := sV) (pX MZ.out (fun _ => 0)) rfl false _ rfl rfl) rfl ⟨by rw [HE.out], jA HB4.out (Nat.le_refl _) _⟩
  | some a =>
   obtain ⟨v1, rfl, ho1⟩ := hp1
   have hG3 := HV3.out.lt
   go_wp2_with fail
   refine (Js Y true _ hY (Wy.out.below HB3.out)).mono ?_
   rw [← HS2.out]
   rintro e w4 ⟨hp2, hb4⟩
   have HB4 := hid (bel HB3.out hb4)
   have MZ := hid (HA3.out.below hb4)
   have HN4 := hid (HN3.out.below hb4)
   have HV4 := hid (HV3.out.below hb4)
   cases S2 with
   | none =>
    obtain ⟨v2, rfl⟩ := hp2
    clear hb4 hb3 ho1 hG2 hG3
    have HE := hid (qC (show six s.data.toList = none by rw [HC.out]; rfl))
    obtain ⟨c0, c1, c2, c3, c4, c5, c6, c7⟩ := jg HN4.out (fun _ => 0) rfl
    obtain ⟨a0, a1, a2, a3, a4, a5, a6, a7⟩ := jg MZ.out (fun _ => 0) rfl
    obtain ⟨f0, f1, f2, f3, f4, f5, f6, f7⟩ := qg MZ.out
    go_wp2
    exact bodyPost_ret (w := Jf _ w.heap.size (fun _ => 0)) (ql (L := sV) (pX MZ.out (fun _ => 0)) rfl false _ rfl rfl) rfl ⟨by rw [HE.out], jA HB4.out (Nat.le_refl _) _⟩
   | some b =>
    obtain ⟨v2, rfl, ho2⟩ := hp2
    obtain ⟨A1, c1, rfl, hlc1, hcm1, hr1⟩ := bZ (aI ho1 hb4)
    obtain ⟨A2, c2, rfl, hlc2, hcm2, hr2⟩ := bZ ho2
    have jI := hid ho2
    have hla1 := HLS1.out a rfl
    have hlb1 := HLS2.out b rfl
    obtain ⟨la, hla⟩ : ∃ la, la = a.length := ⟨_, rfl⟩
    obtain ⟨lb, hlb⟩ : ∃ lb, lb = b.length := ⟨_, rfl⟩
    have Ye := hid hla
    have Wv := hid hlb
    rw [← hla] at hr1 hla1 hlc1 ⊢
    rw [← hlb] at hr2 hlb1 hlc2 ⊢
    have HR1 := hid hr1
    have HR2 := hid hr2
    have HGB : Hid (w.heap.size + 1 + 1 < w3.heap.size) := hG3
    clear hla hlb hr1 hr2 ho1 ho2 hb3 hb4 hG2 hG3
    by_cases hsum : la + lb < 8
    ·have iQ : Hid (a.length + b.length < 8) := by show _ < _; rw [← Ye.out, ← Wv.out]; exact hsum
     have TR : Hid (six s.data.toList = some (fill a b)) := by
      show _ = _
      rw [HC.out]
      unfold both
      simp only [List.length_nil, Nat.zero_add]
      rw [if_pos iQ.out]
      rfl
     have hsi : ¬ (8 : Int) ≤ (la : Int) + (lb : Int) := by omega
     have hla8 : la ≤ 8 := by omega
     have hlb8 : lb ≤ 8 := by omega
     clear hcm1 hcm2 hla1 hlb1
     by_cases hz : lb = 0
     ·obtain rfl : lb = 0 := by omega
      go_wp2_with (refine yw rfl _ _ 203 203 rfl 190 Tryz.underlying203 (by kernel_rfl) _ _ _ A1 _ _ (by rfl) (by rfl) (w.heap.size + 1 + 1) 0 sV 191 HV4.out a HR1.out (by omega) (fun _ => rfl) (by rw [← Ye.out]; show 0 + la ≤ 8; omega) ?_)
      intro w5 hv5 Ot hb5
      have HV5 : Hid (Box w5 (w.heap.size + 1 + 1) 191 (splice sV 0 a)) := hv5
      have HA5 : Hid (Box w5 w.heap.size 191 sV) := (Ot _ (by omega)).trans MZ.out
      have mO : Hid (Below w.heap.size w w5) := HB4.out.trans (hb5.mono (by omega))
      have HR5 : Hid (dS w5 A2 0 (aW b)) := by
       obtain ⟨A', c', e1, _, _, h⟩ := bZ (aC jI.out Ot HGB.out)
       injection e1 with e2 e3 e4
       subst e2
       subst e4
       rw [← Wv.out] at h
       exact h
      clear hv5 Ot hb5
      have HFIT : Hid (8 - b.length + b.length ≤ (splice sV 0 a).length) := by
       show _ ≤ _
       have := iQ.out
       rw [length_splice _ _ _ (by show 0 + a.length ≤ 8; omega)]
       show _ ≤ 8
       omega
      go_wp2_with (refine yw rfl _ _ 203 203 rfl 190 Tryz.underlying203 (by kernel_rfl) _ _ _ A2 _ _ (by rfl) (by rfl) (w.heap.size + 1 + 1) (8 - b.length) (splice sV 0 a) 191 HV5.out b HR5.out (by omega) (fun h0 => absurd h0 (by omega)) HFIT.out ?_)
      intro w6 hv6 Xj hb6
      have HV6 : Hid (Box w6 (w.heap.size + 1 + 1) 191 (fill a b)) := by have := hv6.out; rw [FM a b iQ.out] at this; exact this
      have HA6 : Hid (Box w6 w.heap.size 191 sV) := (Xj _ (by omega)).trans HA5.out
      have sW : Hid (Below w.heap.size w w6) := mO.out.trans (hb6.mono (by omega))
      have TT : Hid ((fill a b).length = 8) := by show _ = _; have := iQ.out; unfold fill; rw [List.length_append, List.length_append, List.length_replicate]; omega
      clear hv6 Xj hb6
      obtain ⟨V, hV⟩ : ∃ V, V = fill a b := ⟨_, rfl⟩
      rw [← hV] at HV6 TT TR
      clear hV
      have HE := hid (EP TR.out)
      obtain ⟨c0, c1, c2, c3, c4, c5, c6, c7⟩ := jg HV6.out (fun i => V.getD i 0) (FD TT.out)
      obtain ⟨a0, a1, a2, a3, a4, a5, a6, a7⟩ := jg HA6.out (fun _ => 0) rfl
      obtain ⟨f0, f1, f2, f3, f4, f5, f6, f7⟩ := qg HA6.out
      go_wp2
      exact bodyPost_ret (w := Jf _ w.heap.size (fun i => V.getD i 0)) (ql (pX HA6.out (fun i => V.getD i 0)) rfl true _ rfl rfl) rfl ⟨(congrArg (fun z => Ending.returned (.tuple #[.agg (aW z).toArray, .bool true])) (FD TT.out).symm).trans (by rw [HE.out]), jA sW.out (Nat.le_refl _) _⟩
     ·have hj0 : (0 : Int) < (lb : Int) := by omega
      have hj1 : (8 : Int) - (lb : Int) = ((8 - lb : Nat) : Int) := by omega
      obtain ⟨j, hj⟩ : ∃ j, j = 8 - lb := ⟨_, rfl⟩
      rw [← hj] at hj1
      have hj2 : j < 8 := by omega
      have hj3 : lb + j = 8 := by omega
      have hj4 : (j : Int) < 8 := by omega
      have hj5 : (j : Int) ≤ 8 := by omega
      have hj6 : (0 : Int) ≤ (j : Int) := by omega
      have hj7 : ¬ 8 - j = 0 := by omega
      have hj8 : j ≤ 8 := by omega
      have HJ := hid hj
      clear hj
      go_wp2_with (refine yw rfl _ _ 203 203 rfl 190 Tryz.underlying203 (by kernel_rfl) _ _ _ A1 _ _ (by rfl) (by rfl) (w.heap.size + 1 + 1) 0 sV 191 HV4.out a HR1.out (by omega) (fun _ => rfl) (by rw [← Ye.out]; show 0 + la ≤ 8; omega) ?_)
      intro w5 hv5 Ot hb5
      have HV5 : Hid (Box w5 (w.heap.size + 1 + 1) 191 (splice sV 0 a)) := hv5
      have HA5 : Hid (Box w5 w.heap.size 191 sV) := (Ot _ (by omega)).trans MZ.out
      have mO : Hid (Below w.heap.size w w5) := HB4.out.trans (hb5.mono (by omega))
      have HR5 : Hid (dS w5 A2 lb (aW b)) := by
       obtain ⟨A', c', e1, _, _, h⟩ := bZ (aC jI.out Ot HGB.out)
       injection e1 with e2 e3 e4
       subst e2
       subst e4
       rw [← Wv.out] at h
       exact h
      clear hv5 Ot hb5
      have HFIT : Hid (8 - b.length + b.length ≤ (splice sV 0 a).length) := by
       show _ ≤ _
       have := iQ.out
       rw [length_splice _ _ _ (by show 0 + a.length ≤ 8; omega)]
       show _ ≤ 8
       omega
      have HOFF : Hid (8 - b.length = j) := by show _ = _; rw [← Wv.out, ← HJ.out]
      go_wp2_with (refine yw rfl _ _ 203 203 rfl 190 Tryz.underlying203 (by kernel_rfl) _ _ _ A2 _ _ (by rfl) (by rfl) (w.heap.size + 1 + 1) (8 - b.length) (splice sV 0 a) 191 HV5.out b HR5.out (by omega) (fun h0 => by rw [HOFF.out]) HFIT.out ?_)
      intro w6 hv6 Xj hb6
      have HV6 : Hid (Box w6 (w.heap.size + 1 + 1) 191 (fill a b)) := by have := hv6.out; rw [FM a b iQ.out] at this; exact this
      have HA6 : Hid (Box w6 w.heap.size 191 sV) := (Xj _ (by omega)).trans HA5.out
      have sW : Hid (Below w.heap.size w w6) := mO.out.trans (hb6.mono (by omega))
      have TT : Hid ((fill a b).length = 8) := by show _ = _; have := iQ.out; unfold fill; rw [List.length_append, List.length_append, List.length_replicate]; omega
      clear hv6 Xj hb6
      obtain ⟨V, hV⟩ : ∃ V, V = fill a b := ⟨_, rfl⟩
      rw [← hV] at HV6 TT TR
      clear hV
      have HE := hid (EP TR.out)
      obtain ⟨c0, c1, c2, c3, c4, c5, c6, c7⟩ := jg HV6.out (fun i => V.getD i 0) (FD TT.out)
      obtain ⟨a0, a1, a2, a3, a4, a5, a6, a7⟩ := jg HA6.out (fun _ => 0) rfl
      obtain ⟨f0, f1, f2, f3, f4, f5, f6, f7⟩ := qg HA6.out
      go_wp2
      exact bodyPost_ret (w := Jf _ w.heap.size (fun i => V.getD i 0)) (ql (pX HA6.out (fun i => V.getD i 0)) rfl true _ rfl rfl) rfl ⟨(congrArg (fun z => Ending.returned (.tuple #[.agg (aW z).toArray, .bool true])) (FD TT.out).symm).trans (by rw [HE.out]), jA sW.out (Nat.le_refl _) _⟩
    ·have hsi : (8 : Int) ≤ (la : Int) + (lb : Int) := by omega
     have HNS : Hid (¬ ([] : List Nat).length + a.length + b.length < 8) := by show ¬ _; rw [← Ye.out, ← Wv.out]; simp; omega
     have HE := hid (qC (show six s.data.toList = none by rw [HC.out]; unfold both; simp only []; exact if_neg HNS.out))
     obtain ⟨c0, c1, c2, c3, c4, c5, c6, c7⟩ := jg HN4.out (fun _ => 0) rfl
     obtain ⟨a0, a1, a2, a3, a4, a5, a6, a7⟩ := jg MZ.out (fun _ => 0) rfl
     obtain ⟨f0, f1, f2, f3, f4, f5, f6, f7⟩ := qg MZ.out
     go_wp2
     exact bodyPost_ret (w := Jf _ w.heap.size (fun _ => 0)) (ql (L := sV) (pX MZ.out (fun _ => 0)) rfl false _ rfl rfl) rfl ⟨by rw [HE.out], jA HB4.out (Nat.le_refl _) _⟩
end Go.Proofs.YtcfgioklgmlclaaGreatDoor.fH
namespace Go.Proofs.YtcfgioklgmlclaaGreatDoor.kX
open Go.RowKit Base aP
def pR (w : World) : Prop := w.cell? ⟨5, 15, none⟩ = some (.int .u8 4)
theorem pR.below {w w' : World} (h : pR w) (hb : Below w.heap.size w w') : pR w' := (hb.cell (World.block_lt_of_cell? _ _ h)).trans h
def N8 : List Int := [0, 1, 56, 2, 57, 49, 28, 3, 61, 58, 42, 50, 38, 29, 17, 4, 62, 47, 59, 36, 45, 43, 51, 22, 53, 39, 33, 30, 24, 18, 12, 5, 63, 55, 48, 27, 60, 41, 37, 16, 46, 35, 44, 21, 52, 32, 23, 11, 54, 26, 40, 15, 34, 20, 31, 10, 25, 14, 19, 9, 13, 8, 7, 6]
theorem Hz : Tryz.prog.globalNamed "math/bits.deBruijn64tab" = some 5 := by kernel_rfl
theorem Vb {W : World} {l : List (String × DataW Unit)} (h : laidMet Tryz.prog l W) (hm : ("math/bits.deBruijn64tab", Lib.tabData .u8 N8) ∈ l) : pR W := by
 obtain ⟨g', t', cs, fuel, p, hg', ht', hvar, hd⟩ := Lib.laidMet.reads h hm
 obtain rfl := Option.some.inj (Hz.symm.trans hg')
 obtain rfl := Option.some.inj ((show (Tryz.prog.globals[5]?).map (·.type) = some 220 by kernel_rfl).symm.trans ht')
 have hc := Lib.cells_of_tab (k := .u8) (zs := N8) Tryz.underlying220 Tryz.underlying5 (by kernel_rfl) (by kernel_rfl) hd
 unfold World.var? at hvar
 rw [Hz] at hvar
 simp only [Option.bind_some] at hvar
 unfold pR World.cell?
 split at hvar
 ·rename_i x y z hh
  injection hvar with hvar
  rw [hh]
  simp only []
  have e : x.toList = N8.map fun z => Value.int .u8 z := by rw [hvar]; exact hc
  rw [← Array.getElem?_toList, e]
  rfl
 ·cases hvar
def kM (n : Nat) : UInt8 := if n < 10 then UInt8.ofNat (48 + n) else UInt8.ofNat (87 + n)
def hxs : Nat → Nat → List UInt8 → List UInt8
 | 0, u, acc => kM u :: acc
 | f + 1, u, acc => if 16 ≤ u then hxs f (u / 16) (kM (u % 16) :: acc) else kM u :: acc
def hx (n : Nat) : List UInt8 := hxs 3 n []
theorem KZ (k : Nat) (hk : k < 16) (h : k < (⟨#[48, 49, 50, 51, 52, 53, 54, 55, 56, 57, 97, 98, 99, 100, 101, 102, 103, 104, 105, 106, 107, 108, 109, 110, 111, 112, 113, 114, 115, 116, 117, 118, 119, 120, 121, 122]⟩ : ByteArray).size) : (⟨#[48, 49, 50, 51, 52, 53, 54, 55, 56, 57, 97, 98, 99, 100, 101, 102, 103, 104, 105, 106, 107, 108, 109, 110, 111, 112, 113, 114, 115, 116, 117, 118, 119, 120, 121, 122]⟩ : ByteArray)[k]'h = kM k := by
 have hcase : k = 0 ∨ k = 1 ∨ k = 2 ∨ k = 3 ∨ k = 4 ∨ k = 5 ∨ k = 6 ∨ k = 7 ∨ k = 8 ∨ k = 9 ∨ k = 10 ∨ k = 11 ∨ k = 12 ∨ k = 13 ∨ k = 14 ∨ k = 15 := by omega
 rcases hcase with rfl | rfl | rfl | rfl | rfl | rfl | rfl | rfl | rfl | rfl | rfl | rfl | rfl | rfl | rfl | rfl <;> rfl
theorem QG (u : Nat) (h : u < 65536) : bits .and .u64 (u : Int) 15 = (u : Int) % 16 := by
 have := bits_and_u64_nat u 15 (by omega) (by omega)
 rw [show ((15 : Nat) : Int) = 15 from rfl] at this
 rw [this, show (15 : Nat) = 2 ^ 4 - 1 from rfl, Nat.and_two_pow_sub_one_eq_mod]
 omega
def Eh (w : World) (g : Nat) (t : TypeId) (L : List UInt8) : Prop := w.heap[g]? = some (.cells (ak L).toArray t (0, 0))
theorem Eh.cell {w : World} {g : Nat} {t : TypeId} {L : List UInt8} (h : Eh w g t L) (j : Nat) (hj : j < L.length) : w.cell? ⟨g, j, none⟩ = some (.int .u8 (L[j].toNat : Int)) := by
 refine (cell_of_row w g j _ _ _ h).trans ?_
 simp [ak, hj]
theorem Eh.frozen {w : World} {g : Nat} {t : TypeId} {L : List UInt8} (h : Eh w g t L) (j : Nat) : w.frozen? ⟨g, j, none⟩ = false := by
 unfold World.frozen?
 rw [h]
 simp
theorem Eh.set {w : World} {g : Nat} {t : TypeId} {L : List UInt8} (h : Eh w g t L) (j : Nat) (c : UInt8) : Eh (w.setCell ⟨g, j, none⟩ (.int .u8 (c.toNat : Int))) g t (L.set j c) := by
 have := heap_setCell_same w g j _ _ (.int .u8 (c.toNat : Int)) h
 unfold Eh
 rw [this]
 simp [ak, List.map_set]
theorem Eh.OW {w : World} {g : Nat} {t : TypeId} {L : List UInt8} (h : Eh w g t L) (i : Nat) (hi : i ≤ L.length) : dS w (some ⟨g, i, none⟩) (L.length - i) (ak (L.drop i)) :=
 dS.oN (by rw [bF, List.length_drop]) (Array.getElem?_eq_some_iff.1 h).1 (fun j hj => by
  rw [bF, List.length_drop] at hj
  rw [h.cell (i + j) (by omega)]
  simp [ak])
theorem ad9 (w : World) (hL : pR w) : Calls Tryz.prog 228 #[.int .u64 16] w fun e w' => e = .returned (.int .i64 4) ∧ w = w' := by
 have h1 : IntKind.u64.wrap (-16) = 18446744073709551600 := by kernel_rfl
 have h2 : bits .and .u64 16 18446744073709551600 = 16 := by kernel_rfl
 unfold pR at hL
 go_enter Tryz.func228, Tryz.ntmps228
 go_wp2
 go_ret
 exact ⟨rfl, rfl⟩
theorem tz_any (w : World) (hL : pR w) : Calls Tryz.prog 213 #[.int .u64 16] w fun e w' => e = .returned (.int .i64 4) ∧ w = w' := by
 go_enter Tryz.func213, Tryz.ntmps213
 go_wp2_with fail
 refine (ad9 _ hL).mono ?_
 rintro e w2 ⟨rfl, hw2⟩
 subst hw2
 go_wp2
 go_ret
 exact ⟨rfl, rfl⟩
theorem adx (w : World) : Calls Tryz.prog 212 #[.int .i64 16] w fun e w' => e = .returned (.bool true) ∧ w = w' := by
 have h1 : bits .and .i64 16 15 = 0 := by kernel_rfl
 go_enter Tryz.func212, Tryz.ntmps212
 go_wp2
 go_ret
 exact ⟨rfl, rfl⟩
theorem abg (n : Nat) (hn : n < 65536) (w : World) (hL : pR w) : Calls Tryz.prog 197 #[.slice none 0 0, .int .u64 (n : Int), .int .i64 16, .bool false, .bool false] w fun e w' => e = .returned (.tuple #[.slice none 0 0, .string (strOf (hx n))]) ∧ Below w.heap.size w w' := by
 obtain ⟨H, hH⟩ : ∃ H, H = hx n := ⟨_, rfl⟩
 rw [← hH]
 have HH := hid hH
 have Qk := hid hL
 clear hH hL
 go_enter Tryz.func197, Tryz.ntmps197
 go_upto_region 4 with (fail)
 generalize hw1 : w.alloc _ = w1
 have HB1 : Hid (Below w.heap.size w w1) := by
  show Below _ _ _
  rw [← hw1]
  exact (Below.refl _ _).alloc (Nat.le_refl _) _
 have jr : Hid (Eh w1 w.heap.size 200 (List.replicate 65 0)) := by
  show Eh _ _ _ _
  rw [← hw1]
  exact heap_alloc_new _ _
 clear hw1
 go_wp2_with fail
 refine (adx _).mono ?_
 rintro e w2 ⟨rfl, hw2⟩
 subst hw2
 go_wp2_with fail
 refine (tz_any _ (Qk.out.below HB1.out)).mono ?_
 rintro e w2 ⟨rfl, hw2⟩
 subst hw2
 go_wp2_with fail
 go_loopw [1, 13] (fun vu vi wr => ∃ (f u i : Nat) (L : List UInt8), f ≤ 3 ∧ u < 16 ^ (f + 1) ∧ u < 65536 ∧ i = 62 + f ∧ vu = .int .u64 (u : Int) ∧ vi = .int .i64 (i : Int) ∧ Hid (L.length = 65) ∧ Hid (Eh wr w.heap.size 200 L) ∧ Hid (H = hxs f u (L.drop i)) ∧ Hid (Below w.heap.size w wr)) (fun vu _ _ => (intOf vu).toNat)
 case atStart => exact ⟨3, n, 65, List.replicate 65 0, by omega, hn, hn, rfl, rfl, rfl, rfl, jr.out, HH.out, HB1.out⟩
 case round =>
  obtain ⟨f, u, i, L, hf, hu, hu6, hi, rfl, rfl, TI, HX, HW, HB⟩ := hrel
  obtain ⟨j, hj⟩ : ∃ j, i = j + 1 := ⟨i - 1, by omega⟩
  have hij : (i : Int) - 1 = (j : Int) := by omega
  have hj64 : j ≤ 64 := by omega
  have hi65 : i ≤ 65 := by omega
  have hi1 : (1 : Int) ≤ (i : Int) := by omega
  have hj65 : (j : Int) < 65 := by omega
  obtain ⟨x0, hc0⟩ : ∃ x0, wr.cell? ⟨w.heap.size, j, none⟩ = some x0 := ⟨_, HX.out.cell j (by rw [TI.out]; omega)⟩
  have hf0 := HX.out.frozen j
  have HJ := hid hj
  by_cases h16 : 16 ≤ u
  ·have h16i : (16 : Int) ≤ (u : Int) := by omega
   obtain ⟨f', rfl⟩ : ∃ f', f = f' + 1 := by
    cases f with
    | zero => simp at hu; omega
    | succ f' => exact ⟨f', rfl⟩
   have HIF := hid hi
   have ha := QG u hu6
   have q0 : (0 : Int) ≤ (u : Int) % 16 := by omega
   have q1 : (u : Int) % 16 < 16 := by omega
   have q2 : (u : Int) % 16 < 36 := by omega
   have q3 : ∀ h, (⟨#[48, 49, 50, 51, 52, 53, 54, 55, 56, 57, 97, 98, 99, 100, 101, 102, 103, 104, 105, 106, 107, 108, 109, 110, 111, 112, 113, 114, 115, 116, 117, 118, 119, 120, 121, 122]⟩ : ByteArray)[((u : Int) % 16).toNat]'h = kM (u % 16) := fun h => by
    have e : ((u : Int) % 16).toNat = u % 16 := by omega
    simp only [e]
    exact KZ _ (by omega) _
   obtain ⟨v, hv⟩ : ∃ v, v = u / 16 := ⟨_, rfl⟩
   have hvi : (u : Int) / 16 = (v : Int) := by omega
   have iG := hid (HX.out.set j (kM (u % 16)))
   have HB2 : Hid (Below w.heap.size w (wr.setCell ⟨w.heap.size, j, none⟩ (.int .u8 ((kM (u % 16)).toNat : Int)))) := HB.out.setCell (Nat.le_refl _) _
   have HW2 : Hid (H = hxs f' v ((L.set j (kM (u % 16))).drop j)) := by
    show _ = _
    have hd : (L.set j (kM (u % 16))).drop j = kM (u % 16) :: L.drop i := by
     rw [List.drop_eq_getElem_cons (by rw [List.length_set, TI.out]; omega), List.getElem_set_self, List.drop_set_of_lt (by omega), ← HJ.out]
    rw [hd, HW.out, hv]
    conv => lhs; unfold hxs
    rw [if_pos h16]
   have HV : Hid (v < 16 ^ (f' + 1) ∧ v < 65536 ∧ v < u) := ⟨by rw [hv]; rw [Nat.pow_succ] at hu; omega, by omega, by omega⟩
   have Ci := hid hv
   clear hu hv hj hi h16
   go_wp2
   go_roundw
   case rel => exact ⟨f', v, j, _, by omega, HV.out.1, HV.out.2.1, by have := HIF.out; have := HJ.out; omega, by go_num, by go_num, by rw [List.length_set]; exact TI.out, iG.out, HW2.out, HB2.out⟩
   case measure => (have := HV.out.2.2; simp [intOf]; omega)
  ·have h16i : ¬ (16 : Int) ≤ (u : Int) := by omega
   have q0 : (u : Int) < 36 := by omega
   have q3 : ∀ h, (⟨#[48, 49, 50, 51, 52, 53, 54, 55, 56, 57, 97, 98, 99, 100, 101, 102, 103, 104, 105, 106, 107, 108, 109, 110, 111, 112, 113, 114, 115, 116, 117, 118, 119, 120, 121, 122]⟩ : ByteArray)[u]'h = kM u := fun h => KZ _ (by omega) _
   have iG := hid (HX.out.set j (kM u))
   have HB2 : Hid (Below w.heap.size w (wr.setCell ⟨w.heap.size, j, none⟩ (.int .u8 ((kM u).toNat : Int)))) := HB.out.setCell (Nat.le_refl _) _
   have hd : (L.set j (kM u)).drop j = H := by
    rw [List.drop_eq_getElem_cons (by rw [List.length_set, TI.out]; omega), List.getElem_set_self, List.drop_set_of_lt (by omega), ← HJ.out, HW.out]
    cases f with
    | zero => rfl
    | succ f' => unfold hxs; rw [if_neg h16]
   have hrd := iG.out.OW j (by rw [List.length_set, TI.out]; omega)
   rw [List.length_set, TI.out, hd] at hrd
   have hs := aQ (P := Tryz.prog) 30 9 5 Tryz.underlying30 Tryz.underlying5 Tryz.underlying9 H (65 - j) hrd
   have hz : ¬ 65 - j = 0 := by omega
   have hj65b : (j : Int) ≤ 65 := by omega
   clear hd hrd hu hi hj h16
   go_wp2
   go_ret2
   exact ⟨rfl, HB2.out⟩
theorem Q9 (n : Nat) (hn : n < 65536) (w : World) (hL : pR w) : Calls Tryz.prog 235 #[.int .u64 (n : Int), .int .i64 16] w fun e w' => e = .returned (.string (strOf (hx n))) ∧ Below w.heap.size w w' := by
 go_enter Tryz.func235, Tryz.ntmps235
 go_wp2_with fail
 refine (abg n hn _ hL).mono ?_
 rintro e w2 ⟨rfl, hb⟩
 go_wp2
 go_ret
 exact ⟨rfl, hb⟩
theorem Ii (n : Nat) (hn : n < 65536) (w : World) (hL : pR w) : Calls Tryz.prog 231 #[.int .u64 (n : Int), .int .i64 16] w fun e w' => e = .returned (.string (strOf (hx n))) ∧ Below w.heap.size w w' := by
 go_enter Tryz.func231, Tryz.ntmps231
 go_wp2_with fail
 refine (Q9 n hn _ hL).mono ?_
 rintro e w2 ⟨rfl, hb⟩
 go_wp2
 go_ret
 exact ⟨rfl, hb⟩
end Go.Proofs.YtcfgioklgmlclaaGreatDoor.kX
namespace Go.Proofs.YtcfgioklgmlclaaGreatDoor.QA
open Go.RowKit Base aP nO tC G9 Ko Kq fH kX
theorem Xl : ∀ (f u : Nat) (acc : List UInt8), (hxs f u acc).length ≤ f + 1 + acc.length
 | 0, u, acc => by simp [hxs]; omega
 | f + 1, u, acc => by
  unfold hxs
  split
  ·have := Xl f (u / 16) (kM (u % 16) :: acc)
   simp at this ⊢
   omega
  ·simp; omega
theorem U5 (n : Nat) : (hx n).length ≤ 4 := Xl 3 n []
def iV : List (List UInt8) → List UInt8
 | [] => []
 | [x] => x
 | x :: y :: r => x ++ 58 :: iV (y :: r)
theorem IG : ∀ (xs : List (List UInt8)) (y : List UInt8), xs ≠ [] → iV (xs ++ [y]) = iV xs ++ 58 :: y
 | [], _, h => absurd rfl h
 | [x], y, _ => rfl
 | x :: z :: r, y, _ => by
  show x ++ 58 :: iV ((z :: r) ++ [y]) = x ++ 58 :: iV (z :: r) ++ 58 :: y
  rw [IG (z :: r) y (by simp)]
  simp
def jx (L : List Nat) : List UInt8 := iV (L.map hx)
theorem jx_nil : jx [] = [] := rfl
theorem acR (n : Nat) : jx [n] = hx n := rfl
theorem Xp (L : List Nat) (n : Nat) (h : L ≠ []) : jx (L ++ [n]) = jx L ++ 58 :: hx n := by
 unfold jx
 rw [List.map_append]
 exact IG _ _ (by simpa using h)
theorem EG (L : List Nat) : (jx L).length ≤ 5 * L.length := by
 have H : ∀ M : List Nat, (jx M.reverse).length ≤ 5 * M.length := by
  intro M
  induction M with
  | nil => simp [jx, iV]
  | cons n M ih =>
   rw [List.reverse_cons]
   have := U5 n
   by_cases h : M.reverse = []
   ·rw [h, List.nil_append, acR, List.length_cons]
    omega
   ·rw [Xp _ _ h, List.length_append, List.length_cons, List.length_cons]
    omega
 have := H L.reverse
 rwa [List.reverse_reverse, List.length_reverse] at this
theorem V6 (L : List Nat) (k : Nat) (h : k < L.length) : L.take (k + 1) = L.take k ++ [L[k]] := List.take_succ_eq_append_getElem h
theorem II (A : Option Addr) (n c : Nat) (L : List Nat) (w : World) (hr : dS w A n (aW L)) (h8 : n ≤ 8) (h6 : ∀ x ∈ L, x < 65536) (hL : pR w) :
  Calls Tryz.prog 222 #[.slice A n c] w fun e w' => e = .returned (.string (strOf (jx L))) ∧ Below w.heap.size w w' := by
 have hl : L.length = n := by rw [← jM]; exact hr.1
 have HM := hid hl
 have HR := hid hr
 have Qk := hid hL
 have H6 := hid h6
 clear hr hL h6 hl
 go_enter Tryz.func222, Tryz.ntmps222
 go_wp2
 go_loopw [3, 4, 5, 8] (fun vo _ _ vk wr => ∃ (k : Nat) (X : ByteArray), k ≤ n ∧ vk = .int .i64 (k : Int) ∧ vo = .string X ∧ Hid (X = strOf (jx (L.take k))) ∧ Hid (Below w.heap.size w wr)) (fun _ _ _ vk _ => n - (intOf vk).toNat)
 case atStart => exact ⟨0, ⟨#[]⟩, by omega, rfl, rfl, rfl, Below.refl _ _⟩
 case round =>
  obtain ⟨k, X, hk, rfl, rfl, HX, HB⟩ := hrel
  by_cases hlt : k < n
  ·obtain ⟨b, off, rfl, _, _⟩ := HR.out.spot (by omega)
   obtain ⟨x, hx⟩ : ∃ x, L[k]'(by rw [HM.out]; exact hlt) = x := ⟨_, rfl⟩
   have hcl : wr.cell? ⟨b, off + k, none⟩ = some (.int .u16 (x : Int)) := by
    obtain ⟨b', o', e1, _, hc'⟩ := (HR.out.below HB.out).2 k (by rw [jM, HM.out]; exact hlt)
    cases e1
    rw [hc']
    simp [aW, hx]
   have hx6 : x < 65536 := by rw [← hx]; exact H6.out _ (List.getElem_mem _)
   have HT : Hid (L.take (k + 1) = L.take k ++ [x]) := by show _ = _; rw [V6 L k (by rw [HM.out]; exact hlt), hx]
   have hwx : IntKind.u64.wrap (x : Int) = (x : Int) := by simp [IntKind.wrap, IntKind.signed, IntKind.bits]; omega
   have Nh := hid hx6
   clear hx6
   have HXL : Hid (X.size ≤ 40) := by
    show _ ≤ _
    rw [HX.out, ah]
    have := EG (L.take k)
    rw [List.length_take] at this
    omega
   have hhl := U5 x
   clear hx
   obtain ⟨Z, hZ⟩ : ∃ Z, Z = strOf (jx (L.take (k + 1))) := ⟨_, rfl⟩
   have HZ := hid hZ
   by_cases hk0 : k = 0
   ·have HK0 := hid hk0
    have hk1 : ¬ (0 : Int) < (k : Int) := by omega
    clear hk0
    have a2 : ∀ w : World, (Op.stringOp .add X (strOf (hx x))).run Tryz.prog w = .ok (.string Z) w := fun w => by
     rw [hZ, HT.out, HX.out, HK0.out, List.take_zero, List.nil_append, acR, jx_nil]
     exact gK [] (hx x) w (by simp; omega)
    clear hZ hhl
    go_wp2_with fail
    refine (Ii x Nh.out _ (Qk.out.below HB.out)).mono ?_
    rintro e w2 ⟨rfl, hb2⟩
    have HB2 : Hid (Below w.heap.size w w2) := bel HB.out hb2
    clear hb2
    go_wp2
    go_roundw
    case rel => exact ⟨k + 1, Z, by omega, by go_num, rfl, HZ.out, HB2.out⟩
    case measure => simp [intOf]; omega
   ·have hk1 : (0 : Int) < (k : Int) := by omega
    obtain ⟨Y, hY⟩ : ∃ Y, Y = strOf (jx (L.take k) ++ [58]) := ⟨_, rfl⟩
    have a1 : ∀ w : World, (Op.stringOp .add X ⟨#[58]⟩).run Tryz.prog w = .ok (.string Y) w := fun w => by
     rw [hY, HX.out]
     refine gK _ [58] w ?_
     have := HXL.out
     rw [HX.out, ah] at this
     simp
     omega
    have a2 : ∀ w : World, (Op.stringOp .add Y (strOf (hx x))).run Tryz.prog w = .ok (.string Z) w := fun w => by
     have hne : L.take k ≠ [] := by
      intro h
      have := congrArg List.length h
      rw [List.length_take, HM.out] at this
      simp at this
      omega
     rw [hZ, HT.out, Xp _ _ hne, hY, show jx (L.take k) ++ 58 :: hx x = (jx (L.take k) ++ [58]) ++ hx x by simp]
     refine gK _ _ w ?_
     have := HXL.out
     rw [HX.out, ah] at this
     rw [List.length_append]
     simp
     omega
    clear hZ hY hhl hk0
    go_wp2_with fail
    refine (Ii x Nh.out _ (Qk.out.below HB.out)).mono ?_
    rintro e w2 ⟨rfl, hb2⟩
    have HB2 : Hid (Below w.heap.size w w2) := bel HB.out hb2
    clear hb2
    go_wp2
    go_roundw
    case rel => exact ⟨k + 1, Z, by omega, by go_num, rfl, HZ.out, HB2.out⟩
    case measure => simp [intOf]; omega
  ·obtain rfl : k = n := by omega
   have HE : Hid (X = strOf (jx L)) := by show _ = _; rw [HX.out, List.take_of_length_le (by rw [HM.out]; exact Nat.le_refl _)]
   go_wp2
   go_ret
   exact ⟨by rw [HE.out]; rfl, HB.out⟩
def run (Z : List Bool) (k : Nat) : Nat := ((Z.drop k).takeWhile id).length
theorem adI {Z : List Bool} {k : Nat} (h : k < Z.length) (hz : Z[k] = true) : run Z k = 1 + run Z (k + 1) := by
 unfold run
 rw [List.drop_eq_getElem_cons h, List.takeWhile_cons, hz]
 simp
 omega
theorem run_nz {Z : List Bool} {k : Nat} (h : k < Z.length) (hz : Z[k] = false) : run Z k = 0 := by
 unfold run
 rw [List.drop_eq_getElem_cons h, List.takeWhile_cons, hz]
 rfl
theorem run_end {Z : List Bool} {k : Nat} (h : Z.length ≤ k) : run Z k = 0 := by
 unfold run
 rw [List.drop_eq_nil_of_le h]
 rfl
def goC (Z : List Bool) : Nat → Nat → Nat → Nat → Nat × Nat
 | 0, _, f, t => (f, t)
 | fu + 1, k, f, t => if k < Z.length then (if t - f < run Z k then goC Z fu (k + run Z k + 1) k (k + run Z k) else goC Z fu (k + run Z k + 1) f t) else (f, t)
def wY (Z : List Bool) : Nat × Nat := goC Z 9 0 0 0
def goR (Z : List Bool) : Nat → Nat → Option Nat → Nat → Option Nat × Nat
 | 0, _, f, l => (f, l)
 | fu + 1, k, f, l => if k < Z.length then (if l < run Z k then goR Z fu (k + 1) (some k) (run Z k) else goR Z fu (k + 1) f l) else (f, l)
def lngR (Z : List Bool) : Option Nat × Nat := goR Z 8 0 none 1
theorem LM : ∀ b0 b1 b2 b3 b4 b5 b6 b7 : Bool, (wY [b0, b1, b2, b3, b4, b5, b6, b7]).1 ≤ (wY [b0, b1, b2, b3, b4, b5, b6, b7]).2 ∧ (wY [b0, b1, b2, b3, b4, b5, b6, b7]).2 ≤ 8 ∧ (([b0, b1, b2, b3, b4, b5, b6, b7].take (wY [b0, b1, b2, b3, b4, b5, b6, b7]).2).drop (wY [b0, b1, b2, b3, b4, b5, b6, b7]).1).all id = true ∧
  lngR [b0, b1, b2, b3, b4, b5, b6, b7] = if (wY [b0, b1, b2, b3, b4, b5, b6, b7]).2 - (wY [b0, b1, b2, b3, b4, b5, b6, b7]).1 < 2 then (none, 1) else (some (wY [b0, b1, b2, b3, b4, b5, b6, b7]).1, (wY [b0, b1, b2, b3, b4, b5, b6, b7]).2 - (wY [b0, b1, b2, b3, b4, b5, b6, b7]).1) := by decide +kernel
def V8 (f : Nat → Nat) : List Nat := [f 0, f 1, f 2, f 3, f 4, f 5, f 6, f 7]
def zs (f : Nat → Nat) : List Bool := (V8 f).map (· == 0)
theorem MR (f : Nat → Nat) : (zs f).length = 8 := rfl
theorem eight (i : Nat) (h : i < 8) : i = 0 ∨ i = 1 ∨ i = 2 ∨ i = 3 ∨ i = 4 ∨ i = 5 ∨ i = 6 ∨ i = 7 := by omega
theorem aaZ (f : Nat → Nat) (k : Nat) (h : k < 8) (h2 : k < (V8 f).length) : (V8 f)[k] = f k := by
 rcases eight k h with rfl | rfl | rfl | rfl | rfl | rfl | rfl | rfl <;> rfl
theorem aen (f : Nat → Nat) (k : Nat) (h : k < 8) (h2 : k < (zs f).length) : (zs f)[k] = (f k == 0) := by
 rcases eight k h with rfl | rfl | rfl | rfl | rfl | rfl | rfl | rfl <;> rfl
def A8 (f : Nat → Nat) : Value := .agg #[.int .u16 (f 0 : Int), .int .u16 (f 1 : Int), .int .u16 (f 2 : Int), .int .u16 (f 3 : Int), .int .u16 (f 4 : Int), .int .u16 (f 5 : Int), .int .u16 (f 6 : Int), .int .u16 (f 7 : Int)]
theorem goC_end {Z : List Bool} {fu k f t : Nat} (h : Z.length ≤ k) : goC Z fu k f t = (f, t) := by
 cases fu with
 | zero => rfl
 | succ fu => unfold goC; rw [if_neg (by omega)]
end Go.Proofs.YtcfgioklgmlclaaGreatDoor.QA
namespace Go.Proofs.YtcfgioklgmlclaaGreatDoor.mD
open Go.RowKit Base aP nO tC G9 Ko Kq fH kX QA fZ
theorem abj (x : Nat) : ((x : Int) == 0) = (x == 0) := by
 cases h : (x == 0) with
 | true => have : x = 0 := by simpa using h
           subst this; rfl
 | false => have : x ≠ 0 := by simpa using h
            rw [beq_eq_false_iff_ne]; omega
theorem NT {w : World} (f : Nat → Nat) : Box (w.alloc (.cells #[.int .u16 (f 0 : Int), .int .u16 (f 1 : Int), .int .u16 (f 2 : Int), .int .u16 (f 3 : Int), .int .u16 (f 4 : Int), .int .u16 (f 5 : Int), .int .u16 (f 6 : Int), .int .u16 (f 7 : Int)] 191)) w.heap.size 191 (V8 f) := heap_alloc_new _ _
theorem RD (f : Nat → Nat) (w : World) : Calls Tryz.prog 221 #[A8 f] w fun e w' => e = .returned (.tuple #[.int .i64 ((wY (zs f)).1 : Int), .int .i64 ((wY (zs f)).2 : Int)]) ∧ Below w.heap.size w w' := by
 obtain ⟨Z, hZ⟩ : ∃ Z, Z = zs f := ⟨_, rfl⟩
 have HZ := hid hZ
 rw [← hZ]
 have J5 : Hid (Z.length = 8) := by show _ = _; rw [hZ]; rfl
 clear hZ
 unfold A8
 go_enter Tryz.func221, Tryz.ntmps221
 go_upto_region 1 with (fail)
 generalize hw1 : w.alloc _ = w1
 have HB1 : Hid (Below w.heap.size w w1) := by
  show Below _ _ _
  rw [← hw1]
  exact (Below.refl _ _).alloc (Nat.le_refl _) _
 have jr : Hid (Box w1 w.heap.size 191 (V8 f)) := by
  show Box _ _ _ _
  rw [← hw1]
  exact NT f
 clear hw1
 go_wp2
 go_loopw [2, 3, 4, 5] (fun vf vt vk _ wr => ∃ (fu k a b : Nat), vk = .int .i64 (k : Int) ∧ vf = .int .i64 (a : Int) ∧ vt = .int .i64 (b : Int) ∧ k ≤ 9 ∧ a ≤ b ∧ b ≤ 8 ∧ 9 ≤ fu + k ∧ wr = w1 ∧ Hid (wY Z = goC Z fu k a b)) (fun _ _ vk _ _ => 9 - (intOf vk).toNat)
 case atStart => exact ⟨9, 0, 0, 0, rfl, rfl, rfl, by omega, by omega, by omega, by omega, rfl, rfl⟩
 case round =>
  obtain ⟨fu, k0, a, b, rfl, rfl, rfl, hk9, hab, hb8, hfu, rfl, HW⟩ := hrel
  by_cases hlt : k0 < 8
  ·obtain ⟨fu', rfl⟩ : ∃ fu', fu = fu' + 1 := ⟨fu - 1, by omega⟩
   have hfu2 : 9 ≤ fu' + (k0 + 1) := by omega
   clear hfu
   go_wp2
   go_loopw [4] (fun vk wx => ∃ k : Nat, k0 ≤ k ∧ k ≤ 8 ∧ vk = .int .i64 (k : Int) ∧ wx = wr ∧ Hid (run Z k0 = (k - k0) + run Z k)) (fun vk _ => 8 - (intOf vk).toNat)
   case atStart => exact ⟨k0, by omega, by omega, rfl, rfl, by show _ = _; omega⟩
   case round =>
    obtain ⟨k, hk0, hk8, rfl, rfl, HR⟩ := hrel
    by_cases hk : k < 8
    ·have hc0 := jr.out.cell k (by show k < 8; exact hk)
     rw [aaZ f k hk] at hc0
     have hzk : Z[k]'(by rw [J5.out]; exact hk) = (f k == 0) := by
      have := aen f k hk (by rw [MR]; exact hk)
      simp only [HZ.out]
      exact this
     have HZK := hid hzk
     obtain ⟨x, hx⟩ : ∃ x, f k = x := ⟨_, rfl⟩
     rw [hx] at hc0 HZK
     have hk8i : (k : Int) < 8 := by omega
     clear hx hzk
     by_cases hx0 : x = 0
     ·subst hx0
      have HR2 : Hid (run Z k0 = (k + 1 - k0) + run Z (k + 1)) := by
       show _ = _
       rw [HR.out, adI (by rw [J5.out]; exact hk) (by rw [HZK.out]; rfl)]
       omega
      rw [show ((0 : Nat) : Int) = 0 from rfl] at hc0
      go_wp2
      go_roundw
      case rel => exact ⟨k + 1, by omega, by omega, by go_num, by first | rfl | trivial, HR2.out⟩
      case measure => simp [intOf]; omega
     ·have hxb : ((x : Int) == 0) = false := by rw [abj]; simpa using hx0
      have hxn : ¬ (x : Int) = 0 := by omega
      have HRE : Hid (run Z k0 = k - k0) := by
       show _ = _
       rw [HR.out, run_nz (by rw [J5.out]; exact hk) (by rw [HZK.out]; simpa using hx0)]
       rfl
      clear hx0
      by_cases hgt : b - a < k - k0
      ·have HW2 : Hid (wY Z = goC Z fu' (k + 1) k0 k) := by
        show _ = _
        rw [HW.out]
        conv => lhs; unfold goC
        rw [if_pos (by rw [J5.out]; exact hlt), HRE.out, if_pos hgt, show k0 + (k - k0) = k by omega]
       have hgi : (b : Int) - (a : Int) < (k : Int) - (k0 : Int) := by omega
       have hki : (k0 : Int) ≤ (k : Int) := by omega
       have hai : (a : Int) ≤ (b : Int) := by omega
       clear hgt
       go_wp2
       go_roundw
       case rel => exact ⟨fu', k + 1, k0, k, by go_num, rfl, rfl, by omega, by omega, by omega, by omega, by first | rfl | trivial, HW2.out⟩
       case measure => simp [intOf]; omega
      ·have HW2 : Hid (wY Z = goC Z fu' (k + 1) a b) := by
        show _ = _
        rw [HW.out]
        conv => lhs; unfold goC
        rw [if_pos (by rw [J5.out]; exact hlt), HRE.out, if_neg hgt, show k0 + (k - k0) = k by omega]
       have hgi : ¬ (b : Int) - (a : Int) < (k : Int) - (k0 : Int) := by omega
       clear hgt
       go_wp2
       go_roundw
       case rel => exact ⟨fu', k + 1, a, b, by go_num, rfl, rfl, by omega, by omega, by omega, by omega, by first | rfl | trivial, HW2.out⟩
       case measure => simp [intOf]; omega
    ·obtain rfl : k = 8 := by omega
     have HRE : Hid (run Z k0 = 8 - k0) := by show _ = _; rw [HR.out, run_end (by rw [J5.out]; exact Nat.le_refl _)]; rfl
     by_cases hgt : b - a < 8 - k0
     ·have HW2 : Hid (wY Z = goC Z fu' (8 + 1) k0 8) := by
       show _ = _
       rw [HW.out]
       conv => lhs; unfold goC
       rw [if_pos (by rw [J5.out]; exact hlt), HRE.out, if_pos hgt, show k0 + (8 - k0) = 8 by omega]
      have hgi : (b : Int) - (a : Int) < 8 - (k0 : Int) := by omega
      have hki : (k0 : Int) ≤ 8 := by omega
      have hai : (a : Int) ≤ (b : Int) := by omega
      clear hgt
      go_wp2
      go_roundw
      case rel => exact ⟨fu', 8 + 1, k0, 8, by go_num, rfl, rfl, by omega, by omega, by omega, by omega, by first | rfl | trivial, HW2.out⟩
      case measure => simp [intOf]; omega
     ·have HW2 : Hid (wY Z = goC Z fu' (8 + 1) a b) := by
       show _ = _
       rw [HW.out]
       conv => lhs; unfold goC
       rw [if_pos (by rw [J5.out]; exact hlt), HRE.out, if_neg hgt, show k0 + (8 - k0) = 8 by omega]
      have hgi : ¬ (b : Int) - (a : Int) < 8 - (k0 : Int) := by omega
      clear hgt
      go_wp2
      go_roundw
      case rel => exact ⟨fu', 8 + 1, a, b, by go_num, rfl, rfl, by omega, by omega, by omega, by omega, by first | rfl | trivial, HW2.out⟩
      case measure => simp [intOf]; omega
  ·have HE : Hid (wY Z = (a, b)) := by show _ = _; rw [HW.out]; exact goC_end (by rw [J5.out]; omega)
   have hk8i : ¬ (k0 : Int) < 8 := by omega
   go_wp2
   go_ret2
   exact ⟨by rw [HE.out]; rfl, HB1.out⟩
theorem EO (f : Nat → Nat) : (wY (zs f)).1 ≤ (wY (zs f)).2 ∧ (wY (zs f)).2 ≤ 8 := by
 have := LM (f 0 == 0) (f 1 == 0) (f 2 == 0) (f 3 == 0) (f 4 == 0) (f 5 == 0) (f 6 == 0) (f 7 == 0)
 exact ⟨this.1, this.2.1⟩
def prt (f : Nat → Nat) : List UInt8 := if (wY (zs f)).2 - (wY (zs f)).1 < 2 then jx (V8 f) else jx ((V8 f).take (wY (zs f)).1) ++ [58, 58] ++ jx ((V8 f).drop (wY (zs f)).2)
theorem Es {w : World} {g : Nat} {t : TypeId} {L : List Nat} (h : Box w g t L) : dS w (some ⟨g, 0, none⟩) L.length (aW L) :=
 dS.oN (jM L) (Array.getElem?_eq_some_iff.1 h).1 (fun j hj => by
  rw [Nat.zero_add, h.cell j (by rw [jM] at hj; exact hj)]
  simp [aW])
theorem Ny {f : Nat → Nat} (h : ∀ i, f i < 65536) : ∀ x ∈ V8 f, x < 65536 := by
 intro x hx
 simp only [V8, List.mem_cons, List.not_mem_nil, or_false] at hx
 rcases hx with rfl | rfl | rfl | rfl | rfl | rfl | rfl | rfl <;> exact h _
theorem print_any (f : Nat → Nat) (h6 : ∀ i, f i < 65536) (w : World) (hL : pR w) : Calls Tryz.prog 205 #[A8 f] w fun e w' => e = .returned (.string (strOf (prt f))) ∧ Below w.heap.size w w' := by
 obtain ⟨P, hP⟩ : ∃ P, P = prt f := ⟨_, rfl⟩
 rw [← hP]
 have Qk := hid hL
 have H6 := hid (Ny h6)
 have hab := EO f
 have hlq := fun w => RD f w
 unfold prt at hP
 unfold A8 at hlq ⊢
 obtain ⟨a, ha⟩ : ∃ a, a = (wY (zs f)).1 := ⟨_, rfl⟩
 obtain ⟨b, hb⟩ : ∃ b, b = (wY (zs f)).2 := ⟨_, rfl⟩
 rw [← ha, ← hb] at hP hab
 have hlq2 : ∀ w, Calls Tryz.prog 221 #[.agg #[.int .u16 (f 0 : Int), .int .u16 (f 1 : Int), .int .u16 (f 2 : Int), .int .u16 (f 3 : Int), .int .u16 (f 4 : Int), .int .u16 (f 5 : Int), .int .u16 (f 6 : Int), .int .u16 (f 7 : Int)]] w fun e w' => e = .returned (.tuple #[.int .i64 (a : Int), .int .i64 (b : Int)]) ∧ Below w.heap.size w w' := by
  intro w
  rw [ha, hb]
  exact hlq w
 have HLQ := hid hlq2
 obtain ⟨hab1, hab2⟩ := hab
 have HP := hid hP
 clear hlq hlq2 ha hb hL h6 hP
 go_enter Tryz.func205, Tryz.ntmps205
 go_upto_region 1 with (fail)
 generalize hw1 : w.alloc _ = w1
 have HB1 : Hid (Below w.heap.size w w1) := by
  show Below _ _ _
  rw [← hw1]
  exact (Below.refl _ _).alloc (Nat.le_refl _) _
 have jr : Hid (Box w1 w.heap.size 191 (V8 f)) := by
  show Box _ _ _ _
  rw [← hw1]
  exact NT f
 clear hw1
 obtain ⟨c0, c1, c2, c3, c4, c5, c6, c7⟩ := jg jr.out f rfl
 go_wp2_with fail
 refine (HLQ.out _).mono ?_
 rintro e w2 ⟨rfl, hb2⟩
 have HB2 : Hid (Below w.heap.size w w2) := bel HB1.out hb2
 have iG := hid (jr.out.below hb2)
 have hab3 : (a : Int) ≤ (b : Int) := by omega
 have hb8i : (b : Int) ≤ 8 := by omega
 clear hb2 c0 c1 c2 c3 c4 c5 c6 c7
 by_cases hlt : b - a < 2
 ·have hlti : (b : Int) - (a : Int) < 2 := by omega
  have HE : Hid (P = jx (V8 f)) := by show _ = _; rw [HP.out, if_pos hlt]
  clear hlt
  go_wp2_with fail
  refine (II _ 8 8 (V8 f) _ (Es iG.out) (Nat.le_refl _) H6.out (Qk.out.below HB2.out)).mono ?_
  rintro e w3 ⟨rfl, hb3⟩
  go_wp2
  go_ret
  exact ⟨by rw [HE.out]; rfl, bel HB2.out hb3⟩
 ·have hlti : ¬ (b : Int) - (a : Int) < 2 := by omega
  have ha8 : a ≤ 8 := by omega
  obtain ⟨P1, hP1⟩ : ∃ P1, P1 = strOf (jx ((V8 f).take a)) := ⟨_, rfl⟩
  obtain ⟨P2, hP2⟩ : ∃ P2, P2 = strOf (jx ((V8 f).take a) ++ [58, 58]) := ⟨_, rfl⟩
  obtain ⟨P3, hP3⟩ : ∃ P3, P3 = strOf (jx ((V8 f).drop b)) := ⟨_, rfl⟩
  obtain ⟨P4, hP4⟩ : ∃ P4, P4 = strOf P := ⟨_, rfl⟩
  have hl1 := EG ((V8 f).take a)
  have hl2 := EG ((V8 f).drop b)
  rw [List.length_take] at hl1
  rw [List.length_drop] at hl2
  have h8l : (V8 f).length = 8 := rfl
  rw [h8l] at hl1 hl2
  have a1 : ∀ w : World, (Op.stringOp .add P1 ⟨#[58, 58]⟩).run Tryz.prog w = .ok (.string P2) w := fun w => by
   rw [hP1, hP2]
   exact gK _ [58, 58] w (by simp; omega)
  have a2 : ∀ w : World, (Op.stringOp .add P2 P3).run Tryz.prog w = .ok (.string P4) w := fun w => by
   rw [hP2, hP3, hP4, HP.out, if_neg hlt]
   exact gK _ _ w (by rw [List.length_append]; simp; omega)
  have HP1 := hid hP1
  have HP3 := hid hP3
  have HE : Hid (P4 = strOf P) := hP4
  have HT : Hid (dS w2 (some ⟨w.heap.size, 0, none⟩) a (aW ((V8 f).take a))) := by
   have := (Es iG.out).upto a (by show a ≤ 8; omega)
   have e : aW ((V8 f).take a) = (aW (V8 f)).take a := by simp [aW]
   show dS _ _ _ _
   rw [e]
   exact this
  have HD : Hid (dS w2 (some ⟨w.heap.size, b, none⟩) (8 - b) (aW ((V8 f).drop b))) := by
   have := (Es iG.out).cut b (by show b ≤ 8; omega)
   have e : aW ((V8 f).drop b) = (aW (V8 f)).drop b := by simp [aW]
   show dS _ _ _ _
   rw [e]
   rw [show (V8 f).length = 8 from rfl, Nat.zero_add] at this
   exact this
  have HM1 : Hid (∀ x ∈ (V8 f).take a, x < 65536) := fun x hx => H6.out x (List.mem_of_mem_take hx)
  have TW : Hid (∀ x ∈ (V8 f).drop b, x < 65536) := fun x hx => H6.out x (List.mem_of_mem_drop hx)
  clear hlt hP1 hP2 hP3 hP4 hl1 hl2 h8l
  go_wp2_with fail
  refine dY (by kernel_rfl) [is (.int .i64 (a : Int)), is (.slice (some ⟨w.heap.size, 0, none⟩) a 8), is (.string P1), is (.string P2), is (.int .i64 (b : Int)), row (8 - b) (aW ((V8 f).drop b)), is (.string P3), is (.string P4), is (.string P4)] [[], [0], [1], [2], [], [4], [5], [3, 6], [7]] (by kernel_rfl) ?_ ?_
  ·refine ⟨?_, ?_, ?_, ?_, ?_, ?_, ?_, ?_, ?_, trivial⟩
   all_goals (intro t wq hbq hh K hK; simp only [filled, upd, Have, is, any, row, pick, Act.put, List.setIfInBounds_toArray, List.set_cons_zero, List.set_cons_succ, Nat.reduceAdd, Nat.reduceEqDiff, reduceIte, List.tail_cons, List.headD_cons] at hh hK ⊢)
   ·(try clear hh); go_simp; exact hK _ _ (Below.refl _ _) rfl
   ·simp only [hh] at hK ⊢
    clear hh
    have ha1 : (a : Int) ≤ 8 := by omega
    have ha0 : (0 : Int) ≤ (a : Int) := by omega
    go_simp
    exact hK _ _ (Below.refl _ _) rfl
   ·simp only [hh] at hK ⊢; clear hh; go_simp; refine (II _ a 8 ((V8 f).take a) _ (HT.out.below hbq) (by omega) HM1.out (Qk.out.below (HB2.out.trans (hbq.mono HB2.out.size)))).mono ?_; rintro e w5 ⟨rfl, hb5⟩; rw [← HP1.out]; exact hK _ _ hb5 rfl
   ·simp only [hh] at hK ⊢; clear hh; go_simp; exact hK _ _ (Below.refl _ _) rfl
   ·(try clear hh); go_simp; exact hK _ _ (Below.refl _ _) rfl
   ·simp only [hh] at hK ⊢
    clear hh
    have hb1 : (b : Int) ≤ 8 := by omega
    have hb0 : (0 : Int) ≤ (b : Int) := by omega
    by_cases hb8 : b = 8
    ·have hz : 8 - b = 0 := by omega
     simp only [hb8] at hK
     go_simp
     exact hK _ _ (Below.refl _ _) ⟨_, _, rfl, by omega, by unfold maxLen; omega, by rw [List.drop_eq_nil_of_le (by show 8 ≤ 8; omega)]; exact dS.nil _⟩
    ·have hz : ¬ 8 - b = 0 := by omega
     have hz2 : ¬ 8 = b := by omega
     go_simp
     exact hK _ _ (Below.refl _ _) ⟨_, _, rfl, Nat.le_refl _, by unfold maxLen; omega, HD.out.below hbq⟩
   ·have e5 := hh.1; (try clear hh); obtain ⟨A5, c5, e5, hc5, hm5, hr5⟩ := e5; simp only [e5] at hK ⊢; go_simp; refine (II A5 (8 - b) c5 ((V8 f).drop b) _ hr5 (by omega) TW.out (Qk.out.below (HB2.out.trans (hbq.mono HB2.out.size)))).mono ?_; rintro e w5 ⟨rfl, hb5⟩; rw [← HP3.out]; exact hK _ _ hb5 rfl
   ·simp only [hh] at hK ⊢; clear hh; go_simp; first | exact hK _ _ (Below.refl _ _) rfl | exact hK _ _ (Below.refl _ _) trivial
   ·simp only [hh] at hK ⊢; clear hh; go_simp; exact hK _ _ (Below.refl _ _) rfl
  ·intro t wq hbq hh
   have f8 := aS hh 8 (by decide)
   simp only [pick] at f8
   replace f8 : t 8 = (.string P4) := f8
   clear hh
   simp only [filled, upd, Have, is, any, row, pick, Act.put, List.setIfInBounds_toArray, List.set_cons_zero, List.set_cons_succ, Nat.reduceAdd, Nat.reduceEqDiff, reduceIte]
   simp only [f8]
   go_wp2
   go_ret
   exact ⟨by rw [← HE.out]; rfl, HB2.out.trans (hbq.mono HB2.out.size)⟩
end Go.Proofs.YtcfgioklgmlclaaGreatDoor.mD
