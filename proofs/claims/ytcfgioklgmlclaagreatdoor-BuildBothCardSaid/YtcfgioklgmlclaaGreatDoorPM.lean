/- Texts that belong together: aeH, BuiB, aeI, BuiD, aeJ. -/
import Derived.Test.YtcfgioklgmlclaaGreatDoorPF
import Derived.Test.YtcfgioklgmlclaaGreatDoorME
import Derived.Test.YtcfgioklgmlclaaGreatDoorShelf
import Derived.Test.YtcfgioklgmlclaaGreatDoorPC
import Derived.Test.YtcfgioklgmlclaaGreatDoorPD
import Derived.Test.YtcfgioklgmlclaaGreatDoorPG
import Derived.Lib.SlBytesConst
set_option linter.unusedSimpArgs false
set_option linter.unusedVariables false
set_option maxRecDepth 100000
set_option maxHeartbeats 64000000
namespace Go.Proofs.YtcfgioklgmlclaaGreatDoor.aeH
open Go.RowKit Base eX fE MX aaE
open Go.Proofs.YtcfgioklgmlclaaGreatDoor.aJ (ru N9 ZV)
theorem has1 (b : UInt8) (L : List UInt8) : decide (0 ≤ Lib.indexByte L b) = L.contains b := by
 have hge := Lib.indexByte_ge L b
 by_cases h : Lib.indexByte L b = -1
 ·have hn := Lib.indexByte_none h
  rw [decide_eq_false (by omega)]
  cases e : L.contains b with
  | false => rfl
  | true =>
   have hm : b ∈ L := by simpa using e
   obtain ⟨j, hj, he⟩ := List.getElem_of_mem hm
   exact absurd (List.getElem?_eq_some_iff.2 ⟨hj, he⟩) (hn j)
 ·obtain ⟨o, ho⟩ : ∃ o : Nat, Lib.indexByte L b = o := ⟨(Lib.indexByte L b).toNat, by omega⟩
  have hs := (Lib.indexByte_some ho).1
  rw [decide_eq_true (by omega)]
  obtain ⟨hj, he⟩ := List.getElem?_eq_some_iff.1 hs
  symm
  simpa using (show b ∈ L by rw [← he]; exact List.getElem_mem _)
theorem aai (L : List UInt8) (c : UInt8) : FX (L ++ [c]) = FX L ++ e1 c := by simp [FX]
theorem aeU (c : UInt8) : 1 ≤ (e1 c).length ∧ (e1 c).length ≤ 3 := by unfold e1; split <;> simp
theorem aat (L : List UInt8) : (FX L).length ≤ 3 * L.length := by
 induction L with
 | nil => simp [FX]
 | cons c L ih =>
  have h := aeU c
  have e : FX (c :: L) = e1 c ++ FX L := by simp [FX]
  rw [e, List.length_append, List.length_cons]
  omega
theorem escd_ge (L : List UInt8) : L.length ≤ (FX L).length := by
 induction L with
 | nil => simp [FX]
 | cons c L ih =>
  have h := aeU c
  have e : FX (c :: L) = e1 c ++ FX L := by simp [FX]
  rw [e, List.length_append, List.length_cons]
  omega
attribute [local go_sem ↓] Go.wp_at_zero Go.wp_at_succ
theorem Fz (A : Option Addr) (n cap : Nat) (L : List UInt8) (w : World) (h : dS w A n (ak L)) (hm : n ≤ 1073741824) :
  Calls Tryz.prog 111 #[.slice A n cap] w fun e w' => e = .returned (.string (strOf (FX L))) ∧ Below w.heap.size w w' := by
 have hl : L.length = n := by rw [← bF]; exact h.1
 have HL := hid hl
 clear hl
 obtain ⟨i0, hi, hz0, hz1, hz2⟩ := info_parts jU
 have HH := hid h
 clear h
 go_enter Tryz.func111, Tryz.ntmps111
 go_wp2_with (at_make; refine wpList_make_own _ rfl _ _ 30 rfl w.heap.size 5 i0 (.int .u8 0) 1 Tryz.underlying30 hi hz0 hz1 .i64 .i64 _ n rfl rfl rfl (by rw [hz2]; omega) (by unfold maxLen; omega) (Nat.le_refl _) ?_)
 intro w1 hown1 hg1
 have gB : Below w.heap.size w w1 := (Below.refl _ _).grown hg1 (Nat.le_refl _) (by intro k h; cases h)
 clear hg1
 go_wp2
 go_loopw [3, 5, 11] (fun v _ vk wr => ∃ (j : Nat), j ≤ n ∧ vk = .int .i64 j ∧ wr.ownsRow w.heap.size 5 1 v (FX (L.take j)).length (ak (FX (L.take j))) ∧ Below w.heap.size w wr) (fun _ _ vk _ => n - (intOf vk).toNat)
 case atStart => exact ⟨0, Nat.zero_le _, rfl, hown1, gB⟩
 case round =>
  clear hown1 gB
  obtain ⟨j, hj, rfl, hown, hbel⟩ := hrel
  by_cases hlt : j < n
  ·obtain ⟨b, off, rfl, hb, _⟩ := (HH.out).spot (by omega)
   obtain ⟨c, hx⟩ : ∃ c, c = L[j]'(by rw [HL.out]; exact hlt) := ⟨_, rfl⟩
   have hcell : wr.cell? ⟨b, off + j, none⟩ = some (.int .u8 (c.toNat : Int)) := by
    rw [hx, ← HH.out.byte j (by rw [HL.out]; exact hlt)]
    exact hbel.cell (p := ⟨b, off + j, none⟩) hb
   have HS : Hid (L.take (j + 1) = L.take j ++ [c]) := by
    rw [hx]
    exact List.take_succ_eq_append_getElem (by rw [HL.out]; exact hlt)
   clear hx
   have hle := aat (L.take j)
   have hle2 : (L.take j).length ≤ j := List.length_take_le _ _
   obtain ⟨m, hmm⟩ : ∃ m, m = (FX (L.take j)).length := ⟨_, rfl⟩
   rw [← hmm] at hle hown
   have HM := hid hmm
   clear hmm
   have hc0 : (c.toNat : Int) < 256 := by have := c.toNat_lt; omega
   obtain ⟨a, ha⟩ : ∃ a, a = letter c.toNat := ⟨_, rfl⟩
   obtain ⟨d, hd⟩ : ∃ d, d = digit c.toNat := ⟨_, rfl⟩
   obtain ⟨x, hx⟩ : ∃ x, x = ([45, 46, 95, 126] : List UInt8).contains c := ⟨_, rfl⟩
   have HLT : Hid (∀ w : World, Calls Tryz.prog 134 #[.int .u8 (c.toNat : Int)] w fun e w' => e = .returned (.bool a) ∧ w = w') := fun w => by rw [ha]; exact fB _ w
   have HDG : Hid (∀ w : World, Calls Tryz.prog 135 #[.int .u8 (c.toNat : Int)] w fun e w' => e = .returned (.bool d) ∧ w = w') := fun w => by rw [hd]; exact ji _ w
   have HIX : Hid (∀ w : World, Calls Tryz.prog 114 #[.string ⟨#[45, 46, 95, 126]⟩, .int .u8 (c.toNat : Int)] w fun e w' => ∃ z : Int, e = .returned (.int .i64 z) ∧ decide (0 ≤ z) = x ∧ w' = w) := fun w => by
    refine (Tryz.strings_IndexByte ⟨#[45, 46, 95, 126]⟩ _ w).mono ?_
    rintro e w' ⟨rfl, rfl⟩
    refine ⟨_, rfl, ?_, rfl⟩
    rw [show ((c.toNat : Int).toNat.toUInt8) = c by simp, has1, hx]
   have hun : e1 c = if (a || d || x) = true then [c] else [37, ru (c.toNat / 16), ru (c.toNat % 16)] := by rw [ha, hd, hx]; rfl
   have HUN := hid hun
   clear ha hd hx hun
   cases a with
   | true =>
    have HI : Hid (e1 c = [c]) := HUN.out
    go_wp2_with fail
    refine (HLT.out _).mono ?_
    rintro e w2 ⟨rfl, rfl⟩
    go_wp2_with (at_builtin; refine bC rfl _ _ 30 rfl w.heap.size 5 i0 (.int .u8 0) 1 Tryz.underlying30 hi hz0 hz1 hz2 rfl _ m _ rfl hown hbel hbel.size [.int .u8 (c.toNat : Int)] 1 rfl rfl (by intro u hu; simp at hu; subst hu; rfl) (by unfold maxLen; omega) (by omega) ?_)
    intro v' w2 hown2 gG
    clear hown hbel
    go_wp2
    go_roundw
    case rel => exact ⟨j + 1, by omega, by go_num, by
      have e1 : e1 c = [c] := HI.out
      rw [HS.out, aai, e1, List.length_append, aX, ← HM.out]
      exact hown2, gG⟩
    case measure => simp [intOf]; omega
   | false =>
    go_wp2_with fail
    refine (HLT.out _).mono ?_
    rintro e w2 ⟨rfl, rfl⟩
    cases d with
    | true =>
     have HI : Hid (e1 c = [c]) := HUN.out
     go_wp2_with fail
     refine (HDG.out _).mono ?_
     rintro e w2 ⟨rfl, rfl⟩
     go_wp2_with (at_builtin; refine bC rfl _ _ 30 rfl w.heap.size 5 i0 (.int .u8 0) 1 Tryz.underlying30 hi hz0 hz1 hz2 rfl _ m _ rfl hown hbel hbel.size [.int .u8 (c.toNat : Int)] 1 rfl rfl (by intro u hu; simp at hu; subst hu; rfl) (by unfold maxLen; omega) (by omega) ?_)
     intro v' w2 hown2 gG
     clear hown hbel
     go_wp2
     go_roundw
     case rel => exact ⟨j + 1, by omega, by go_num, by
       have e1 : e1 c = [c] := HI.out
       rw [HS.out, aai, e1, List.length_append, aX, ← HM.out]
       exact hown2, gG⟩
     case measure => simp [intOf]; omega
    | false =>
     go_wp2_with fail
     refine (HDG.out _).mono ?_
     rintro e w2 ⟨rfl, rfl⟩
     go_wp2_with fail
     refine (HIX.out _).mono ?_
     rintro e w2 ⟨z, rfl, hz, hw2⟩
     subst hw2
     cases x with
     | true =>
      have HI : Hid (e1 c = [c]) := HUN.out
      have zz1 : 0 ≤ z := by simpa using hz
      have zz2 : ¬ z < 0 := by omega
      go_wp2_with (at_builtin; refine bC rfl _ _ 30 rfl w.heap.size 5 i0 (.int .u8 0) 1 Tryz.underlying30 hi hz0 hz1 hz2 rfl _ m _ rfl hown hbel hbel.size [.int .u8 (c.toNat : Int)] 1 rfl rfl (by intro u hu; simp at hu; subst hu; rfl) (by unfold maxLen; omega) (by omega) ?_)
      intro v' w2 hown2 gG
      clear hown hbel
      go_wp2
      go_roundw
      case rel => exact ⟨j + 1, by omega, by go_num, by
        have e1 : e1 c = [c] := HI.out
        rw [HS.out, aai, e1, List.length_append, aX, ← HM.out]
        exact hown2, gG⟩
      case measure => simp [intOf]; omega
     | false =>
      have HI : Hid (e1 c = [37, ru (c.toNat / 16), ru (c.toNat % 16)]) := HUN.out
      have zz2 : ¬ 0 ≤ z := by simpa using hz
      have zz1 : z < 0 := by omega
      clear hz
      go_wp2
      have q1 : (0 : Int) ≤ (c.toNat : Int) / 16 := by omega
      have q2 : (c.toNat : Int) / 16 < 16 := by omega
      have q3 : (0 : Int) ≤ (c.toNat : Int) % 16 := by omega
      have q4 : (c.toNat : Int) % 16 < 16 := by omega
      have q5 := QG c
      have q6 : ∀ h, (⟨#[48, 49, 50, 51, 52, 53, 54, 55, 56, 57, 65, 66, 67, 68, 69, 70]⟩ : ByteArray)[((c.toNat : Int) / 16).toNat]'h = ru (c.toNat / 16) := fun h => N9 _ h
      have q7 : ∀ h, (⟨#[48, 49, 50, 51, 52, 53, 54, 55, 56, 57, 65, 66, 67, 68, 69, 70]⟩ : ByteArray)[((c.toNat : Int) % 16).toNat]'h = ru (c.toNat % 16) := fun h => N9 _ h
      go_region_held3 (fun _ => True) (trivial) ((refine Tf (by rfl) _ _ 30 (by rfl) w.heap.size 5 i0 (.int .u8 0) 1 Tryz.underlying30 hi hz0 hz1 hz2 (by rfl) _ m _ (by rfl) hown hbel hbel.size [.int .u8 37, .int .u8 ((ru (c.toNat / 16)).toNat : Int), .int .u8 ((ru (c.toNat % 16)).toNat : Int)] 3 (by rfl) (by decide) (by rfl) (ZV _ _ _) (by unfold maxLen; omega) (by omega) ⟨(Below.refl _ _).drew, fun _ => rfl, by simp⟩ ?_; intro v' w2 hown2 gG))
      all_goals
       clear hown hbel q1 q2 q3 q4 q5 q6 q7
       go_wp2
       go_roundw
       case rel => exact ⟨j + 1, by omega, by go_num, by
         have e1 : e1 c = [37, ru (c.toNat / 16), ru (c.toNat % 16)] := HI.out
         rw [HS.out, aai, e1, List.length_append, aX, ← HM.out]
         exact hown2, gG⟩
       case measure => simp [intOf]; omega
  ·obtain rfl : j = n := by omega
   have HE : Hid (L.take j = L) := by
    rw [← HL.out]; exact List.take_length
   rw [HE.out] at hown
   obtain ⟨A', c', rfl, _, _, hrd⟩ := bZ hown
   have hst := aQ 30 9 5 Tryz.underlying30 Tryz.underlying5 Tryz.underlying9 _ c' hrd
   go_wp2
   go_ret
   exact ⟨rfl, hbel⟩
end Go.Proofs.YtcfgioklgmlclaaGreatDoor.aeH
namespace Go.Proofs.YtcfgioklgmlclaaGreatDoor.BuiB
open Go.RowKit Base aP fE nV qL lJ Um uq Ul aad MV rC aaE
theorem zn (letters : Bool) (T S : ByteArray) (A : Option Addr) (n cap : Nat) (A2 : Option Addr) (n2 c2 : Nat) (B P : List UInt8) (w : World)
  (hP : ∀ w' : World, Below w.heap.size w w' → Calls Tryz.prog 109 #[.agg #[.string T, .string S, .slice A n cap]] w' fun e w'' => e = .returned (.string (strOf P)) ∧ Below w'.heap.size w' w'') (hPl : P.length ≤ 10000000) (hB : dS w A2 n2 (ak B)) (hc2 : n2 ≤ c2) (hn2 : n2 ≤ 10000000) :
  Calls Tryz.prog 56 #[.agg #[.string T, .string S, .slice A n cap], .slice A2 n2 c2, .bool letters] w fun e w' => e = .returned (.string (strOf (xO ++ (P ++ Ti letters B)))) ∧ Below w.heap.size w w' := by
 have HP := hid hP
 have HR := hid hB
 have hbl : B.length = n2 := by rw [← bF]; exact hB.1
 obtain ⟨X1, hX1⟩ : ∃ X, X = xO ++ P := ⟨_, rfl⟩
 have hx1 : X1.length ≤ 10000005 := by rw [hX1, List.length_append]; show 5 + _ ≤ _; omega
 have HA1 : Hid (∀ w : World, (Op.stringOp .add ⟨#[100, 97, 116, 97, 58]⟩ (strOf P)).run Tryz.prog w = .ok (.string (strOf X1)) w) := fun w => by rw [hX1]; exact bf _ _ w (by rw [ah]; show 5 + _ ≤ _; omega)
 cases letters with
 | true =>
  obtain ⟨X2, hX2⟩ : ∃ X, X = X1 ++ (zO ++ [44]) := ⟨_, rfl⟩
  have hx2 : X2.length ≤ 10000013 := by rw [hX2, List.length_append]; show _ + 8 ≤ _; omega
  have hel : (e64 B).length ≤ 20000000 := by rw [aal]; omega
  have HA2 : Hid (∀ w : World, (Op.stringOp .add (strOf X1) ⟨#[59, 98, 97, 115, 101, 54, 52, 44]⟩).run Tryz.prog w = .ok (.string (strOf X2)) w) := fun w => by rw [hX2]; exact bf _ _ w (by rw [ah]; show _ + 8 ≤ _; omega)
  obtain ⟨X3, hX3⟩ : ∃ X, X = X2 ++ e64 B := ⟨_, rfl⟩
  have HA3 : Hid (∀ w : World, (Op.stringOp .add (strOf X2) (strOf (e64 B))).run Tryz.prog w = .ok (.string (strOf X3)) w) := fun w => by rw [hX3]; exact bf _ _ w (by rw [ah, ah]; omega)
  have HV : Hid (xO ++ (P ++ Ti true B) = X3) := by show _ = _; rw [hX3, hX2, hX1]; unfold Ti; rw [if_pos rfl]; simp
  have HEN : Hid (∀ w' : World, dS w' A2 n2 (ak B) → Calls Tryz.prog 110 #[.slice A2 n2 c2] w' fun e w'' => e = .returned (.string (strOf (e64 B))) ∧ Below w'.heap.size w' w'') := fun w' h => aad.fM A2 n2 c2 B w' h hc2 (by omega)
  rw [HV.out]
  clear hP hB hbl hX1 hx1 hX2 hx2 hel hX3 HV hPl hn2 hc2
  go_enter Tryz.func56, Tryz.ntmps56
  go_upto_region 1 with (fail)
  generalize hw1 : w.alloc _ = w1
  have HB1 : Hid (Below w.heap.size w w1) := by show Below _ _ _; rw [← hw1]; exact (Below.refl _ _).alloc (Nat.le_refl _) _
  have hx1 : B3 29 w1 w.heap.size (.string T) (.string S) (.slice A n cap) := by
   rw [← hw1]
   exact heap_alloc_new w _
  have jr := hid hx1
  clear hw1 hx1
  have a1 := HA1.out
  have a2 := HA2.out
  have a3 := HA3.out
  obtain ⟨c0, c1, c2'⟩ := jr.out.facts
  go_wp2_with fail
  clear c0 c1 c2'
  refine (HP.out _ HB1.out).mono ?_
  rintro e w2 ⟨rfl, hb2⟩
  have HB2 := hid (bel HB1.out hb2)
  have HR2 := hid (HR.out.below HB2.out)
  clear hb2
  go_wp2_with fail
  refine (HEN.out _ HR2.out).mono ?_
  rintro e w3 ⟨rfl, hb3⟩
  have HB3 := hid (bel HB2.out hb3)
  clear hb3
  go_wp2
  go_ret
  exact ⟨rfl, HB3.out⟩
 | false =>
  obtain ⟨X2, hX2⟩ : ∃ X, X = X1 ++ [44] := ⟨_, rfl⟩
  have hx2 : X2.length ≤ 10000006 := by rw [hX2, List.length_append]; show _ + 1 ≤ _; omega
  have hel : (FX B).length ≤ 30000000 := by have := aeH.aat B; omega
  have HA2 : Hid (∀ w : World, (Op.stringOp .add (strOf X1) ⟨#[44]⟩).run Tryz.prog w = .ok (.string (strOf X2)) w) := fun w => by rw [hX2]; exact bf _ _ w (by rw [ah]; show _ + 1 ≤ _; omega)
  obtain ⟨X3, hX3⟩ : ∃ X, X = X2 ++ FX B := ⟨_, rfl⟩
  have HA3 : Hid (∀ w : World, (Op.stringOp .add (strOf X2) (strOf (FX B))).run Tryz.prog w = .ok (.string (strOf X3)) w) := fun w => by rw [hX3]; exact bf _ _ w (by rw [ah, ah]; omega)
  have HV : Hid (xO ++ (P ++ Ti false B) = X3) := by show _ = _; rw [hX3, hX2, hX1]; unfold Ti; rw [if_neg (by decide)]; simp
  have HEN : Hid (∀ w' : World, dS w' A2 n2 (ak B) → Calls Tryz.prog 111 #[.slice A2 n2 c2] w' fun e w'' => e = .returned (.string (strOf (FX B))) ∧ Below w'.heap.size w' w'') := fun w' h => aeH.Fz A2 n2 c2 B w' h (by omega)
  rw [HV.out]
  clear hP hB hbl hX1 hx1 hX2 hx2 hel hX3 HV hPl hn2 hc2
  go_enter Tryz.func56, Tryz.ntmps56
  go_upto_region 1 with (fail)
  generalize hw1 : w.alloc _ = w1
  have HB1 : Hid (Below w.heap.size w w1) := by show Below _ _ _; rw [← hw1]; exact (Below.refl _ _).alloc (Nat.le_refl _) _
  have hx1 : B3 29 w1 w.heap.size (.string T) (.string S) (.slice A n cap) := by
   rw [← hw1]
   exact heap_alloc_new w _
  have jr := hid hx1
  clear hw1 hx1
  have a1 := HA1.out
  have a2 := HA2.out
  have a3 := HA3.out
  obtain ⟨c0, c1, c2'⟩ := jr.out.facts
  go_wp2_with fail
  clear c0 c1 c2'
  refine (HP.out _ HB1.out).mono ?_
  rintro e w2 ⟨rfl, hb2⟩
  have HB2 := hid (bel HB1.out hb2)
  have HR2 := hid (HR.out.below HB2.out)
  clear hb2
  go_wp2_with fail
  refine (HEN.out _ HR2.out).mono ?_
  rintro e w3 ⟨rfl, hb3⟩
  have HB3 := hid (bel HB2.out hb3)
  clear hb3
  go_wp2
  go_ret
  exact ⟨rfl, HB3.out⟩
end Go.Proofs.YtcfgioklgmlclaaGreatDoor.BuiB
namespace Go.Proofs.YtcfgioklgmlclaaGreatDoor.aeI
open Go.RowKit Base aP fE aH tZ Uo Ulw uq qL lJ MV rC X7 Nk Qv kX Fh J8 aas aaE
open Go.Proofs.YtcfgioklgmlclaaGreatDoor.dD (Dp)
theorem ae3 (a b : List UInt8) : ((strOf a).toList == (strOf b).toList) = decide (a = b) := by
 unfold strOf
 rw [ByteArray.toList_mk, ByteArray.toList_mk, Bool.eq_iff_iff]
 simp
theorem YL (A : Option Addr) (n c : Nat) (L : List UInt8) (A2 : Option Addr) (n2 c2 : Nat) (M : List UInt8) (w : World) (h : dS w A n (ak L)) (h2 : dS w A2 n2 (ak M)) : Calls Tryz.prog 112 #[.slice A n c, .slice A2 n2 c2] w fun e w' => e = .returned (.bool (decide (L = M))) ∧ w = w' := by
 have hs := aQ (P := Tryz.prog) 30 9 5 Tryz.underlying30 Tryz.underlying5 Tryz.underlying9 _ c h
 have hs2 := aQ (P := Tryz.prog) 30 9 5 Tryz.underlying30 Tryz.underlying5 Tryz.underlying9 _ c2 h2
 have hq : ((strOf L).toList == (strOf M).toList) = decide (L = M) := ae3 L M
 go_enter Tryz.func112, Tryz.ntmps112
 go_wp2
 go_ret
 first | exact ⟨rfl, rfl⟩ | exact ⟨aB hq, rfl⟩
def same2 (M N : MT) : Bool := Jq (strOf M.ty) (strOf M.sub) (mF M.ps) (strOf N.ty) (strOf N.sub) (mF N.ps)
def Af (s : List UInt8) (M : MT) (B : List UInt8) : Bool := match aH.url s none with
 | none => false
 | some u => decide (AY u = 0) && (same2 (tH u).1 M && decide ((tH u).2 = B))
theorem ae2 (s : ByteArray) (M : MT) (A : Option Addr) (c : Nat) (A2 : Option Addr) (n2 c2 : Nat) (B : List UInt8) (w : World) (hs0 : s.size ≤ 26000) (hM : Mp w M A c) (hB : dS w A2 n2 (ak B)) (E : Env w) :
  Calls Tryz.prog 57 #[.string s, .agg #[.string (strOf M.ty), .string (strOf M.sub), .slice A M.ps.length c], .slice A2 n2 c2] w fun e w' => e = .returned (.bool (Af s.data.toList M B)) ∧ Below w.heap.size w w' := by
 have hs : s.size ≤ 65536 := by omega
 have HE := hid E
 have HMP := hid hM
 have HRB := hid hB
 obtain ⟨b, hb0⟩ : ∃ b, b = Af s.data.toList M B := ⟨_, rfl⟩
 rw [← hb0]
 cases e1 : aH.url s.data.toList none with
 | none =>
  have HV : Hid (b = false) := by show _ = _; rw [hb0]; unfold Af; rw [e1]
  obtain ⟨u, hu0⟩ : ∃ u0, u0 = U0 := ⟨_, rfl⟩
  have HU0 := hid hu0
  have HP1 : Hid (∀ w, Env w → Calls Tryz.prog 16 #[.string s, .pointer none] w fun e w' => ∃ A' n' c', e = .returned (.tuple #[.agg #[.string (strOf u.aj), .string (strOf u.usr), .string (strOf u.dR), .string (strOf u.hst), .bool u.hh, .int .i64 u.port, .bool u.opq, .string (strOf u.txt), .slice A' n' c', .bool u.hq, .bool u.hf, .string (strOf u.eF), .string (strOf u.fG)], .int .i64 2]) ∧ Pt w' u A' n' c' ∧ Below w.heap.size w w') := fun w E => Vq HU0.out e1 hs w E
  clear e1 hu0 hs hs0 hM hB E hb0
  go_enter Tryz.func57, Tryz.ntmps57
  go_upto_region 1 with (fail)
  generalize gI : World.alloc _ _ = v1
  have hxa : B3 29 v1 (w.heap.size) (.string (strOf M.ty)) (.string (strOf M.sub)) (.slice A M.ps.length c) := by rw [← gI]; exact heap_alloc_new _ _
  have hb : Below w.heap.size w v1 := by rw [← gI]; exact (Below.refl _ _).alloc (Nat.le_refl _) _
  have XM := hid hxa
  clear gI hxa
  have HB1 := hid hb
  have JU := hid (HE.out.below hb)
  have ace := hid (HMP.out.below hb)
  have aeO := hid (HRB.out.below hb)
  clear hb
  go_wp2_with fail
  refine (HP1.out _ JU.out).mono ?_
  rintro e w2 ⟨A1, n1, c1, rfl, hpt, hb⟩
  have HB2 := hid (bel HB1.out hb)
  have TN := hid (JU.out.below hb)
  have aa2 := hid (ace.out.below hb)
  have aey := hid (aeO.out.below hb)
  have aa3 := hid (XM.out.below hb)
  clear hb
  have T1 := hid (hpt)
  clear hpt
  go_upto_region 2 with (fail)
  generalize gI : World.alloc _ _ = v3
  have hxa : UB v3 (w2.heap.size) u (.slice A1 n1 c1) := by rw [← gI]; exact heap_alloc_new _ _
  have hb : Below w2.heap.size w2 v3 := by rw [← gI]; exact (Below.refl _ _).alloc (Nat.le_refl _) _
  have X1 := hid hxa
  clear gI hxa
  have HB3 := hid (bel HB2.out hb)
  have MW := hid (TN.out.below hb)
  have aaG := hid (aa2.out.below hb)
  have aeP := hid (aey.out.below hb)
  have aaH := hid (aa3.out.below hb)
  have Yq := hid (T1.out.below hb)
  clear hb
  go_wp2
  go_ret
  exact ⟨aB (by rw [HV.out]), HB3.out⟩
 | some u =>
  have HP1 : Hid (∀ w, Env w → Calls Tryz.prog 16 #[.string s, .pointer none] w fun e w' => ∃ A' n' c', e = .returned (.tuple #[.agg #[.string (strOf u.aj), .string (strOf u.usr), .string (strOf u.dR), .string (strOf u.hst), .bool u.hh, .int .i64 u.port, .bool u.opq, .string (strOf u.txt), .slice A' n' c', .bool u.hq, .bool u.hf, .string (strOf u.eF), .string (strOf u.fG)], .int .i64 0]) ∧ Pt w' u A' n' c' ∧ Below w.heap.size w w') := fun w E => I4 e1 hs w E
  have hfit := xY.XY (M := 0) e1 (fun _ e => by cases e)
  have HFI : Hid (∀ (w : World) (A : Option Addr) (n c : Nat), Pt w u A n c → Sh u n c ∧ Rs w A n u.aN) := fun w A n c h => ⟨ab5 hfit (by rw [rC.dl]; omega) h, ⟨h.aN.1⟩⟩
  obtain ⟨N, C, hNC⟩ : ∃ N C, tH u = (N, C) := ⟨_, _, rfl⟩
  obtain ⟨er, her⟩ : ∃ x, x = AY u := ⟨_, rfl⟩
  have J3 : Hid (∀ (A : Option Addr) (n c : Nat), Sh u n c → ∀ w : World, Rs w A n u.aN → Env w → Calls Tryz.prog 13 #[.agg #[.string (strOf u.aj), .string (strOf u.usr), .string (strOf u.dR), .string (strOf u.hst), .bool u.hh, .int .i64 u.port, .bool u.opq, .string (strOf u.txt), .slice A n c, .bool u.hq, .bool u.hf, .string (strOf u.eF), .string (strOf u.fG)]] w fun e w' => (∃ A1 c1 A2 c2, e = .returned (.tuple #[.agg #[.string (strOf N.ty), .string (strOf N.sub), .slice A1 N.ps.length c1], .slice A2 C.length c2, .int .i64 er]) ∧ Mp w' N A1 c1 ∧ Bp w' C A2 c2) ∧ Below w.heap.size w w') := fun A n c hS w hR E => by
   have k := qA hS w hR E
   rw [hNC, ← her] at k
   exact k
  obtain ⟨b1, hb1⟩ : ∃ b, b = same2 N M := ⟨_, rfl⟩
  obtain ⟨b2, hb2⟩ : ∃ b, b = decide (C = B) := ⟨_, rfl⟩
  have Ug : Hid (∀ (A3 : Option Addr) (c3 : Nat) (w : World), Mp w N A3 c3 → Mp w M A c → Calls Tryz.prog 18 #[.agg #[.string (strOf N.ty), .string (strOf N.sub), .slice A3 N.ps.length c3], .agg #[.string (strOf M.ty), .string (strOf M.sub), .slice A M.ps.length c]] w fun e w' => e = .returned (.bool b1) ∧ Below w.heap.size w w') := fun A3 c3 w h k => by
   rw [hb1]
   exact Nk.SI (strOf N.ty) (strOf N.sub) A3 N.ps.length c3 (mF N.ps) (strOf M.ty) (strOf M.sub) A M.ps.length c (mF M.ps) w h.prm k.prm h.nc h.cm k.nc k.cm
  have HEQ : Hid (∀ (A3 : Option Addr) (c3 : Nat) (w : World), Bp w C A3 c3 → dS w A2 n2 (ak B) → Calls Tryz.prog 112 #[.slice A3 C.length c3, .slice A2 n2 c2] w fun e w' => e = .returned (.bool b2) ∧ w = w') := fun A3 c3 w h k => by
   rw [hb2]
   exact YL A3 C.length c3 C A2 n2 c2 B w h.OW k
  have HV : Hid (b = (decide (er = 0) && (b1 && b2))) := by show _ = _; rw [hb0]; unfold Af; rw [e1]; simp only; rw [hNC, ← her, hb1, hb2]
  have hfit2 := hfit
  clear e1 hs hs0 hM hB E hb0 hfit hfit2 hNC her hb1 hb2
  go_enter Tryz.func57, Tryz.ntmps57
  go_upto_region 1 with (fail)
  generalize gI : World.alloc _ _ = v1
  have hxa : B3 29 v1 (w.heap.size) (.string (strOf M.ty)) (.string (strOf M.sub)) (.slice A M.ps.length c) := by rw [← gI]; exact heap_alloc_new _ _
  have hb : Below w.heap.size w v1 := by rw [← gI]; exact (Below.refl _ _).alloc (Nat.le_refl _) _
  have XM := hid hxa
  clear gI hxa
  have HB1 := hid hb
  have JU := hid (HE.out.below hb)
  have ace := hid (HMP.out.below hb)
  have aeO := hid (HRB.out.below hb)
  clear hb
  go_wp2_with fail
  refine (HP1.out _ JU.out).mono ?_
  rintro e w2 ⟨A1, n1, c1, rfl, hpt, hb⟩
  have HB2 := hid (bel HB1.out hb)
  have TN := hid (JU.out.below hb)
  have aa2 := hid (ace.out.below hb)
  have aey := hid (aeO.out.below hb)
  have aa3 := hid (XM.out.below hb)
  clear hb
  have T1 := hid (hpt)
  clear hpt
  go_upto_region 2 with (fail)
  generalize gI : World.alloc _ _ = v3
  have hxa : UB v3 (w2.heap.size) u (.slice A1 n1 c1) := by rw [← gI]; exact heap_alloc_new _ _
  have hb : Below w2.heap.size w2 v3 := by rw [← gI]; exact (Below.refl _ _).alloc (Nat.le_refl _) _
  have X1 := hid hxa
  clear gI hxa
  have HB3 := hid (bel HB2.out hb)
  have MW := hid (TN.out.below hb)
  have aaG := hid (aa2.out.below hb)
  have aeP := hid (aey.out.below hb)
  have aaH := hid (aa3.out.below hb)
  have Yq := hid (T1.out.below hb)
  clear hb
  obtain ⟨hS, hR⟩ := HFI.out _ _ _ _ Yq.out
  have HSa := hid hS
  have HRa := hid hR
  clear hS hR
  obtain ⟨k0, k1, k2, k3, k4, k5, k6, k7, k8, k9, k10, k11, k12⟩ := X1.out.facts
  go_wp2_with fail
  clear k0 k1 k2 k3 k4 k5 k6 k7 k8 k9 k10 k11 k12
  refine (J3.out _ _ _ HSa.out _ HRa.out MW.out).mono ?_
  rintro e w4 ⟨⟨A3, c3, A4, c4, rfl, hmp, hbp⟩, hb⟩
  have HB4 := hid (bel HB3.out hb)
  have Ya := hid (MW.out.below hb)
  have aee := hid (aaG.out.below hb)
  have RB_4 := hid (aeP.out.below hb)
  have aaT := hid (aaH.out.below hb)
  have aaY := hid (Yq.out.below hb)
  have aa0 := hid (X1.out.below hb)
  clear hb
  clear HSa HRa
  have M3 := hid (hmp)
  have B4 := hid (hbp)
  clear hmp hbp
  go_upto_region 5 with (fail)
  generalize gI : World.alloc _ _ = v5
  have hxa : B3 29 v5 (w4.heap.size) (.string (strOf N.ty)) (.string (strOf N.sub)) (.slice A3 N.ps.length c3) := by rw [← gI]; exact heap_alloc_new _ _
  have hb : Below w4.heap.size w4 v5 := by rw [← gI]; exact (Below.refl _ _).alloc (Nat.le_refl _) _
  have Y3 := hid hxa
  clear gI hxa
  have mO := hid (bel HB4.out hb)
  have E_5 := hid (Ya.out.below hb)
  have MP_5 := hid (aee.out.below hb)
  have RB_5 := hid (RB_4.out.below hb)
  have aeQ := hid (aaT.out.below hb)
  have T1_5 := hid (aaY.out.below hb)
  have X1_5 := hid (aa0.out.below hb)
  have M3_5 := hid (M3.out.below hb)
  have B4_5 := hid (B4.out.below hb)
  clear hb
  by_cases he : er = 0
  ·
   subst he
   obtain ⟨m0, m1, m2⟩ := Y3.out.facts
   obtain ⟨n0, n1, n2'⟩ := aeQ.out.facts
   go_wp2_with fail
   clear m0 m1 m2 n0 n1 n2'
   refine (Ug.out _ _ _ M3_5.out MP_5.out).mono ?_
   rintro e wz ⟨rfl, hb⟩
   have sW := hid (bel mO.out hb)
   have E_6 := hid (E_5.out.below hb)
   have MP_6 := hid (MP_5.out.below hb)
   have RB_6 := hid (RB_5.out.below hb)
   have XM_6 := hid (aeQ.out.below hb)
   have T1_6 := hid (T1_5.out.below hb)
   have X1_6 := hid (X1_5.out.below hb)
   have M3_6 := hid (M3_5.out.below hb)
   have B4_6 := hid (B4_5.out.below hb)
   have Y3_6 := hid (Y3.out.below hb)
   clear hb
   cases b1 with
   | false =>
    have HF : Hid (b = false) := by show _ = _; rw [HV.out]; rfl
    go_wp2
    go_ret
    exact ⟨aB (by rw [HF.out]), sW.out⟩
   | true =>
    have HF : Hid (b = b2) := by show _ = _; rw [HV.out]; rfl
    go_wp2_with fail
    refine (HEQ.out _ _ _ B4_6.out RB_6.out).mono ?_
    rintro e wy ⟨rfl, hwy⟩
    subst hwy
    go_wp2
    go_ret
    exact ⟨aB (by rw [HF.out]), sW.out⟩
  ·
   have hen : (er == 0) = false := by rw [beq_eq_false_iff_ne]; exact he
   have HF : Hid (b = false) := by show _ = _; rw [HV.out, decide_eq_false he]; rfl
   go_wp2
   go_ret
   exact ⟨aB (by rw [HF.out]), mO.out⟩
end Go.Proofs.YtcfgioklgmlclaaGreatDoor.aeI
namespace Go.Proofs.YtcfgioklgmlclaaGreatDoor.BuiD
open Go.RowKit Base aP fE aH tZ Uo Ulw uq qL lJ MV rC X7 Nk Qv kX Fh J8 aas aaE acg xu Um aam Ul aeI
open Go.Proofs.YtcfgioklgmlclaaGreatDoor.dD (Dp)
theorem acA (ps : PL) : vM (mF ps) = ps := by
 unfold vM mF
 rw [List.map_map]
 conv => rhs; rw [← List.map_id ps]
 exact List.map_congr_left fun p _ => rfl
theorem psS_P (l : List (ByteArray × ByteArray)) : mF (vM l) = l := by
 unfold vM mF
 rw [List.map_map]
 conv => rhs; rw [← List.map_id l]
 exact List.map_congr_left fun p _ => by
  show (strOf p.1.data.toList, strOf p.2.data.toList) = p
  rw [ay, ay]
def mk (letters : Bool) (M : MT) (B : List UInt8) : List UInt8 := made letters M.ty M.sub M.ps B
def bld (letters : Bool) (M : MT) (B : List UInt8) : List UInt8 × Int :=
 if gy M.ty M.sub M.ps = true then (if 65536 < B.length then ([], 3) else if 65536 < (mk letters M B).length then ([], 3) else if Af (mk letters M B) M B = true then (mk letters M B, 0) else ([], 2)) else ([], 1)
theorem aak (letters : Bool) (M : MT) (A : Option Addr) (c : Nat) (A2 : Option Addr) (n2 c2 : Nat) (B : List UInt8) (w : World) (hM : Mp w M A c) (hB : dS w A2 n2 (ak B)) (hc2 : n2 ≤ c2) (hn2 : n2 ≤ 10000000) (E : Env w)
  (hP : ∀ w' : World, Mp w' M A c → Calls Tryz.prog 109 #[.agg #[.string (strOf M.ty), .string (strOf M.sub), .slice A M.ps.length c]] w' fun e w'' => e = .returned (.string (strOf (dX M.ty M.sub M.ps))) ∧ Below w'.heap.size w' w'') (hPl : (dX M.ty M.sub M.ps).length ≤ 10000000)
  (hF : MidB (strOf M.ty) (strOf M.sub) (mF M.ps)) (hsz : (mk letters M B).length ≤ 26000 ∨ 65536 < (mk letters M B).length) :
  Calls Tryz.prog 25 #[.agg #[.string (strOf M.ty), .string (strOf M.sub), .slice A M.ps.length c], .slice A2 n2 c2, .bool letters] w fun e w' => e = .returned (.tuple #[.string (strOf (bld letters M B).1), .int .i64 (bld letters M B).2]) ∧ Below w.heap.size w w' := by
 have HE := hid E
 have HMP := hid hM
 have HRB := hid hB
 have hbl : B.length = n2 := by rw [← bF]; exact hB.1
 obtain ⟨r, hr⟩ : ∃ r, r = gy M.ty M.sub M.ps := ⟨_, rfl⟩
 have HRI : Hid (∀ w : World, Mp w M A c → Calls Tryz.prog 55 #[.agg #[.string (strOf M.ty), .string (strOf M.sub), .slice A M.ps.length c]] w fun e w' => e = .returned (.bool r) ∧ Below w.heap.size w w') := fun w h => by
  have k := EM (strOf M.ty) (strOf M.sub) A M.ps.length c (mF M.ps) w h.prm h.nc h.cm hF
  rw [acA] at k
  rw [hr]
  exact k
 obtain ⟨S, hS⟩ : ∃ S, S = strOf (mk letters M B) := ⟨_, rfl⟩
 have HWR : Hid (∀ w : World, Mp w M A c → dS w A2 n2 (ak B) → Calls Tryz.prog 56 #[.agg #[.string (strOf M.ty), .string (strOf M.sub), .slice A M.ps.length c], .slice A2 n2 c2, .bool letters] w fun e w' => e = .returned (.string S) ∧ Below w.heap.size w w') := fun w h k => by
  rw [hS]
  exact BuiB.zn letters (strOf M.ty) (strOf M.sub) A M.ps.length c A2 n2 c2 B (dX M.ty M.sub M.ps) w (fun w' hb => hP w' (h.below hb)) hPl k hc2 hn2
 obtain ⟨b, hb0⟩ : ∃ b, b = Af (mk letters M B) M B := ⟨_, rfl⟩
 have hSd : S.data.toList = mk letters M B := by rw [hS]; rfl
 have hSs : S.size = (mk letters M B).length := by rw [hS, ah]
 have HSY : Hid (S.size ≤ 65536 → ∀ w : World, Mp w M A c → dS w A2 n2 (ak B) → Env w → Calls Tryz.prog 57 #[.string S, .agg #[.string (strOf M.ty), .string (strOf M.sub), .slice A M.ps.length c], .slice A2 n2 c2] w fun e w' => e = .returned (.bool b) ∧ Below w.heap.size w w') := fun hs w h k E => by
  rw [hb0, ← hSd]
  exact ae2 S M A c A2 n2 c2 B w (by omega) h k E
 obtain ⟨R, e, hRe⟩ : ∃ R e, bld letters M B = (R, e) := ⟨_, _, rfl⟩
 have HV : Hid ((R, e) = (if r = true then (if 65536 < n2 then (([] : List UInt8), (3 : Int)) else if 65536 < S.size then ([], 3) else if b = true then (S.data.toList, 0) else ([], 2)) else ([], 1))) := by
  show _ = _
  rw [← hRe]
  unfold bld
  rw [← hr, hbl, ← hSs, ← hb0, hSd]
 rw [hRe]
 show Calls _ _ _ _ fun e' w' => e' = .returned (.tuple #[.string (strOf R), .int .i64 e]) ∧ _
 have hSS : S = strOf S.data.toList := (ay S).symm
 have FU := hid hSS
 clear hM hB hc2 hn2 E hP hPl hF hsz hbl hr hS hb0 hSd hSs hRe hSS
 go_enter Tryz.func25, Tryz.ntmps25
 go_upto_region 1 with (fail)
 generalize gI : World.alloc _ _ = v1
 have hxa : B3 29 v1 (w.heap.size) (.string (strOf M.ty)) (.string (strOf M.sub)) (.slice A M.ps.length c) := by rw [← gI]; exact heap_alloc_new _ _
 have hb : Below w.heap.size w v1 := by rw [← gI]; exact (Below.refl _ _).alloc (Nat.le_refl _) _
 have XM := hid hxa
 clear gI hxa
 have HB1 := hid hb
 have JU := hid (HE.out.below hb)
 have ace := hid (HMP.out.below hb)
 have aeO := hid (HRB.out.below hb)
 clear hb
 obtain ⟨m0, m1, m2⟩ := XM.out.facts
 go_wp2_with fail
 clear m0 m1 m2
 refine (HRI.out _ ace.out).mono ?_
 rintro e w2 ⟨rfl, hb⟩
 have HB2 := hid (bel HB1.out hb)
 have TN := hid (JU.out.below hb)
 have aa2 := hid (ace.out.below hb)
 have aey := hid (aeO.out.below hb)
 have aa3 := hid (XM.out.below hb)
 clear hb
 cases r with
 | false =>
  have hv : (R, e) = ([], 1) := by rw [HV.out]; simp
  injection hv with hv1 hv2
  subst hv1 hv2
  go_wp2
  go_ret2
  first | exact ⟨rfl, HB2.out⟩ | exact ⟨by rw [← FU.out], HB2.out⟩
 | true =>
  by_cases hn : 65536 < n2
  ·
   have hni : (65536 : Int) < (n2 : Int) := by omega
   have hv : (R, e) = ([], 3) := by rw [HV.out]; simp [hn]
   injection hv with hv1 hv2
   subst hv1 hv2
   go_wp2
   go_ret2
   first | exact ⟨rfl, HB2.out⟩ | exact ⟨by rw [← FU.out], HB2.out⟩
  ·
   have hni : ¬ (65536 : Int) < (n2 : Int) := by omega
   obtain ⟨m0, m1, m2⟩ := aa3.out.facts
   go_wp2_with fail
   clear m0 m1 m2
   refine (HWR.out _ aa2.out aey.out).mono ?_
   rintro e w3 ⟨rfl, hb⟩
   have HB3 := hid (bel HB2.out hb)
   have MW := hid (TN.out.below hb)
   have aaG := hid (aa2.out.below hb)
   have aeP := hid (aey.out.below hb)
   have aaH := hid (aa3.out.below hb)
   clear hb
   by_cases hs : 65536 < S.size
   ·
    have hsi : (65536 : Int) < (S.size : Int) := by omega
    have hv : (R, e) = ([], 3) := by rw [HV.out]; simp [hn, hs]
    injection hv with hv1 hv2
    subst hv1 hv2
    go_wp2
    go_ret2
    first | exact ⟨rfl, HB3.out⟩ | exact ⟨by rw [← FU.out], HB3.out⟩
   ·
    have hsi : ¬ (65536 : Int) < (S.size : Int) := by omega
    have JW := hid (HSY.out (by omega))
    obtain ⟨m0, m1, m2⟩ := aaH.out.facts
    go_wp2_with fail
    clear m0 m1 m2
    refine (JW.out _ aaG.out aeP.out MW.out).mono ?_
    rintro e w4 ⟨rfl, hb⟩
    have HB4 := hid (bel HB3.out hb)
    have Ya := hid (MW.out.below hb)
    have aee := hid (aaG.out.below hb)
    have RB_4 := hid (aeP.out.below hb)
    have aaT := hid (aaH.out.below hb)
    clear hb
    cases b with
    | false =>
     have hv : (R, e) = ([], 2) := by rw [HV.out]; simp [hn, hs]
     injection hv with hv1 hv2
     subst hv1 hv2
     go_wp2
     go_ret2
     first | exact ⟨rfl, HB4.out⟩ | exact ⟨by rw [← FU.out], HB4.out⟩
    | true =>
     have hv : (R, e) = (S.data.toList, 0) := by rw [HV.out]; simp [hn, hs]
     injection hv with hv1 hv2
     subst hv1 hv2
     go_wp2
     go_ret2
     first | exact ⟨rfl, HB4.out⟩ | exact ⟨by rw [← FU.out], HB4.out⟩
end Go.Proofs.YtcfgioklgmlclaaGreatDoor.BuiD
namespace Go.Proofs.YtcfgioklgmlclaaGreatDoor.aeJ
open Go.RowKit Base aP fE aH tZ Uo Ulw uq qL lJ MV rC X7 Nk Qv kX Fh J8 aas aaE xu Um acg aam Ul aeI BuiD
open Go.Proofs.YtcfgioklgmlclaaGreatDoor.dD (Dp)
theorem bare_uM (R : List UInt8) : lU (uM R) = xO ++ R := by
 rw [CS]
 show DATA ++ [58] ++ Kw (uM R) ++ R ++ [] = _
 rw [show Kw (uM R) = [] from rfl]
 simp [DATA, xO]
theorem rest_uM (R : List UInt8) : wZ (uM R) = R := by
 have h := ZE (u := uM R) rfl
 rw [bare_uM] at h
 exact (List.append_cancel_left h).symm
theorem SN {R B : List UInt8} {M : MT} (h : proc R = some (M, B)) : tH (uM R) = (M, B) ∧ AY (uM R) = 0 := by
 have hs : (uM R).aj = DATA := rfl
 unfold tH AY ans err
 rw [rest_uM, h, if_pos hs, if_pos hs]
 exact ⟨rfl, rfl⟩
theorem aer (M : MT) : same2 M M = true := Qv.EN _ _ _
theorem aeA (letters : Bool) {M : MT} (B : List UInt8) (h : BD M.ty M.sub M.ps = true) : Af (mk letters M B) M B = true := by
 have h1 := acI letters B h
 obtain ⟨h2, h3⟩ := SN (M := ⟨M.ty, M.sub, M.ps⟩) (aez letters B h)
 unfold Af mk
 rw [h1]
 simp only
 rw [h2, h3]
 have h4 : same2 M M = true := aer M
 simpa using h4
theorem aaj {M : MT} (hF : aar (strOf M.ty) (strOf M.sub) (mF M.ps)) {A : Option Addr} {c : Nat} (w : World) (h : Mp w M A c) : Calls Tryz.prog 109 #[.agg #[.string (strOf M.ty), .string (strOf M.sub), .slice A M.ps.length c]] w fun e w' => e = .returned (.string (strOf (dX M.ty M.sub M.ps))) ∧ Below w.heap.size w w' := by
 have k := acg.print_any (strOf M.ty) (strOf M.sub) A M.ps.length c (mF M.ps) w h.prm h.nc h.cm hF
 rw [acA] at k
 exact k
def TP : MT := ⟨[116, 101, 120, 116], [112, 108, 97, 105, 110], []⟩
def AB : MT := ⟨[97], [98], []⟩
theorem ae5 : aar (strOf TP.ty) (strOf TP.sub) (mF TP.ps) := ⟨by decide, by decide, by intro p hp; cases hp⟩
theorem ab8 : aar (strOf AB.ty) (strOf AB.sub) (mF AB.ps) := ⟨by decide, by decide, by intro p hp; cases hp⟩
theorem aep (w : World) (ty sub : List UInt8) : Mp w ⟨ty, sub, []⟩ none 0 := ⟨Nat.le_refl _, by decide, rfl, fun j hj => by cases hj⟩
theorem tp_bld : bld false TP [97, 32, 98] = ([100, 97, 116, 97, 58, 116, 101, 120, 116, 47, 112, 108, 97, 105, 110, 44, 97, 37, 50, 48, 98], 0) := by
 have h := aeA false (M := TP) [97, 32, 98] (by decide)
 have e : mk false TP [97, 32, 98] = [100, 97, 116, 97, 58, 116, 101, 120, 116, 47, 112, 108, 97, 105, 110, 44, 97, 37, 50, 48, 98] := by decide +kernel
 unfold bld
 rw [h, e]
 rfl
theorem ae4 (A2 : Option Addr) (c2 : Nat) (w : World) (hB : dS w A2 3 (ak [97, 32, 98])) (hc : 3 ≤ c2) (E : Env w) : Calls Tryz.prog 25 #[.agg #[.string ⟨#[116, 101, 120, 116]⟩, .string ⟨#[112, 108, 97, 105, 110]⟩, .slice none 0 0], .slice A2 3 c2, .bool false] w fun e w' => e = .returned (.tuple #[.string ⟨#[100, 97, 116, 97, 58, 116, 101, 120, 116, 47, 112, 108, 97, 105, 110, 44, 97, 37, 50, 48, 98]⟩, .int .i64 0]) ∧ Below w.heap.size w w' := by
 have k := aak false TP none 0 A2 3 c2 [97, 32, 98] w (aep w _ _) hB hc (by decide) E (fun w' h => aaj ae5 w' h) (by decide) (aam.aar.mid ae5) (.inl (by decide +kernel))
 rw [tp_bld] at k
 exact k
theorem ae0 (w : World) : Calls Tryz.prog 26 #[.agg #[.string ⟨#[97]⟩, .string ⟨#[98]⟩, .slice none 0 0]] w fun e w' => e = .returned (.bool true) ∧ Below w.heap.size w w' := by
 have HRI : Hid (∀ w : World, Calls Tryz.prog 55 #[.agg #[.string ⟨#[97]⟩, .string ⟨#[98]⟩, .slice none 0 0]] w fun e w' => e = .returned (.bool true) ∧ Below w.heap.size w w') := fun w => EM ⟨#[97]⟩ ⟨#[98]⟩ none 0 0 [] w ⟨rfl, fun j hj => by cases hj⟩ (Nat.le_refl _) (by decide) (aam.aar.mid ab8)
 have HES : Hid (∀ w : World, Calls Tryz.prog 27 #[.agg #[.string ⟨#[97]⟩, .string ⟨#[98]⟩, .slice none 0 0]] w fun e w' => e = .returned (.string ⟨#[97, 47, 98]⟩) ∧ Below w.heap.size w w') := fun w => Um.FC ⟨#[97]⟩ ⟨#[98]⟩ (.slice none 0 0) w (by decide) (by decide)
 have HCO : Hid (∀ w : World, Calls Tryz.prog 58 #[.string ⟨#[97, 47, 98]⟩, .string ⟨#[35]⟩] w fun e w' => e = .returned (.bool false) ∧ w = w') := fun w => by
  refine (Tryz.strings_Contains_one ⟨#[97, 47, 98]⟩ 35 w).mono ?_
  rintro e w' ⟨rfl, rfl⟩
  exact ⟨rfl, rfl⟩
 go_enter Tryz.func26, Tryz.ntmps26
 go_upto_region 1 with (fail)
 generalize hw1 : w.alloc _ = w1
 have HB1 : Hid (Below w.heap.size w w1) := by show Below _ _ _; rw [← hw1]; exact (Below.refl _ _).alloc (Nat.le_refl _) _
 have hx1 : B3 29 w1 w.heap.size (.string ⟨#[97]⟩) (.string ⟨#[98]⟩) (.slice none 0 0) := by
  rw [← hw1]
  exact heap_alloc_new w _
 have jr := hid hx1
 obtain ⟨c0, c1, c2⟩ := hx1.facts
 clear hw1 hx1
 go_wp2_with fail
 clear c0 c1 c2
 refine (HRI.out _).mono ?_
 rintro e w2 ⟨rfl, hb2⟩
 have HB2 := hid (bel HB1.out hb2)
 have iG := hid (jr.out.below hb2)
 clear hb2 jr
 obtain ⟨c0, c1, c2⟩ := iG.out.facts
 go_wp2_with fail
 clear c0 c1 c2
 refine (HES.out _).mono ?_
 rintro e w3 ⟨rfl, hb3⟩
 have HB3 := hid (bel HB2.out hb3)
 have jd := hid (iG.out.below hb3)
 clear hb3 iG
 go_wp2_with fail
 refine (HCO.out _).mono ?_
 rintro e wx ⟨rfl, hwx⟩
 obtain rfl : w3 = wx := hwx
 obtain ⟨c0, c1, c2⟩ := jd.out.facts
 go_wp2
 go_loopw [4, 16] (fun _ vk wr => vk = .int .i64 0 ∧ Below w.heap.size w wr) (fun _ _ _ => 0)
 case atStart => exact ⟨rfl, HB3.out⟩
 case round =>
  obtain ⟨rfl, hbl⟩ := hrel
  go_wp2
  go_ret
  exact ⟨rfl, hbl⟩
theorem Ep (w : World) (hE : Env w) : Calls Tryz.prog 22 #[] w fun e w' => e = .returned (.bool true) ∧ Below w.heap.size w w' := by
 obtain ⟨OS, hOS⟩ : ∃ S : ByteArray, S = ⟨#[100, 97, 116, 97, 58, 116, 101, 120, 116, 47, 112, 108, 97, 105, 110, 44, 97, 37, 50, 48, 98]⟩ := ⟨_, rfl⟩
 have HBD : Hid (∀ (A2 : Option Addr) (c2 : Nat) (w : World), dS w A2 3 (ak [97, 32, 98]) → 3 ≤ c2 → Env w → Calls Tryz.prog 25 #[.agg #[.string ⟨#[116, 101, 120, 116]⟩, .string ⟨#[112, 108, 97, 105, 110]⟩, .slice none 0 0], .slice A2 3 c2, .bool false] w fun e w' => e = .returned (.tuple #[.string OS, .int .i64 0]) ∧ Below w.heap.size w w') := fun A2 c2 w h k E => by rw [hOS]; exact ae4 A2 c2 w h k E
 have JV : Hid (∀ w : World, Calls Tryz.prog 26 #[.agg #[.string ⟨#[97]⟩, .string ⟨#[98]⟩, .slice none 0 0]] w fun e w' => e = .returned (.bool true) ∧ Below w.heap.size w w') := ae0
 have hO : OS.toList = [100, 97, 116, 97, 58, 116, 101, 120, 116, 47, 112, 108, 97, 105, 110, 44, 97, 37, 50, 48, 98] := by rw [hOS, Lib.toList_data]
 have HE := hid hE
 have hO2 : (OS.toList == [100, 97, 116, 97, 58, 116, 101, 120, 116, 47, 112, 108, 97, 105, 110, 44, 97, 37, 50, 48, 98]) = true := by rw [hO]; rfl
 clear hOS hE
 have kc := fun (w : World) (C : Array Value) (n c : Nat) => Lib.run_convert_bytes_const (P := Tryz.prog) w 30 5 C n c Tryz.underlying30 Tryz.underlying5
 go_enter Tryz.func22, Tryz.ntmps22
 go_wp2_with fail
 have hb := (Below.refl w.heap.size w).alloc (Nat.le_refl _) (.cells (ak [97, 32, 98]).toArray 5 (3, 4))
 clear kc
 refine (HBD.out _ 3 _ (vg w [97, 32, 98] 5 (3, 4)) (Nat.le_refl _) (HE.out.below hb)).mono ?_
 rintro e w2 ⟨rfl, hb2⟩
 have HB2 := hid (bel hb hb2)
 clear hb2
 go_wp2_with fail
 refine (JV.out _).mono ?_
 rintro e w3 ⟨rfl, hb3⟩
 have HB3 := hid (bel HB2.out hb3)
 clear hb3
 go_wp2
 go_ret
 exact ⟨rfl, HB3.out⟩
end Go.Proofs.YtcfgioklgmlclaaGreatDoor.aeJ
