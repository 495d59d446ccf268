/- Texts that belong together: Law18a. -/
import Derived.Test.YtcfgioklgmlclaaGreatDoorPM
import Derived.Test.YtcfgioklgmlclaaGreatDoorPI
set_option linter.unusedSimpArgs false
set_option linter.unusedVariables false
set_option maxRecDepth 100000
set_option maxHeartbeats 64000000
namespace Go.Proofs.YtcfgioklgmlclaaGreatDoor.Laws
open Go.RowKit Base aP fE aH tZ Uo Ulw uq qL lJ MV rC X7 Nk Qv kX Fh J8 aas aaE xu Um aam Ul aeI BuiD B64F
open Go.Proofs.YtcfgioklgmlclaaGreatDoor.dD (Dp)
open Go.Proofs.YtcfgioklgmlclaaGreatDoor.aeJ (AB ab8 aep aaj)
theorem aex (letters : Bool) (L : List UInt8) (h : 65536 ≤ L.length) : 65536 < (mk letters AB L).length := by
 unfold mk made Ag Ti
 cases letters with
 | true =>
  rw [if_pos rfl, List.length_append, List.length_append, List.length_append, List.length_cons, aad.aal]
  omega
 | false =>
  rw [if_neg (by decide), List.length_append, List.length_append, List.length_cons]
  have := aeH.escd_ge L
  omega
theorem aeZ (letters : Bool) (L : List UInt8) (h : 65536 ≤ L.length) : bld letters AB L = ([], 3) := by
 unfold bld
 rw [if_pos (show gy AB.ty AB.sub AB.ps = true by decide)]
 by_cases hb : 65536 < L.length
 ·rw [if_pos hb]
 ·rw [if_neg hb, if_pos (aex letters L h)]
theorem aej (letters : Bool) (A2 : Option Addr) (n c2 : Nat) (L : List UInt8) (w : World) (hR : dS w A2 n (ak L)) (hc : n ≤ c2) (hn : 65536 ≤ n) (hn2 : n ≤ 70000) (E : Env w) : Calls Tryz.prog 25 #[.agg #[.string ⟨#[97]⟩, .string ⟨#[98]⟩, .slice none 0 0], .slice A2 n c2, .bool letters] w fun e w' => e = .returned (.tuple #[.string ⟨#[]⟩, .int .i64 3]) ∧ Below w.heap.size w w' := by
 have hl : 65536 ≤ L.length := by have := hR.1; rw [bF] at this; omega
 have k := aak letters AB none 0 A2 n c2 L w (aep w _ _) hR hc (by omega) E (fun w' h => aaj ab8 w' h) (by decide) (aam.aar.mid ab8) (.inr (aex letters L hl))
 rw [aeZ letters L hl] at k
 exact k
theorem aaB (z1 z2 : Int) (w : World) (h1 : 0 ≤ z1 ∧ z1 ≤ 255) (h2 : 0 ≤ z2 ∧ z2 ≤ 255) (hT : Tab.Pow w) (hL : pR w) (hM : Max w) (hU : uw w) :
  Calls Tryz.prog 9 #[.int .u8 z1, .int .u8 z2] w fun e w' => e = .returned (.bool true) ∧ Below w.heap.size w w' := by
 have HE := hid (⟨hT, hL, hM, hU⟩ : Env w)
 have Ws : Hid (∀ w : World, Env w → Calls Tryz.prog 22 #[] w fun e w' => e = .returned (.bool true) ∧ Below w.heap.size w w') := fun w E => aeJ.Ep w E
 obtain ⟨c, rfl⟩ : ∃ c : UInt8, z1 = (c.toNat : Int) := ⟨UInt8.ofNat z1.toNat, by simp; omega⟩
 obtain ⟨m, rfl⟩ : ∃ m : Nat, z2 = (m : Int) := ⟨z2.toNat, by omega⟩
 obtain ⟨n, hn⟩ : ∃ n, n = 65536 + m := ⟨_, rfl⟩
 have hni : (65536 : Int) + (m : Int) = (n : Int) := by omega
 have hn1 : 65536 ≤ n := by omega
 have hn2 : n ≤ 70000 := by omega
 have HBD : Hid (∀ (letters : Bool) (A2 : Option Addr) (L : List UInt8) (w : World), dS w A2 n (ak L) → Env w → Calls Tryz.prog 25 #[.agg #[.string ⟨#[97]⟩, .string ⟨#[98]⟩, .slice none 0 0], .slice A2 n n, .bool letters] w fun e w' => e = .returned (.tuple #[.string ⟨#[]⟩, .int .i64 3]) ∧ Below w.heap.size w w') := fun letters A2 L w h E => aej letters A2 n n L w h (Nat.le_refl _) hn1 hn2 E
 obtain ⟨i0, hi, hz0, hz1, hz2⟩ := info_parts jU
 clear hT hL hM hU h1 hn
 go_enter Tryz.func9, Tryz.ntmps9
 go_wp2_with fail
 refine (Ws.out _ HE.out).mono ?_
 rintro e w1 ⟨rfl, hb1⟩
 have HB1 := hid hb1
 have E1 := hid (HE.out.below hb1)
 clear hb1
 go_wp2_with (at_make; refine wpList_make_full _ rfl _ _ 30 rfl w1.heap.size 5 i0 (.int .u8 0) 1 Tryz.underlying30 hi hz0 hz1 .i64 .i64 _ _ n rfl rfl rfl rfl (by rw [hz2]; omega) (by unfold maxLen; omega) (Nat.le_refl _) ?_)
 intro w3 hown3 hg3
 have dK : Below w1.heap.size w1 w3 := (Below.refl _ _).grown hg3 (Nat.le_refl _) (by intro k h; cases h)
 clear hg3
 have hrow3 : mZ w3 w1.heap.size 5 (List.replicate n 0) := vF hown3 (uQ n)
 clear hown3
 generalize hgb : w1.heap.size = gb at hrow3 dK ⊢
 go_wp2
 go_loopw [6, 20] (fun _ vk wr => ∃ (j : Nat) (L : List UInt8), j ≤ n ∧ vk = .int .i64 (j : Int) ∧ L.length = n ∧ mZ wr gb 5 L ∧ Below gb w1 wr) (fun _ vk _ => n - (intOf vk).toNat)
 case atStart => exact ⟨0, List.replicate n 0, Nat.zero_le _, rfl, by simp, hrow3, dK⟩
 case round =>
  clear hrow3 dK
  obtain ⟨j, L, hj, rfl, hl, hrow, hbel⟩ := hrel
  by_cases hlt : j < n
  ·have hji : (j : Int) < (n : Int) := by omega
   obtain ⟨d, hcell⟩ : ∃ d : UInt8, wr.cell? ⟨gb, j, none⟩ = some (.int .u8 (d.toNat : Int)) := ⟨_, hrow.cell j (by omega)⟩
   have hfz := hrow.frozen j
   have HRW := hid hrow
   have iM := hid hbel
   have TI := hid hl
   clear hrow hbel hl
   go_wp2
   go_roundw
   case rel => exact ⟨j + 1, L.set j c, by omega, by go_num, by rw [List.length_set]; exact TI.out, HRW.out.set j c, iM.out.setCell (p := ⟨gb, j, none⟩) (Nat.le_refl _) _⟩
   case measure => simp [intOf]; omega
  ·obtain rfl : j = n := by omega
   have hrd : dS wr (some ⟨gb, 0, none⟩) j (ak L) := by have h := hrow.OW; rw [hl] at h; exact h
   have hbw : Below w1.heap.size w1 wr := by rw [hgb]; exact hbel
   have WB := hid hrd
   have HB2 := hid (bel HB1.out hbw)
   have E2 := hid (E1.out.below hbw)
   clear hrow hbel hrd hbw hl hlt hj
   go_upto_region 10 with (fail)
   generalize gI : World.alloc _ _ = v3
   have hxa : B3 29 v3 (wr.heap.size) (.string ⟨#[97]⟩) (.string ⟨#[98]⟩) (.slice none 0 0) := by rw [← gI]; exact heap_alloc_new _ _
   have hb : Below wr.heap.size wr v3 := by rw [← gI]; exact (Below.refl _ _).alloc (Nat.le_refl _) _
   have XM := hid hxa
   clear gI hxa
   have HB3 := hid (bel HB2.out hb)
   have MW := hid (E2.out.below hb)
   have aeh := hid (WB.out.below hb)
   clear hb
   obtain ⟨m0, m1, m2⟩ := XM.out.facts
   go_wp2_with fail
   clear m0 m1 m2
   refine (HBD.out true _ L _ aeh.out MW.out).mono ?_
   rintro e w4 ⟨rfl, hb⟩
   have HB4 := hid (bel HB3.out hb)
   have Ya := hid (MW.out.below hb)
   have aei := hid (aeh.out.below hb)
   have aaT := hid (XM.out.below hb)
   clear hb
   obtain ⟨m0, m1, m2⟩ := aaT.out.facts
   go_wp2_with fail
   clear m0 m1 m2
   refine (HBD.out false _ L _ aei.out Ya.out).mono ?_
   rintro e w5 ⟨rfl, hb⟩
   have mO := hid (bel HB4.out hb)
   have E_5 := hid (Ya.out.below hb)
   have RD_5 := hid (aei.out.below hb)
   have aeQ := hid (aaT.out.below hb)
   clear hb
   go_wp2
   go_ret
   exact ⟨rfl, mO.out⟩
end Go.Proofs.YtcfgioklgmlclaaGreatDoor.Laws
