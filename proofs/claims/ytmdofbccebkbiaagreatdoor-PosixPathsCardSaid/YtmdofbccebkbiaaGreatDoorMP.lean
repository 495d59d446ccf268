/- Texts that belong together: UrlE, UrlF, BldA, UrlB, UrlC, BldK, EscK. -/
import Derived.Test.YtmdofbccebkbiaaGreatDoorME
import Derived.BigQuiet
import Derived.Test.YtmdofbccebkbiaaGreatDoorMA
import Derived.Deep.DeepCutAuto
import Derived.Shelf.Strings.Builder1
import Derived.Test.YtmdofbccebkbiaaGreatDoorShelf
import Derived.Laws.OwnMore
set_option linter.unusedSimpArgs false
set_option linter.unusedVariables false
namespace Go.Proofs.YtmdofbccebkbiaaGreatDoor.UrlE
open Go.RowKit Base Base2 UrlP UrlA
theorem below_drewN' (w : World) (k : Nat) : Below w.heap.size w (w.drewN k) := Base.below_drewN (Below.refl _ _) k
theorem str_ext {s t : ByteArray} : s.data.toList = t.data.toList ↔ s = t := ⟨fun h => ext_str h, fun h => by rw [h]⟩
set_option maxHeartbeats 4000000 in
theorem equal_any (A A2 : Option Addr) (n n2 cap cap2 : Nat) (l m : List ByteArray) (w : World) (hR : Rds w A n (l.map Value.string)) (hR2 : Rds w A2 n2 (m.map Value.string)) (hc : n ≤ cap) (hm : cap ≤ maxLen) (hc2 : n2 ≤ cap2) (hm2 : cap2 ≤ maxLen) :
  Calls Tryz.prog 138 #[.slice A n cap, .slice A2 n2 cap2] w fun e w' => e = .returned (.bool (decide (l = m))) ∧ Below w.heap.size w w' := by
 unfold maxLen at hm hm2
 have hn : l.length = n := by rw [← hR.1, List.length_map]
 have hn2 : m.length = n2 := by rw [← hR2.1, List.length_map]
 have HN := hid hn
 have HN2 := hid hn2
 have HR := hid hR
 have HR2 := hid hR2
 clear hR hR2 hn hn2
 by_cases he : n = n2
 ·obtain rfl := he
  have q1 : ((n : Int) == (n : Int)) = true := by simp
  have q2 : ((n : Int) != (n : Int)) = false := by simp
  go_enter Tryz.func138, Tryz.ntmps138
  go_wp2
  go_loopw [5, 13] (fun _ vk wr => ∃ k : Nat, k ≤ n ∧ vk = .int .i64 (k : Int) ∧ Hid (l.take k = m.take k) ∧ Hid (Below w.heap.size w wr)) (fun _ vk _ => n - (intOf vk).toNat)
  case atStart => exact ⟨0, Nat.zero_le _, rfl, rfl, Below.refl _ _⟩
  case round =>
   obtain ⟨k, hk, rfl, HT, HBL⟩ := hrel
   by_cases hlt : k < n
   ·have hkl : k < l.length := by rw [HN.out]; exact hlt
    have hkm : k < m.length := by rw [HN2.out]; exact hlt
    obtain ⟨g, off, rfl, hg, hcell⟩ := (HR.out.below HBL.out).spot (by omega)
    obtain ⟨g2, off2, rfl, hg2, hcell2⟩ := (HR2.out.below HBL.out).spot (by omega)
    have hc1 := hcell k (by rw [List.length_map]; exact hkl)
    have hc3 := hcell2 k (by rw [List.length_map]; exact hkm)
    rw [List.getElem_map] at hc1 hc3
    obtain ⟨s, hs⟩ : ∃ s, s = l[k] := ⟨_, rfl⟩
    obtain ⟨t, ht⟩ : ∃ t, t = m[k] := ⟨_, rfl⟩
    have HS : Hid (l.take (k + 1) = l.take k ++ [s]) := by rw [hs]; exact take_snoc l k hkl
    have HS2 : Hid (m.take (k + 1) = m.take k ++ [t]) := by rw [ht]; exact take_snoc m k hkm
    have HX : Hid (s ≠ t → l ≠ m) := by
     intro h1 h2
     subst h2
     exact h1 (hs.trans ht.symm)
    rw [← hs] at hc1
    rw [← ht] at hc3
    clear hs ht hcell hcell2 hkl hkm
    have hb := beq_str s t
    by_cases hst : s.data.toList = t.data.toList
    ·rw [decide_eq_true hst] at hb
     have HST := hid (str_ext.1 hst)
     clear hst
     go_wp2_with fail
     go_quiet (fail)
     have hbq := HBL.out.trans ((below_drewN' wr nq).mono HBL.out.size)
     generalize wr.drewN nq = wq at hbq ⊢
     go_wp2
     go_roundw
     case rel => exact ⟨k + 1, by omega, by go_num, by show _ = _; rw [HS.out, HS2.out, HT.out, HST.out], hbq⟩
     case measure => simp [intOf]; omega
    ·rw [decide_eq_false hst] at hb
     have HE : Hid (decide (l = m) = false) := decide_eq_false (HX.out (fun h => hst (by rw [h])))
     clear hst
     go_wp2_with fail
     go_quiet (fail)
     have hbq := HBL.out.trans ((below_drewN' wr nq).mono HBL.out.size)
     generalize wr.drewN nq = wq at hbq ⊢
     go_wp2
     go_ret
     exact ⟨ret_bool HE.out.symm, hbq⟩
   ·obtain rfl : k = n := by omega
    have HE : Hid (decide (l = m) = true) := decide_eq_true (by
     have h := HT.out
     rw [List.take_of_length_le (by rw [HN.out]; exact Nat.le_refl _), List.take_of_length_le (by rw [HN2.out]; exact Nat.le_refl _)] at h
     exact h)
    go_wp2
    go_ret
    exact ⟨ret_bool HE.out.symm, HBL.out⟩
 ·have q1 : ((n : Int) == (n2 : Int)) = false := by simp; omega
  have q2 : ((n : Int) != (n2 : Int)) = true := by simp; omega
  have HE : Hid (decide (l = m) = false) := decide_eq_false (fun h => he (by rw [← HN.out, ← HN2.out, h]))
  clear he
  go_enter Tryz.func138, Tryz.ntmps138
  go_wp2
  go_ret
  exact ⟨ret_bool HE.out.symm, Below.refl _ _⟩
def spB (b6 c6 : Bool) (s7 t7 : ByteArray) (l m : List ByteArray) : Bool := if b6 || c6 then (b6 == c6) && decide (s7.data.toList = t7.data.toList) else decide (l = m)
set_option maxHeartbeats 4000000 in
theorem samePath_any (as0 : ByteArray) (as1 : ByteArray) (as2 : ByteArray) (as3 : ByteArray) (ab4 : Bool) (az5 : Int) (ab6 : Bool) (as7 : ByteArray) (aA : Option Addr) (an acap : Nat) (al : List ByteArray) (ab9 : Bool) (ab10 : Bool) (as11 : ByteArray) (as12 : ByteArray) (bs0 : ByteArray) (bs1 : ByteArray) (bs2 : ByteArray) (bs3 : ByteArray) (bb4 : Bool) (bz5 : Int) (bb6 : Bool) (bs7 : ByteArray) (bA : Option Addr) (bn bcap : Nat) (bl : List ByteArray) (bb9 : Bool) (bb10 : Bool) (bs11 : ByteArray) (bs12 : ByteArray) (w : World) (ahR : Rds w aA an (al.map Value.string)) (ahnc : an ≤ acap) (ahcm : acap ≤ maxLen) (bhR : Rds w bA bn (bl.map Value.string)) (bhnc : bn ≤ bcap) (bhcm : bcap ≤ maxLen) :
  Calls Tryz.prog 74 #[.agg #[.string as0, .string as1, .string as2, .string as3, .bool ab4, .int .i64 az5, .bool ab6, .string as7, .slice aA an acap, .bool ab9, .bool ab10, .string as11, .string as12], .agg #[.string bs0, .string bs1, .string bs2, .string bs3, .bool bb4, .int .i64 bz5, .bool bb6, .string bs7, .slice bA bn bcap, .bool bb9, .bool bb10, .string bs11, .string bs12]] w fun e w' => e = .returned (.bool (spB ab6 bb6 as7 bs7 al bl)) ∧ Below w.heap.size w w' := by
 have hb := beq_str as7 bs7
 obtain ⟨o, ho⟩ : ∃ o, o = decide (as7.data.toList = bs7.data.toList) := ⟨_, rfl⟩
 rw [← ho] at hb
 have HO := hid ho
 clear ho
 have HR := hid ahR
 have HR2 := hid bhR
 clear ahR bhR
 have acm := ahcm
 have bcm := bhcm
 unfold maxLen at acm bcm
 have hbl : Below w.heap.size w ((w.alloc (.cells #[.string as0, .string as1, .string as2, .string as3, .bool ab4, .int .i64 az5, .bool ab6, .string as7, .slice aA an acap, .bool ab9, .bool ab10, .string as11, .string as12] 25)).alloc (.cells #[.string bs0, .string bs1, .string bs2, .string bs3, .bool bb4, .int .i64 bz5, .bool bb6, .string bs7, .slice bA bn bcap, .bool bb9, .bool bb10, .string bs11, .string bs12] 25)) := ((Below.refl _ _).alloc (Nat.le_refl _) _).alloc (by simp) _
 cases ab6 <;> cases bb6
 ·go_enter Tryz.func74, Tryz.ntmps74
  go_wp2_with fail
  refine (equal_any aA bA an bn acap bcap al bl _ (HR.out.below (((Below.refl _ _).alloc (Nat.le_refl _) _).alloc (by simp) _)) (HR2.out.below (((Below.refl _ _).alloc (Nat.le_refl _) _).alloc (by simp) _)) ahnc ahcm bhnc bhcm).mono ?_
  rintro e w2 ⟨rfl, hb2⟩
  go_wp2
  go_ret
  exact ⟨rfl, (((Below.refl _ _).alloc (Nat.le_refl _) _).alloc (by simp) _).trans (hb2.mono (by simp; omega))⟩
 all_goals
  go_enter Tryz.func74, Tryz.ntmps74
  go_wp2
  go_ret
  refine ⟨ret_bool ?_, ((Below.refl _ _).alloc (Nat.le_refl _) _).alloc (by simp) _⟩
  first | rfl | (unfold spB; rw [← HO.out]; rfl)
end Go.Proofs.YtmdofbccebkbiaaGreatDoor.UrlE
namespace Go.Proofs.YtmdofbccebkbiaaGreatDoor.UrlF
open Go.RowKit Base Base2 UrlP UrlA UrlE Regs
theorem same_iff (as0 : ByteArray) (as1 : ByteArray) (as2 : ByteArray) (as3 : ByteArray) (ab4 : Bool) (az5 : Int) (ab6 : Bool) (as7 : ByteArray) (aA : Option Addr) (an acap : Nat) (al : List ByteArray) (ab9 : Bool) (ab10 : Bool) (as11 : ByteArray) (as12 : ByteArray) (bs0 : ByteArray) (bs1 : ByteArray) (bs2 : ByteArray) (bs3 : ByteArray) (bb4 : Bool) (bz5 : Int) (bb6 : Bool) (bs7 : ByteArray) (bA : Option Addr) (bn bcap : Nat) (bl : List ByteArray) (bb9 : Bool) (bb10 : Bool) (bs11 : ByteArray) (bs12 : ByteArray) : same1 as0 as1 as2 as3 ab4 az5 ab6 as7 al ab9 ab10 as11 as12 = same1 bs0 bs1 bs2 bs3 bb4 bz5 bb6 bs7 bl bb9 bb10 bs11 bs12 ↔ (as0.data.toList = bs0.data.toList ∧ as1.data.toList = bs1.data.toList ∧ as2.data.toList = bs2.data.toList ∧ az5 = bz5 ∧ txt ab4 as3 = txt bb4 bs3 ∧ spB ab6 bb6 as7 bs7 al bl = true ∧ txt ab9 as11 = txt bb9 bs11 ∧ txt ab10 as12 = txt bb10 bs12) := by
 unfold same1
 simp only [Prod.mk.injEq, List.cons.injEq, Option.some.injEq, and_true]
 cases ab6 <;> cases bb6 <;> simp [spB, txt] <;> constructor <;> (intro h; simp [h])
def Bx (w : World) (b : Nat) (c : Array Value) : Prop := w.heap[b]? = some (.cells c 25 (0, 0))
theorem Bx.cell {w : World} {b : Nat} {c : Array Value} (h : Bx w b c) (i : Nat) : w.cell? ⟨b, i, none⟩ = c[i]? := cell_of_row w b i _ _ _ h
theorem cells13 {w : World} {b : Nat} {v0 v1 v2 v3 v4 v5 v6 v7 v8 v9 v10 v11 v12 : Value} (h : Bx w b #[v0, v1, v2, v3, v4, v5, v6, v7, v8, v9, v10, v11, v12]) :
  w.cell? ⟨b, 0, none⟩ = some v0 ∧ w.cell? ⟨b, 1, none⟩ = some v1 ∧ w.cell? ⟨b, 2, none⟩ = some v2 ∧ w.cell? ⟨b, 3, none⟩ = some v3 ∧ w.cell? ⟨b, 4, none⟩ = some v4 ∧ w.cell? ⟨b, 5, none⟩ = some v5 ∧ w.cell? ⟨b, 6, none⟩ = some v6 ∧ w.cell? ⟨b, 7, none⟩ = some v7 ∧ w.cell? ⟨b, 8, none⟩ = some v8 ∧ w.cell? ⟨b, 9, none⟩ = some v9 ∧ w.cell? ⟨b, 10, none⟩ = some v10 ∧ w.cell? ⟨b, 11, none⟩ = some v11 ∧ w.cell? ⟨b, 12, none⟩ = some v12 :=
 ⟨(h.cell 0).trans rfl, (h.cell 1).trans rfl, (h.cell 2).trans rfl, (h.cell 3).trans rfl, (h.cell 4).trans rfl, (h.cell 5).trans rfl, (h.cell 6).trans rfl, (h.cell 7).trans rfl, (h.cell 8).trans rfl, (h.cell 9).trans rfl, (h.cell 10).trans rfl, (h.cell 11).trans rfl, (h.cell 12).trans rfl⟩
set_option maxRecDepth 100000 in
set_option maxHeartbeats 16000000 in
theorem same_any (as0 : ByteArray) (as1 : ByteArray) (as2 : ByteArray) (as3 : ByteArray) (ab4 : Bool) (az5 : Int) (ab6 : Bool) (as7 : ByteArray) (aA : Option Addr) (an acap : Nat) (al : List ByteArray) (ab9 : Bool) (ab10 : Bool) (as11 : ByteArray) (as12 : ByteArray) (bs0 : ByteArray) (bs1 : ByteArray) (bs2 : ByteArray) (bs3 : ByteArray) (bb4 : Bool) (bz5 : Int) (bb6 : Bool) (bs7 : ByteArray) (bA : Option Addr) (bn bcap : Nat) (bl : List ByteArray) (bb9 : Bool) (bb10 : Bool) (bs11 : ByteArray) (bs12 : ByteArray) (w : World) (ahR : Rds w aA an (al.map Value.string)) (ahnc : an ≤ acap) (ahcm : acap ≤ maxLen) (bhR : Rds w bA bn (bl.map Value.string)) (bhnc : bn ≤ bcap) (bhcm : bcap ≤ maxLen) :
  Calls Tryz.prog 32 #[.agg #[.string as0, .string as1, .string as2, .string as3, .bool ab4, .int .i64 az5, .bool ab6, .string as7, .slice aA an acap, .bool ab9, .bool ab10, .string as11, .string as12], .agg #[.string bs0, .string bs1, .string bs2, .string bs3, .bool bb4, .int .i64 bz5, .bool bb6, .string bs7, .slice bA bn bcap, .bool bb9, .bool bb10, .string bs11, .string bs12]] w fun e w' => e = .returned (.bool (decide (same1 as0 as1 as2 as3 ab4 az5 ab6 as7 al ab9 ab10 as11 as12 = same1 bs0 bs1 bs2 bs3 bb4 bz5 bb6 bs7 bl bb9 bb10 bs11 bs12))) ∧ Below w.heap.size w w' := by
 have HI := hid (same_iff as0 as1 as2 as3 ab4 az5 ab6 as7 aA an acap al ab9 ab10 as11 as12 bs0 bs1 bs2 bs3 bb4 bz5 bb6 bs7 bA bn bcap bl bb9 bb10 bs11 bs12)
 obtain ⟨E, hE⟩ : ∃ E, E = decide (same1 as0 as1 as2 as3 ab4 az5 ab6 as7 al ab9 ab10 as11 as12 = same1 bs0 bs1 bs2 bs3 bb4 bz5 bb6 bs7 bl bb9 bb10 bs11 bs12) := ⟨_, rfl⟩
 rw [← hE]
 have HR := hid ahR
 have HR2 := hid bhR
 clear ahR bhR
 obtain ⟨o0, ho0⟩ : ∃ o, o = (as0.toList == bs0.toList) := ⟨_, rfl⟩
 obtain ⟨o1, ho1⟩ : ∃ o, o = (as1.toList == bs1.toList) := ⟨_, rfl⟩
 obtain ⟨o2, ho2⟩ : ∃ o, o = (as2.toList == bs2.toList) := ⟨_, rfl⟩
 obtain ⟨o3, ho3⟩ : ∃ o, o = (az5 == bz5) := ⟨_, rfl⟩
 obtain ⟨o4, ho4⟩ : ∃ o, o = decide (txt ab4 as3 = txt bb4 bs3) := ⟨_, rfl⟩
 obtain ⟨o5, ho5⟩ : ∃ o, o = spB ab6 bb6 as7 bs7 al bl := ⟨_, rfl⟩
 obtain ⟨o6, ho6⟩ : ∃ o, o = decide (txt ab9 as11 = txt bb9 bs11) := ⟨_, rfl⟩
 obtain ⟨o7, ho7⟩ : ∃ o, o = decide (txt ab10 as12 = txt bb10 bs12) := ⟨_, rfl⟩
 obtain ⟨c1, hc1⟩ : ∃ c, c = (o0 && o1) := ⟨_, rfl⟩
 obtain ⟨c2, hc2⟩ : ∃ c, c = (c1 && o2) := ⟨_, rfl⟩
 obtain ⟨c3, hc3⟩ : ∃ c, c = (c2 && o3) := ⟨_, rfl⟩
 obtain ⟨c4, hc4⟩ : ∃ c, c = (c3 && o4) := ⟨_, rfl⟩
 obtain ⟨c5, hc5⟩ : ∃ c, c = (c4 && o5) := ⟨_, rfl⟩
 obtain ⟨c6, hc6⟩ : ∃ c, c = (c5 && o6) := ⟨_, rfl⟩
 obtain ⟨c7, hc7⟩ : ∃ c, c = (c6 && o7) := ⟨_, rfl⟩
 have HE : Hid (E = c7) := by
  show E = c7
  rw [hE, hc7, hc6, hc5, hc4, hc3, hc2, hc1, Bool.eq_iff_iff, decide_eq_true_iff, HI.out]
  simp only [Bool.and_eq_true, and_assoc]
  rw [ho0, ho1, ho2, ho3, ho4, ho5, ho6, ho7, beq_str, beq_str, beq_str]
  simp
 have HQ0 := hid ho0.symm
 have HQ1 := hid ho1.symm
 have HQ2 := hid ho2.symm
 have HQ3 := hid ho3.symm
 have H4 := hid ho4
 have H5 := hid ho5
 have H6 := hid ho6
 have H7 := hid ho7
 have HC1 := hid hc1
 have HC2 := hid hc2
 have HC3 := hid hc3
 have HC4 := hid hc4
 have HC5 := hid hc5
 have HC6 := hid hc6
 have HC7 := hid hc7
 clear ho0 ho1 ho2 ho3 ho4 ho5 ho6 ho7 hc1 hc2 hc3 hc4 hc5 hc6 hc7 hE HI
 have HBL : Hid (Below w.heap.size w ((w.alloc (.cells #[.string as0, .string as1, .string as2, .string as3, .bool ab4, .int .i64 az5, .bool ab6, .string as7, .slice aA an acap, .bool ab9, .bool ab10, .string as11, .string as12] 25)).alloc (.cells #[.string bs0, .string bs1, .string bs2, .string bs3, .bool bb4, .int .i64 bz5, .bool bb6, .string bs7, .slice bA bn bcap, .bool bb9, .bool bb10, .string bs11, .string bs12] 25))) := (((Below.refl _ _).alloc (Nat.le_refl _) _).alloc (by simp) _)
 go_enter Tryz.func32, Tryz.ntmps32
 go_upto_region 1 with (fail)
 generalize hw0 : (w.alloc _).alloc _ = w0
 have HB0 : Hid (Below w.heap.size w w0) := by rw [← hw0]; exact HBL.out
 have HX1 : Hid (Bx w0 w.heap.size #[.string as0, .string as1, .string as2, .string as3, .bool ab4, .int .i64 az5, .bool ab6, .string as7, .slice aA an acap, .bool ab9, .bool ab10, .string as11, .string as12]) := by show _ = _; rw [← hw0]; exact (Below.block ((Below.refl (w.heap.size + 1) _).alloc (by simp) _) w.heap.size (by omega)).trans (heap_alloc_new w _)
 have HX2 : Hid (Bx w0 (w.heap.size + 1) #[.string bs0, .string bs1, .string bs2, .string bs3, .bool bb4, .int .i64 bz5, .bool bb6, .string bs7, .slice bA bn bcap, .bool bb9, .bool bb10, .string bs11, .string bs12]) := by show _ = _; rw [← hw0]; have := heap_alloc_new (w.alloc (.cells #[.string as0, .string as1, .string as2, .string as3, .bool ab4, .int .i64 az5, .bool ab6, .string as7, .slice aA an acap, .bool ab9, .bool ab10, .string as11, .string as12] 25)) (.cells #[.string bs0, .string bs1, .string bs2, .string bs3, .bool bb4, .int .i64 bz5, .bool bb6, .string bs7, .slice bA bn bcap, .bool bb9, .bool bb10, .string bs11, .string bs12] 25); simpa using this
 have hlt0 : w.heap.size + 1 < w0.heap.size := by rw [← hw0]; simp
 clear hw0 HBL
 simp only [List.append_eq, List.cons_append, List.nil_append]
 refine wp_region_seq [is (.pointer (some ⟨w.heap.size, 0, none⟩)), is (.string as0), is (.pointer (some ⟨w.heap.size + 1, 0, none⟩)), is (.string bs0), is (.bool o0), is (.bool o0), whn (o0) (is (.pointer (some ⟨w.heap.size, 1, none⟩))), whn (o0) (is (.string as1)), whn (o0) (is (.pointer (some ⟨w.heap.size + 1, 1, none⟩))), whn (o0) (is (.string bs1)), whn (o0) (is (.bool o1)), is (.bool c1), is (.bool c1), whn (c1) (is (.pointer (some ⟨w.heap.size, 2, none⟩))), whn (c1) (is (.string as2)), whn (c1) (is (.pointer (some ⟨w.heap.size + 1, 2, none⟩))), whn (c1) (is (.string bs2)), whn (c1) (is (.bool o2)), is (.bool c2), is (.bool c2), whn (c2) (is (.pointer (some ⟨w.heap.size, 5, none⟩))), whn (c2) (is (.int .i64 az5)), whn (c2) (is (.pointer (some ⟨w.heap.size + 1, 5, none⟩))), whn (c2) (is (.int .i64 bz5)), whn (c2) (is (.bool o3)), is (.bool c3), is (.bool c3), whn (c3) (is (.pointer (some ⟨w.heap.size, 4, none⟩))), whn (c3) (is (.bool ab4)), whn (c3) (is (.pointer (some ⟨w.heap.size + 1, 4, none⟩))), whn (c3) (is (.bool bb4)), whn (c3) (is (.pointer (some ⟨w.heap.size, 3, none⟩))), whn (c3) (is (.string as3)), whn (c3) (is (.pointer (some ⟨w.heap.size + 1, 3, none⟩))), whn (c3) (is (.string bs3)), whn (c3) (is (.bool o4)), is (.bool c4), is (.bool c4), whn (c4) (is (.agg #[.string as0, .string as1, .string as2, .string as3, .bool ab4, .int .i64 az5, .bool ab6, .string as7, .slice aA an acap, .bool ab9, .bool ab10, .string as11, .string as12])), whn (c4) (is (.agg #[.string bs0, .string bs1, .string bs2, .string bs3, .bool bb4, .int .i64 bz5, .bool bb6, .string bs7, .slice bA bn bcap, .bool bb9, .bool bb10, .string bs11, .string bs12])), whn (c4) (is (.bool o5)), is (.bool c5), is (.bool c5), whn (c5) (is (.pointer (some ⟨w.heap.size, 9, none⟩))), whn (c5) (is (.bool ab9)), whn (c5) (is (.pointer (some ⟨w.heap.size + 1, 9, none⟩))), whn (c5) (is (.bool bb9)), whn (c5) (is (.pointer (some ⟨w.heap.size, 11, none⟩))), whn (c5) (is (.string as11)), whn (c5) (is (.pointer (some ⟨w.heap.size + 1, 11, none⟩))), whn (c5) (is (.string bs11)), whn (c5) (is (.bool o6)), is (.bool c6), is (.bool c6), whn (c6) (is (.pointer (some ⟨w.heap.size, 10, none⟩))), whn (c6) (is (.bool ab10)), whn (c6) (is (.pointer (some ⟨w.heap.size + 1, 10, none⟩))), whn (c6) (is (.bool bb10)), whn (c6) (is (.pointer (some ⟨w.heap.size, 12, none⟩))), whn (c6) (is (.string as12)), whn (c6) (is (.pointer (some ⟨w.heap.size + 1, 12, none⟩))), whn (c6) (is (.string bs12)), whn (c6) (is (.bool o7)), is (.bool c7), is (.bool c7)] [[], [0], [], [2], [1, 3], [4], [5], [5, 6], [5], [5, 8], [5, 7, 9], [5, 10], [11], [12], [12, 13], [12], [12, 15], [12, 14, 16], [12, 17], [18], [19], [19, 20], [19], [19, 22], [19, 21, 23], [19, 24], [25], [26], [26, 27], [26], [26, 29], [26], [26, 31], [26], [26, 33], [26, 28, 30, 32, 34], [26, 35], [36], [37], [37], [37, 38, 39], [37, 40], [41], [42], [42, 43], [42], [42, 45], [42], [42, 47], [42], [42, 49], [42, 44, 46, 48, 50], [42, 51], [52], [53], [53, 54], [53], [53, 56], [53], [53, 58], [53], [53, 60], [53, 55, 57, 59, 61], [53, 62], [63]] (by kernel_rfl) ?_ ?_
 ·refine ⟨?_, ?_, ?_, ?_, ?_, ?_, ?_, ?_, ?_, ?_, ?_, ?_, ?_, ?_, ?_, ?_, ?_, ?_, ?_, ?_, ?_, ?_, ?_, ?_, ?_, ?_, ?_, ?_, ?_, ?_, ?_, ?_, ?_, ?_, ?_, ?_, ?_, ?_, ?_, ?_, ?_, ?_, ?_, ?_, ?_, ?_, ?_, ?_, ?_, ?_, ?_, ?_, ?_, ?_, ?_, ?_, ?_, ?_, ?_, ?_, ?_, ?_, ?_, ?_, ?_, trivial⟩
  ·intro t wq hbq hh K hK
   clear hh
   simp only [filled, filledN, upd, Have, is, any, row, pick, Act.put, List.setIfInBounds_toArray, List.set_cons_zero, List.set_cons_succ, Nat.reduceAdd, Nat.reduceEqDiff, reduceIte, whn] at hK ⊢
   go_simp
   exact hK _ _ (Below.refl _ _) rfl
  ·intro t wq hbq hh K hK
   have e0 := hh.1
   simp only [pick] at e0
   replace e0 : t 0 = (.pointer (some ⟨w.heap.size, 0, none⟩)) := e0
   clear hh
   simp only [filled, filledN, upd, Have, is, any, row, pick, Act.put, List.setIfInBounds_toArray, List.set_cons_zero, List.set_cons_succ, Nat.reduceAdd, Nat.reduceEqDiff, reduceIte, whn] at hK ⊢
   simp only [e0] at hK ⊢
   have hc := (Bx.cell ((hbq.block _ (by omega)).trans HX1.out) 0).trans (show _ = some (.string as0) from rfl)
   go_simp
   exact hK _ _ (Below.refl _ _) rfl
  ·intro t wq hbq hh K hK
   clear hh
   simp only [filled, filledN, upd, Have, is, any, row, pick, Act.put, List.setIfInBounds_toArray, List.set_cons_zero, List.set_cons_succ, Nat.reduceAdd, Nat.reduceEqDiff, reduceIte, whn] at hK ⊢
   go_simp
   exact hK _ _ (Below.refl _ _) rfl
  ·intro t wq hbq hh K hK
   have e2 := hh.1
   simp only [pick] at e2
   replace e2 : t 2 = (.pointer (some ⟨w.heap.size + 1, 0, none⟩)) := e2
   clear hh
   simp only [filled, filledN, upd, Have, is, any, row, pick, Act.put, List.setIfInBounds_toArray, List.set_cons_zero, List.set_cons_succ, Nat.reduceAdd, Nat.reduceEqDiff, reduceIte, whn] at hK ⊢
   simp only [e2] at hK ⊢
   have hc := (Bx.cell ((hbq.block _ hlt0).trans HX2.out) 0).trans (show _ = some (.string bs0) from rfl)
   go_simp
   exact hK _ _ (Below.refl _ _) rfl
  ·intro t wq hbq hh K hK
   have e1 := hh.1
   simp only [pick] at e1
   replace e1 : t 1 = (.string as0) := e1
   have e3 := hh.2.1
   simp only [pick] at e3
   replace e3 : t 3 = (.string bs0) := e3
   clear hh
   simp only [filled, filledN, upd, Have, is, any, row, pick, Act.put, List.setIfInBounds_toArray, List.set_cons_zero, List.set_cons_succ, Nat.reduceAdd, Nat.reduceEqDiff, reduceIte, whn] at hK ⊢
   simp only [e1, e3] at hK ⊢
   go_simp
   exact hK _ _ (Below.refl _ _) (congrArg Value.bool HQ0.out)
  ·intro t wq hbq hh K hK
   have e4 := hh.1
   simp only [pick] at e4
   replace e4 : t 4 = (.bool o0) := e4
   clear hh
   simp only [filled, filledN, upd, Have, is, any, row, pick, Act.put, List.setIfInBounds_toArray, List.set_cons_zero, List.set_cons_succ, Nat.reduceAdd, Nat.reduceEqDiff, reduceIte, whn] at hK ⊢
   simp only [e4] at hK ⊢
   go_simp
   exact hK _ _ (Below.refl _ _) rfl
  ·intro t wq hbq hh K hK
   have e5 := hh.1
   simp only [pick] at e5
   replace e5 : t 5 = (.bool o0) := e5
   clear hh
   simp only [filled, filledN, upd, Have, is, any, row, pick, Act.put, List.setIfInBounds_toArray, List.set_cons_zero, List.set_cons_succ, Nat.reduceAdd, Nat.reduceEqDiff, reduceIte, whn] at hK ⊢
   cases o0 with
   | true =>
    simp only [e5] at hK ⊢
    go_simp
    exact hK _ _ (Below.refl _ _) ⟨fun _ => rfl, fun h => by cases h⟩
   | false =>
    simp only [e5] at hK ⊢
    go_simp
    exact hK _ _ (Below.refl _ _) ⟨(fun h => by cases h), fun _ => rfl⟩
  ·intro t wq hbq hh K hK
   have e5 := hh.1
   simp only [pick] at e5
   replace e5 : t 5 = (.bool o0) := e5
   have e6 := hh.2.1
   simp only [pick] at e6
   replace e6 : ((o0) = true → t 6 = (.pointer (some ⟨w.heap.size, 1, none⟩))) ∧ ((o0) = false → t 6 = undef) := e6
   clear hh
   simp only [filled, filledN, upd, Have, is, any, row, pick, Act.put, List.setIfInBounds_toArray, List.set_cons_zero, List.set_cons_succ, Nat.reduceAdd, Nat.reduceEqDiff, reduceIte, whn] at hK ⊢
   cases o0 with
   | true =>
    replace e6 := e6.1 rfl
    simp only [e5, e6] at hK ⊢
    have hc := (Bx.cell ((hbq.block _ (by omega)).trans HX1.out) 1).trans (show _ = some (.string as1) from rfl)
    go_simp
    exact hK _ _ (Below.refl _ _) ⟨fun _ => rfl, fun h => by cases h⟩
   | false =>
    replace e6 := e6.2 rfl
    simp only [e5, e6] at hK ⊢
    go_simp
    exact hK _ _ (Below.refl _ _) ⟨(fun h => by cases h), fun _ => rfl⟩
  ·intro t wq hbq hh K hK
   have e5 := hh.1
   simp only [pick] at e5
   replace e5 : t 5 = (.bool o0) := e5
   clear hh
   simp only [filled, filledN, upd, Have, is, any, row, pick, Act.put, List.setIfInBounds_toArray, List.set_cons_zero, List.set_cons_succ, Nat.reduceAdd, Nat.reduceEqDiff, reduceIte, whn] at hK ⊢
   cases o0 with
   | true =>
    simp only [e5] at hK ⊢
    go_simp
    exact hK _ _ (Below.refl _ _) ⟨fun _ => rfl, fun h => by cases h⟩
   | false =>
    simp only [e5] at hK ⊢
    go_simp
    exact hK _ _ (Below.refl _ _) ⟨(fun h => by cases h), fun _ => rfl⟩
  ·intro t wq hbq hh K hK
   have e5 := hh.1
   simp only [pick] at e5
   replace e5 : t 5 = (.bool o0) := e5
   have e8 := hh.2.1
   simp only [pick] at e8
   replace e8 : ((o0) = true → t 8 = (.pointer (some ⟨w.heap.size + 1, 1, none⟩))) ∧ ((o0) = false → t 8 = undef) := e8
   clear hh
   simp only [filled, filledN, upd, Have, is, any, row, pick, Act.put, List.setIfInBounds_toArray, List.set_cons_zero, List.set_cons_succ, Nat.reduceAdd, Nat.reduceEqDiff, reduceIte, whn] at hK ⊢
   cases o0 with
   | true =>
    replace e8 := e8.1 rfl
    simp only [e5, e8] at hK ⊢
    have hc := (Bx.cell ((hbq.block _ hlt0).trans HX2.out) 1).trans (show _ = some (.string bs1) from rfl)
    go_simp
    exact hK _ _ (Below.refl _ _) ⟨fun _ => rfl, fun h => by cases h⟩
   | false =>
    replace e8 := e8.2 rfl
    simp only [e5, e8] at hK ⊢
    go_simp
    exact hK _ _ (Below.refl _ _) ⟨(fun h => by cases h), fun _ => rfl⟩
  ·intro t wq hbq hh K hK
   have e5 := hh.1
   simp only [pick] at e5
   replace e5 : t 5 = (.bool o0) := e5
   have e7 := hh.2.1
   simp only [pick] at e7
   replace e7 : ((o0) = true → t 7 = (.string as1)) ∧ ((o0) = false → t 7 = undef) := e7
   have e9 := hh.2.2.1
   simp only [pick] at e9
   replace e9 : ((o0) = true → t 9 = (.string bs1)) ∧ ((o0) = false → t 9 = undef) := e9
   clear hh
   simp only [filled, filledN, upd, Have, is, any, row, pick, Act.put, List.setIfInBounds_toArray, List.set_cons_zero, List.set_cons_succ, Nat.reduceAdd, Nat.reduceEqDiff, reduceIte, whn] at hK ⊢
   cases o0 with
   | true =>
    replace e7 := e7.1 rfl
    replace e9 := e9.1 rfl
    simp only [e5, e7, e9] at hK ⊢
    go_simp
    exact hK _ _ (Below.refl _ _) ⟨fun _ => congrArg Value.bool HQ1.out, fun h => by cases h⟩
   | false =>
    replace e7 := e7.2 rfl
    replace e9 := e9.2 rfl
    simp only [e5, e7, e9] at hK ⊢
    go_simp
    exact hK _ _ (Below.refl _ _) ⟨(fun h => by cases h), fun _ => rfl⟩
  ·intro t wq hbq hh K hK
   have e5 := hh.1
   simp only [pick] at e5
   replace e5 : t 5 = (.bool o0) := e5
   have e10 := hh.2.1
   simp only [pick] at e10
   replace e10 : ((o0) = true → t 10 = (.bool o1)) ∧ ((o0) = false → t 10 = undef) := e10
   clear hh
   simp only [filled, filledN, upd, Have, is, any, row, pick, Act.put, List.setIfInBounds_toArray, List.set_cons_zero, List.set_cons_succ, Nat.reduceAdd, Nat.reduceEqDiff, reduceIte, whn] at hK ⊢
   cases o0 with
   | true =>
    replace e10 := e10.1 rfl
    simp only [e5, e10] at hK ⊢
    go_simp
    exact hK _ _ (Below.refl _ _) (by show _ = _; rw [HC1.out]; simp)
   | false =>
    replace e10 := e10.2 rfl
    simp only [e5, e10] at hK ⊢
    go_simp
    exact hK _ _ (Below.refl _ _) (by show _ = _; rw [HC1.out]; simp)
  ·intro t wq hbq hh K hK
   have e11 := hh.1
   simp only [pick] at e11
   replace e11 : t 11 = (.bool c1) := e11
   clear hh
   simp only [filled, filledN, upd, Have, is, any, row, pick, Act.put, List.setIfInBounds_toArray, List.set_cons_zero, List.set_cons_succ, Nat.reduceAdd, Nat.reduceEqDiff, reduceIte, whn] at hK ⊢
   simp only [e11] at hK ⊢
   go_simp
   exact hK _ _ (Below.refl _ _) rfl
  ·intro t wq hbq hh K hK
   have e12 := hh.1
   simp only [pick] at e12
   replace e12 : t 12 = (.bool c1) := e12
   clear hh
   simp only [filled, filledN, upd, Have, is, any, row, pick, Act.put, List.setIfInBounds_toArray, List.set_cons_zero, List.set_cons_succ, Nat.reduceAdd, Nat.reduceEqDiff, reduceIte, whn] at hK ⊢
   cases c1 with
   | true =>
    simp only [e12] at hK ⊢
    go_simp
    exact hK _ _ (Below.refl _ _) ⟨fun _ => rfl, fun h => by cases h⟩
   | false =>
    simp only [e12] at hK ⊢
    go_simp
    exact hK _ _ (Below.refl _ _) ⟨(fun h => by cases h), fun _ => rfl⟩
  ·intro t wq hbq hh K hK
   have e12 := hh.1
   simp only [pick] at e12
   replace e12 : t 12 = (.bool c1) := e12
   have e13 := hh.2.1
   simp only [pick] at e13
   replace e13 : ((c1) = true → t 13 = (.pointer (some ⟨w.heap.size, 2, none⟩))) ∧ ((c1) = false → t 13 = undef) := e13
   clear hh
   simp only [filled, filledN, upd, Have, is, any, row, pick, Act.put, List.setIfInBounds_toArray, List.set_cons_zero, List.set_cons_succ, Nat.reduceAdd, Nat.reduceEqDiff, reduceIte, whn] at hK ⊢
   cases c1 with
   | true =>
    replace e13 := e13.1 rfl
    simp only [e12, e13] at hK ⊢
    have hc := (Bx.cell ((hbq.block _ (by omega)).trans HX1.out) 2).trans (show _ = some (.string as2) from rfl)
    go_simp
    exact hK _ _ (Below.refl _ _) ⟨fun _ => rfl, fun h => by cases h⟩
   | false =>
    replace e13 := e13.2 rfl
    simp only [e12, e13] at hK ⊢
    go_simp
    exact hK _ _ (Below.refl _ _) ⟨(fun h => by cases h), fun _ => rfl⟩
  ·intro t wq hbq hh K hK
   have e12 := hh.1
   simp only [pick] at e12
   replace e12 : t 12 = (.bool c1) := e12
   clear hh
   simp only [filled, filledN, upd, Have, is, any, row, pick, Act.put, List.setIfInBounds_toArray, List.set_cons_zero, List.set_cons_succ, Nat.reduceAdd, Nat.reduceEqDiff, reduceIte, whn] at hK ⊢
   cases c1 with
   | true =>
    simp only [e12] at hK ⊢
    go_simp
    exact hK _ _ (Below.refl _ _) ⟨fun _ => rfl, fun h => by cases h⟩
   | false =>
    simp only [e12] at hK ⊢
    go_simp
    exact hK _ _ (Below.refl _ _) ⟨(fun h => by cases h), fun _ => rfl⟩
  ·intro t wq hbq hh K hK
   have e12 := hh.1
   simp only [pick] at e12
   replace e12 : t 12 = (.bool c1) := e12
   have e15 := hh.2.1
   simp only [pick] at e15
   replace e15 : ((c1) = true → t 15 = (.pointer (some ⟨w.heap.size + 1, 2, none⟩))) ∧ ((c1) = false → t 15 = undef) := e15
   clear hh
   simp only [filled, filledN, upd, Have, is, any, row, pick, Act.put, List.setIfInBounds_toArray, List.set_cons_zero, List.set_cons_succ, Nat.reduceAdd, Nat.reduceEqDiff, reduceIte, whn] at hK ⊢
   cases c1 with
   | true =>
    replace e15 := e15.1 rfl
    simp only [e12, e15] at hK ⊢
    have hc := (Bx.cell ((hbq.block _ hlt0).trans HX2.out) 2).trans (show _ = some (.string bs2) from rfl)
    go_simp
    exact hK _ _ (Below.refl _ _) ⟨fun _ => rfl, fun h => by cases h⟩
   | false =>
    replace e15 := e15.2 rfl
    simp only [e12, e15] at hK ⊢
    go_simp
    exact hK _ _ (Below.refl _ _) ⟨(fun h => by cases h), fun _ => rfl⟩
  ·intro t wq hbq hh K hK
   have e12 := hh.1
   simp only [pick] at e12
   replace e12 : t 12 = (.bool c1) := e12
   have e14 := hh.2.1
   simp only [pick] at e14
   replace e14 : ((c1) = true → t 14 = (.string as2)) ∧ ((c1) = false → t 14 = undef) := e14
   have e16 := hh.2.2.1
   simp only [pick] at e16
   replace e16 : ((c1) = true → t 16 = (.string bs2)) ∧ ((c1) = false → t 16 = undef) := e16
   clear hh
   simp only [filled, filledN, upd, Have, is, any, row, pick, Act.put, List.setIfInBounds_toArray, List.set_cons_zero, List.set_cons_succ, Nat.reduceAdd, Nat.reduceEqDiff, reduceIte, whn] at hK ⊢
   cases c1 with
   | true =>
    replace e14 := e14.1 rfl
    replace e16 := e16.1 rfl
    simp only [e12, e14, e16] at hK ⊢
    go_simp
    exact hK _ _ (Below.refl _ _) ⟨fun _ => congrArg Value.bool HQ2.out, fun h => by cases h⟩
   | false =>
    replace e14 := e14.2 rfl
    replace e16 := e16.2 rfl
    simp only [e12, e14, e16] at hK ⊢
    go_simp
    exact hK _ _ (Below.refl _ _) ⟨(fun h => by cases h), fun _ => rfl⟩
  ·intro t wq hbq hh K hK
   have e12 := hh.1
   simp only [pick] at e12
   replace e12 : t 12 = (.bool c1) := e12
   have e17 := hh.2.1
   simp only [pick] at e17
   replace e17 : ((c1) = true → t 17 = (.bool o2)) ∧ ((c1) = false → t 17 = undef) := e17
   clear hh
   simp only [filled, filledN, upd, Have, is, any, row, pick, Act.put, List.setIfInBounds_toArray, List.set_cons_zero, List.set_cons_succ, Nat.reduceAdd, Nat.reduceEqDiff, reduceIte, whn] at hK ⊢
   cases c1 with
   | true =>
    replace e17 := e17.1 rfl
    simp only [e12, e17] at hK ⊢
    go_simp
    exact hK _ _ (Below.refl _ _) (by show _ = _; rw [HC2.out]; simp)
   | false =>
    replace e17 := e17.2 rfl
    simp only [e12, e17] at hK ⊢
    go_simp
    exact hK _ _ (Below.refl _ _) (by show _ = _; rw [HC2.out]; simp)
  ·intro t wq hbq hh K hK
   have e18 := hh.1
   simp only [pick] at e18
   replace e18 : t 18 = (.bool c2) := e18
   clear hh
   simp only [filled, filledN, upd, Have, is, any, row, pick, Act.put, List.setIfInBounds_toArray, List.set_cons_zero, List.set_cons_succ, Nat.reduceAdd, Nat.reduceEqDiff, reduceIte, whn] at hK ⊢
   simp only [e18] at hK ⊢
   go_simp
   exact hK _ _ (Below.refl _ _) rfl
  ·intro t wq hbq hh K hK
   have e19 := hh.1
   simp only [pick] at e19
   replace e19 : t 19 = (.bool c2) := e19
   clear hh
   simp only [filled, filledN, upd, Have, is, any, row, pick, Act.put, List.setIfInBounds_toArray, List.set_cons_zero, List.set_cons_succ, Nat.reduceAdd, Nat.reduceEqDiff, reduceIte, whn] at hK ⊢
   cases c2 with
   | true =>
    simp only [e19] at hK ⊢
    go_simp
    exact hK _ _ (Below.refl _ _) ⟨fun _ => rfl, fun h => by cases h⟩
   | false =>
    simp only [e19] at hK ⊢
    go_simp
    exact hK _ _ (Below.refl _ _) ⟨(fun h => by cases h), fun _ => rfl⟩
  ·intro t wq hbq hh K hK
   have e19 := hh.1
   simp only [pick] at e19
   replace e19 : t 19 = (.bool c2) := e19
   have e20 := hh.2.1
   simp only [pick] at e20
   replace e20 : ((c2) = true → t 20 = (.pointer (some ⟨w.heap.size, 5, none⟩))) ∧ ((c2) = false → t 20 = undef) := e20
   clear hh
   simp only [filled, filledN, upd, Have, is, any, row, pick, Act.put, List.setIfInBounds_toArray, List.set_cons_zero, List.set_cons_succ, Nat.reduceAdd, Nat.reduceEqDiff, reduceIte, whn] at hK ⊢
   cases c2 with
   | true =>
    replace e20 := e20.1 rfl
    simp only [e19, e20] at hK ⊢
    have hc := (Bx.cell ((hbq.block _ (by omega)).trans HX1.out) 5).trans (show _ = some (.int .i64 az5) from rfl)
    go_simp
    exact hK _ _ (Below.refl _ _) ⟨fun _ => rfl, fun h => by cases h⟩
   | false =>
    replace e20 := e20.2 rfl
    simp only [e19, e20] at hK ⊢
    go_simp
    exact hK _ _ (Below.refl _ _) ⟨(fun h => by cases h), fun _ => rfl⟩
  ·intro t wq hbq hh K hK
   have e19 := hh.1
   simp only [pick] at e19
   replace e19 : t 19 = (.bool c2) := e19
   clear hh
   simp only [filled, filledN, upd, Have, is, any, row, pick, Act.put, List.setIfInBounds_toArray, List.set_cons_zero, List.set_cons_succ, Nat.reduceAdd, Nat.reduceEqDiff, reduceIte, whn] at hK ⊢
   cases c2 with
   | true =>
    simp only [e19] at hK ⊢
    go_simp
    exact hK _ _ (Below.refl _ _) ⟨fun _ => rfl, fun h => by cases h⟩
   | false =>
    simp only [e19] at hK ⊢
    go_simp
    exact hK _ _ (Below.refl _ _) ⟨(fun h => by cases h), fun _ => rfl⟩
  ·intro t wq hbq hh K hK
   have e19 := hh.1
   simp only [pick] at e19
   replace e19 : t 19 = (.bool c2) := e19
   have e22 := hh.2.1
   simp only [pick] at e22
   replace e22 : ((c2) = true → t 22 = (.pointer (some ⟨w.heap.size + 1, 5, none⟩))) ∧ ((c2) = false → t 22 = undef) := e22
   clear hh
   simp only [filled, filledN, upd, Have, is, any, row, pick, Act.put, List.setIfInBounds_toArray, List.set_cons_zero, List.set_cons_succ, Nat.reduceAdd, Nat.reduceEqDiff, reduceIte, whn] at hK ⊢
   cases c2 with
   | true =>
    replace e22 := e22.1 rfl
    simp only [e19, e22] at hK ⊢
    have hc := (Bx.cell ((hbq.block _ hlt0).trans HX2.out) 5).trans (show _ = some (.int .i64 bz5) from rfl)
    go_simp
    exact hK _ _ (Below.refl _ _) ⟨fun _ => rfl, fun h => by cases h⟩
   | false =>
    replace e22 := e22.2 rfl
    simp only [e19, e22] at hK ⊢
    go_simp
    exact hK _ _ (Below.refl _ _) ⟨(fun h => by cases h), fun _ => rfl⟩
  ·intro t wq hbq hh K hK
   have e19 := hh.1
   simp only [pick] at e19
   replace e19 : t 19 = (.bool c2) := e19
   have e21 := hh.2.1
   simp only [pick] at e21
   replace e21 : ((c2) = true → t 21 = (.int .i64 az5)) ∧ ((c2) = false → t 21 = undef) := e21
   have e23 := hh.2.2.1
   simp only [pick] at e23
   replace e23 : ((c2) = true → t 23 = (.int .i64 bz5)) ∧ ((c2) = false → t 23 = undef) := e23
   clear hh
   simp only [filled, filledN, upd, Have, is, any, row, pick, Act.put, List.setIfInBounds_toArray, List.set_cons_zero, List.set_cons_succ, Nat.reduceAdd, Nat.reduceEqDiff, reduceIte, whn] at hK ⊢
   cases c2 with
   | true =>
    replace e21 := e21.1 rfl
    replace e23 := e23.1 rfl
    simp only [e19, e21, e23] at hK ⊢
    go_simp
    exact hK _ _ (Below.refl _ _) ⟨fun _ => congrArg Value.bool HQ3.out, fun h => by cases h⟩
   | false =>
    replace e21 := e21.2 rfl
    replace e23 := e23.2 rfl
    simp only [e19, e21, e23] at hK ⊢
    go_simp
    exact hK _ _ (Below.refl _ _) ⟨(fun h => by cases h), fun _ => rfl⟩
  ·intro t wq hbq hh K hK
   have e19 := hh.1
   simp only [pick] at e19
   replace e19 : t 19 = (.bool c2) := e19
   have e24 := hh.2.1
   simp only [pick] at e24
   replace e24 : ((c2) = true → t 24 = (.bool o3)) ∧ ((c2) = false → t 24 = undef) := e24
   clear hh
   simp only [filled, filledN, upd, Have, is, any, row, pick, Act.put, List.setIfInBounds_toArray, List.set_cons_zero, List.set_cons_succ, Nat.reduceAdd, Nat.reduceEqDiff, reduceIte, whn] at hK ⊢
   cases c2 with
   | true =>
    replace e24 := e24.1 rfl
    simp only [e19, e24] at hK ⊢
    go_simp
    exact hK _ _ (Below.refl _ _) (by show _ = _; rw [HC3.out]; simp)
   | false =>
    replace e24 := e24.2 rfl
    simp only [e19, e24] at hK ⊢
    go_simp
    exact hK _ _ (Below.refl _ _) (by show _ = _; rw [HC3.out]; simp)
  ·intro t wq hbq hh K hK
   have e25 := hh.1
   simp only [pick] at e25
   replace e25 : t 25 = (.bool c3) := e25
   clear hh
   simp only [filled, filledN, upd, Have, is, any, row, pick, Act.put, List.setIfInBounds_toArray, List.set_cons_zero, List.set_cons_succ, Nat.reduceAdd, Nat.reduceEqDiff, reduceIte, whn] at hK ⊢
   simp only [e25] at hK ⊢
   go_simp
   exact hK _ _ (Below.refl _ _) rfl
  ·intro t wq hbq hh K hK
   have e26 := hh.1
   simp only [pick] at e26
   replace e26 : t 26 = (.bool c3) := e26
   clear hh
   simp only [filled, filledN, upd, Have, is, any, row, pick, Act.put, List.setIfInBounds_toArray, List.set_cons_zero, List.set_cons_succ, Nat.reduceAdd, Nat.reduceEqDiff, reduceIte, whn] at hK ⊢
   cases c3 with
   | true =>
    simp only [e26] at hK ⊢
    go_simp
    exact hK _ _ (Below.refl _ _) ⟨fun _ => rfl, fun h => by cases h⟩
   | false =>
    simp only [e26] at hK ⊢
    go_simp
    exact hK _ _ (Below.refl _ _) ⟨(fun h => by cases h), fun _ => rfl⟩
  ·intro t wq hbq hh K hK
   have e26 := hh.1
   simp only [pick] at e26
   replace e26 : t 26 = (.bool c3) := e26
   have e27 := hh.2.1
   simp only [pick] at e27
   replace e27 : ((c3) = true → t 27 = (.pointer (some ⟨w.heap.size, 4, none⟩))) ∧ ((c3) = false → t 27 = undef) := e27
   clear hh
   simp only [filled, filledN, upd, Have, is, any, row, pick, Act.put, List.setIfInBounds_toArray, List.set_cons_zero, List.set_cons_succ, Nat.reduceAdd, Nat.reduceEqDiff, reduceIte, whn] at hK ⊢
   cases c3 with
   | true =>
    replace e27 := e27.1 rfl
    simp only [e26, e27] at hK ⊢
    have hc := (Bx.cell ((hbq.block _ (by omega)).trans HX1.out) 4).trans (show _ = some (.bool ab4) from rfl)
    go_simp
    exact hK _ _ (Below.refl _ _) ⟨fun _ => rfl, fun h => by cases h⟩
   | false =>
    replace e27 := e27.2 rfl
    simp only [e26, e27] at hK ⊢
    go_simp
    exact hK _ _ (Below.refl _ _) ⟨(fun h => by cases h), fun _ => rfl⟩
  ·intro t wq hbq hh K hK
   have e26 := hh.1
   simp only [pick] at e26
   replace e26 : t 26 = (.bool c3) := e26
   clear hh
   simp only [filled, filledN, upd, Have, is, any, row, pick, Act.put, List.setIfInBounds_toArray, List.set_cons_zero, List.set_cons_succ, Nat.reduceAdd, Nat.reduceEqDiff, reduceIte, whn] at hK ⊢
   cases c3 with
   | true =>
    simp only [e26] at hK ⊢
    go_simp
    exact hK _ _ (Below.refl _ _) ⟨fun _ => rfl, fun h => by cases h⟩
   | false =>
    simp only [e26] at hK ⊢
    go_simp
    exact hK _ _ (Below.refl _ _) ⟨(fun h => by cases h), fun _ => rfl⟩
  ·intro t wq hbq hh K hK
   have e26 := hh.1
   simp only [pick] at e26
   replace e26 : t 26 = (.bool c3) := e26
   have e29 := hh.2.1
   simp only [pick] at e29
   replace e29 : ((c3) = true → t 29 = (.pointer (some ⟨w.heap.size + 1, 4, none⟩))) ∧ ((c3) = false → t 29 = undef) := e29
   clear hh
   simp only [filled, filledN, upd, Have, is, any, row, pick, Act.put, List.setIfInBounds_toArray, List.set_cons_zero, List.set_cons_succ, Nat.reduceAdd, Nat.reduceEqDiff, reduceIte, whn] at hK ⊢
   cases c3 with
   | true =>
    replace e29 := e29.1 rfl
    simp only [e26, e29] at hK ⊢
    have hc := (Bx.cell ((hbq.block _ hlt0).trans HX2.out) 4).trans (show _ = some (.bool bb4) from rfl)
    go_simp
    exact hK _ _ (Below.refl _ _) ⟨fun _ => rfl, fun h => by cases h⟩
   | false =>
    replace e29 := e29.2 rfl
    simp only [e26, e29] at hK ⊢
    go_simp
    exact hK _ _ (Below.refl _ _) ⟨(fun h => by cases h), fun _ => rfl⟩
  ·intro t wq hbq hh K hK
   have e26 := hh.1
   simp only [pick] at e26
   replace e26 : t 26 = (.bool c3) := e26
   clear hh
   simp only [filled, filledN, upd, Have, is, any, row, pick, Act.put, List.setIfInBounds_toArray, List.set_cons_zero, List.set_cons_succ, Nat.reduceAdd, Nat.reduceEqDiff, reduceIte, whn] at hK ⊢
   cases c3 with
   | true =>
    simp only [e26] at hK ⊢
    go_simp
    exact hK _ _ (Below.refl _ _) ⟨fun _ => rfl, fun h => by cases h⟩
   | false =>
    simp only [e26] at hK ⊢
    go_simp
    exact hK _ _ (Below.refl _ _) ⟨(fun h => by cases h), fun _ => rfl⟩
  ·intro t wq hbq hh K hK
   have e26 := hh.1
   simp only [pick] at e26
   replace e26 : t 26 = (.bool c3) := e26
   have e31 := hh.2.1
   simp only [pick] at e31
   replace e31 : ((c3) = true → t 31 = (.pointer (some ⟨w.heap.size, 3, none⟩))) ∧ ((c3) = false → t 31 = undef) := e31
   clear hh
   simp only [filled, filledN, upd, Have, is, any, row, pick, Act.put, List.setIfInBounds_toArray, List.set_cons_zero, List.set_cons_succ, Nat.reduceAdd, Nat.reduceEqDiff, reduceIte, whn] at hK ⊢
   cases c3 with
   | true =>
    replace e31 := e31.1 rfl
    simp only [e26, e31] at hK ⊢
    have hc := (Bx.cell ((hbq.block _ (by omega)).trans HX1.out) 3).trans (show _ = some (.string as3) from rfl)
    go_simp
    exact hK _ _ (Below.refl _ _) ⟨fun _ => rfl, fun h => by cases h⟩
   | false =>
    replace e31 := e31.2 rfl
    simp only [e26, e31] at hK ⊢
    go_simp
    exact hK _ _ (Below.refl _ _) ⟨(fun h => by cases h), fun _ => rfl⟩
  ·intro t wq hbq hh K hK
   have e26 := hh.1
   simp only [pick] at e26
   replace e26 : t 26 = (.bool c3) := e26
   clear hh
   simp only [filled, filledN, upd, Have, is, any, row, pick, Act.put, List.setIfInBounds_toArray, List.set_cons_zero, List.set_cons_succ, Nat.reduceAdd, Nat.reduceEqDiff, reduceIte, whn] at hK ⊢
   cases c3 with
   | true =>
    simp only [e26] at hK ⊢
    go_simp
    exact hK _ _ (Below.refl _ _) ⟨fun _ => rfl, fun h => by cases h⟩
   | false =>
    simp only [e26] at hK ⊢
    go_simp
    exact hK _ _ (Below.refl _ _) ⟨(fun h => by cases h), fun _ => rfl⟩
  ·intro t wq hbq hh K hK
   have e26 := hh.1
   simp only [pick] at e26
   replace e26 : t 26 = (.bool c3) := e26
   have e33 := hh.2.1
   simp only [pick] at e33
   replace e33 : ((c3) = true → t 33 = (.pointer (some ⟨w.heap.size + 1, 3, none⟩))) ∧ ((c3) = false → t 33 = undef) := e33
   clear hh
   simp only [filled, filledN, upd, Have, is, any, row, pick, Act.put, List.setIfInBounds_toArray, List.set_cons_zero, List.set_cons_succ, Nat.reduceAdd, Nat.reduceEqDiff, reduceIte, whn] at hK ⊢
   cases c3 with
   | true =>
    replace e33 := e33.1 rfl
    simp only [e26, e33] at hK ⊢
    have hc := (Bx.cell ((hbq.block _ hlt0).trans HX2.out) 3).trans (show _ = some (.string bs3) from rfl)
    go_simp
    exact hK _ _ (Below.refl _ _) ⟨fun _ => rfl, fun h => by cases h⟩
   | false =>
    replace e33 := e33.2 rfl
    simp only [e26, e33] at hK ⊢
    go_simp
    exact hK _ _ (Below.refl _ _) ⟨(fun h => by cases h), fun _ => rfl⟩
  ·intro t wq hbq hh K hK
   have e26 := hh.1
   simp only [pick] at e26
   replace e26 : t 26 = (.bool c3) := e26
   have e28 := hh.2.1
   simp only [pick] at e28
   replace e28 : ((c3) = true → t 28 = (.bool ab4)) ∧ ((c3) = false → t 28 = undef) := e28
   have e30 := hh.2.2.1
   simp only [pick] at e30
   replace e30 : ((c3) = true → t 30 = (.bool bb4)) ∧ ((c3) = false → t 30 = undef) := e30
   have e32 := hh.2.2.2.1
   simp only [pick] at e32
   replace e32 : ((c3) = true → t 32 = (.string as3)) ∧ ((c3) = false → t 32 = undef) := e32
   have e34 := hh.2.2.2.2.1
   simp only [pick] at e34
   replace e34 : ((c3) = true → t 34 = (.string bs3)) ∧ ((c3) = false → t 34 = undef) := e34
   clear hh
   simp only [filled, filledN, upd, Have, is, any, row, pick, Act.put, List.setIfInBounds_toArray, List.set_cons_zero, List.set_cons_succ, Nat.reduceAdd, Nat.reduceEqDiff, reduceIte, whn] at hK ⊢
   cases c3 with
   | true =>
    replace e28 := e28.1 rfl
    replace e30 := e30.1 rfl
    replace e32 := e32.1 rfl
    replace e34 := e34.1 rfl
    simp only [e26, e28, e30, e32, e34] at hK ⊢
    go_simp
    refine (sameText_any _ _ _ _ _).mono ?_
    rintro e w5 ⟨rfl, hw⟩
    subst hw
    rw [← H4.out]
    exact hK _ _ (Below.refl _ _) ⟨fun _ => rfl, fun h => by cases h⟩
   | false =>
    replace e28 := e28.2 rfl
    replace e30 := e30.2 rfl
    replace e32 := e32.2 rfl
    replace e34 := e34.2 rfl
    simp only [e26, e28, e30, e32, e34] at hK ⊢
    go_simp
    exact hK _ _ (Below.refl _ _) ⟨(fun h => by cases h), fun _ => rfl⟩
  ·intro t wq hbq hh K hK
   have e26 := hh.1
   simp only [pick] at e26
   replace e26 : t 26 = (.bool c3) := e26
   have e35 := hh.2.1
   simp only [pick] at e35
   replace e35 : ((c3) = true → t 35 = (.bool o4)) ∧ ((c3) = false → t 35 = undef) := e35
   clear hh
   simp only [filled, filledN, upd, Have, is, any, row, pick, Act.put, List.setIfInBounds_toArray, List.set_cons_zero, List.set_cons_succ, Nat.reduceAdd, Nat.reduceEqDiff, reduceIte, whn] at hK ⊢
   cases c3 with
   | true =>
    replace e35 := e35.1 rfl
    simp only [e26, e35] at hK ⊢
    go_simp
    exact hK _ _ (Below.refl _ _) (by show _ = _; rw [HC4.out]; simp)
   | false =>
    replace e35 := e35.2 rfl
    simp only [e26, e35] at hK ⊢
    go_simp
    exact hK _ _ (Below.refl _ _) (by show _ = _; rw [HC4.out]; simp)
  ·intro t wq hbq hh K hK
   have e36 := hh.1
   simp only [pick] at e36
   replace e36 : t 36 = (.bool c4) := e36
   clear hh
   simp only [filled, filledN, upd, Have, is, any, row, pick, Act.put, List.setIfInBounds_toArray, List.set_cons_zero, List.set_cons_succ, Nat.reduceAdd, Nat.reduceEqDiff, reduceIte, whn] at hK ⊢
   simp only [e36] at hK ⊢
   go_simp
   exact hK _ _ (Below.refl _ _) rfl
  ·intro t wq hbq hh K hK
   have e37 := hh.1
   simp only [pick] at e37
   replace e37 : t 37 = (.bool c4) := e37
   clear hh
   simp only [filled, filledN, upd, Have, is, any, row, pick, Act.put, List.setIfInBounds_toArray, List.set_cons_zero, List.set_cons_succ, Nat.reduceAdd, Nat.reduceEqDiff, reduceIte, whn] at hK ⊢
   cases c4 with
   | true =>
    simp only [e37] at hK ⊢
    have hx := (hbq.block _ (by omega)).trans HX1.out
    obtain ⟨cc0, cc1, cc2, cc3, cc4, cc5, cc6, cc7, cc8, cc9, cc10, cc11, cc12⟩ := cells13 hx
    clear hx
    go_simp
    exact hK _ _ (Below.refl _ _) ⟨fun _ => rfl, fun h => by cases h⟩
   | false =>
    simp only [e37] at hK ⊢
    go_simp
    exact hK _ _ (Below.refl _ _) ⟨(fun h => by cases h), fun _ => rfl⟩
  ·intro t wq hbq hh K hK
   have e37 := hh.1
   simp only [pick] at e37
   replace e37 : t 37 = (.bool c4) := e37
   clear hh
   simp only [filled, filledN, upd, Have, is, any, row, pick, Act.put, List.setIfInBounds_toArray, List.set_cons_zero, List.set_cons_succ, Nat.reduceAdd, Nat.reduceEqDiff, reduceIte, whn] at hK ⊢
   cases c4 with
   | true =>
    simp only [e37] at hK ⊢
    have hx := (hbq.block _ hlt0).trans HX2.out
    obtain ⟨cc0, cc1, cc2, cc3, cc4, cc5, cc6, cc7, cc8, cc9, cc10, cc11, cc12⟩ := cells13 hx
    clear hx
    go_simp
    exact hK _ _ (Below.refl _ _) ⟨fun _ => rfl, fun h => by cases h⟩
   | false =>
    simp only [e37] at hK ⊢
    go_simp
    exact hK _ _ (Below.refl _ _) ⟨(fun h => by cases h), fun _ => rfl⟩
  ·intro t wq hbq hh K hK
   have e37 := hh.1
   simp only [pick] at e37
   replace e37 : t 37 = (.bool c4) := e37
   have e38 := hh.2.1
   simp only [pick] at e38
   replace e38 : ((c4) = true → t 38 = (.agg #[.string as0, .string as1, .string as2, .string as3, .bool ab4, .int .i64 az5, .bool ab6, .string as7, .slice aA an acap, .bool ab9, .bool ab10, .string as11, .string as12])) ∧ ((c4) = false → t 38 = undef) := e38
   have e39 := hh.2.2.1
   simp only [pick] at e39
   replace e39 : ((c4) = true → t 39 = (.agg #[.string bs0, .string bs1, .string bs2, .string bs3, .bool bb4, .int .i64 bz5, .bool bb6, .string bs7, .slice bA bn bcap, .bool bb9, .bool bb10, .string bs11, .string bs12])) ∧ ((c4) = false → t 39 = undef) := e39
   clear hh
   simp only [filled, filledN, upd, Have, is, any, row, pick, Act.put, List.setIfInBounds_toArray, List.set_cons_zero, List.set_cons_succ, Nat.reduceAdd, Nat.reduceEqDiff, reduceIte, whn] at hK ⊢
   cases c4 with
   | true =>
    replace e38 := e38.1 rfl
    replace e39 := e39.1 rfl
    simp only [e37, e38, e39] at hK ⊢
    go_simp
    refine (samePath_any as0 as1 as2 as3 ab4 az5 ab6 as7 aA an acap al ab9 ab10 as11 as12 bs0 bs1 bs2 bs3 bb4 bz5 bb6 bs7 bA bn bcap bl bb9 bb10 bs11 bs12 _ (HR.out.below (HB0.out.trans (hbq.mono HB0.out.size))) ahnc ahcm (HR2.out.below (HB0.out.trans (hbq.mono HB0.out.size))) bhnc bhcm).mono ?_
    rintro e w5 ⟨rfl, hb5⟩
    rw [← H5.out]
    exact hK _ _ hb5 ⟨fun _ => rfl, fun h => by cases h⟩
   | false =>
    replace e38 := e38.2 rfl
    replace e39 := e39.2 rfl
    simp only [e37, e38, e39] at hK ⊢
    go_simp
    exact hK _ _ (Below.refl _ _) ⟨(fun h => by cases h), fun _ => rfl⟩
  ·intro t wq hbq hh K hK
   have e37 := hh.1
   simp only [pick] at e37
   replace e37 : t 37 = (.bool c4) := e37
   have e40 := hh.2.1
   simp only [pick] at e40
   replace e40 : ((c4) = true → t 40 = (.bool o5)) ∧ ((c4) = false → t 40 = undef) := e40
   clear hh
   simp only [filled, filledN, upd, Have, is, any, row, pick, Act.put, List.setIfInBounds_toArray, List.set_cons_zero, List.set_cons_succ, Nat.reduceAdd, Nat.reduceEqDiff, reduceIte, whn] at hK ⊢
   cases c4 with
   | true =>
    replace e40 := e40.1 rfl
    simp only [e37, e40] at hK ⊢
    go_simp
    exact hK _ _ (Below.refl _ _) (by show _ = _; rw [HC5.out]; simp)
   | false =>
    replace e40 := e40.2 rfl
    simp only [e37, e40] at hK ⊢
    go_simp
    exact hK _ _ (Below.refl _ _) (by show _ = _; rw [HC5.out]; simp)
  ·intro t wq hbq hh K hK
   have e41 := hh.1
   simp only [pick] at e41
   replace e41 : t 41 = (.bool c5) := e41
   clear hh
   simp only [filled, filledN, upd, Have, is, any, row, pick, Act.put, List.setIfInBounds_toArray, List.set_cons_zero, List.set_cons_succ, Nat.reduceAdd, Nat.reduceEqDiff, reduceIte, whn] at hK ⊢
   simp only [e41] at hK ⊢
   go_simp
   exact hK _ _ (Below.refl _ _) rfl
  ·intro t wq hbq hh K hK
   have e42 := hh.1
   simp only [pick] at e42
   replace e42 : t 42 = (.bool c5) := e42
   clear hh
   simp only [filled, filledN, upd, Have, is, any, row, pick, Act.put, List.setIfInBounds_toArray, List.set_cons_zero, List.set_cons_succ, Nat.reduceAdd, Nat.reduceEqDiff, reduceIte, whn] at hK ⊢
   cases c5 with
   | true =>
    simp only [e42] at hK ⊢
    go_simp
    exact hK _ _ (Below.refl _ _) ⟨fun _ => rfl, fun h => by cases h⟩
   | false =>
    simp only [e42] at hK ⊢
    go_simp
    exact hK _ _ (Below.refl _ _) ⟨(fun h => by cases h), fun _ => rfl⟩
  ·intro t wq hbq hh K hK
   have e42 := hh.1
   simp only [pick] at e42
   replace e42 : t 42 = (.bool c5) := e42
   have e43 := hh.2.1
   simp only [pick] at e43
   replace e43 : ((c5) = true → t 43 = (.pointer (some ⟨w.heap.size, 9, none⟩))) ∧ ((c5) = false → t 43 = undef) := e43
   clear hh
   simp only [filled, filledN, upd, Have, is, any, row, pick, Act.put, List.setIfInBounds_toArray, List.set_cons_zero, List.set_cons_succ, Nat.reduceAdd, Nat.reduceEqDiff, reduceIte, whn] at hK ⊢
   cases c5 with
   | true =>
    replace e43 := e43.1 rfl
    simp only [e42, e43] at hK ⊢
    have hc := (Bx.cell ((hbq.block _ (by omega)).trans HX1.out) 9).trans (show _ = some (.bool ab9) from rfl)
    go_simp
    exact hK _ _ (Below.refl _ _) ⟨fun _ => rfl, fun h => by cases h⟩
   | false =>
    replace e43 := e43.2 rfl
    simp only [e42, e43] at hK ⊢
    go_simp
    exact hK _ _ (Below.refl _ _) ⟨(fun h => by cases h), fun _ => rfl⟩
  ·intro t wq hbq hh K hK
   have e42 := hh.1
   simp only [pick] at e42
   replace e42 : t 42 = (.bool c5) := e42
   clear hh
   simp only [filled, filledN, upd, Have, is, any, row, pick, Act.put, List.setIfInBounds_toArray, List.set_cons_zero, List.set_cons_succ, Nat.reduceAdd, Nat.reduceEqDiff, reduceIte, whn] at hK ⊢
   cases c5 with
   | true =>
    simp only [e42] at hK ⊢
    go_simp
    exact hK _ _ (Below.refl _ _) ⟨fun _ => rfl, fun h => by cases h⟩
   | false =>
    simp only [e42] at hK ⊢
    go_simp
    exact hK _ _ (Below.refl _ _) ⟨(fun h => by cases h), fun _ => rfl⟩
  ·intro t wq hbq hh K hK
   have e42 := hh.1
   simp only [pick] at e42
   replace e42 : t 42 = (.bool c5) := e42
   have e45 := hh.2.1
   simp only [pick] at e45
   replace e45 : ((c5) = true → t 45 = (.pointer (some ⟨w.heap.size + 1, 9, none⟩))) ∧ ((c5) = false → t 45 = undef) := e45
   clear hh
   simp only [filled, filledN, upd, Have, is, any, row, pick, Act.put, List.setIfInBounds_toArray, List.set_cons_zero, List.set_cons_succ, Nat.reduceAdd, Nat.reduceEqDiff, reduceIte, whn] at hK ⊢
   cases c5 with
   | true =>
    replace e45 := e45.1 rfl
    simp only [e42, e45] at hK ⊢
    have hc := (Bx.cell ((hbq.block _ hlt0).trans HX2.out) 9).trans (show _ = some (.bool bb9) from rfl)
    go_simp
    exact hK _ _ (Below.refl _ _) ⟨fun _ => rfl, fun h => by cases h⟩
   | false =>
    replace e45 := e45.2 rfl
    simp only [e42, e45] at hK ⊢
    go_simp
    exact hK _ _ (Below.refl _ _) ⟨(fun h => by cases h), fun _ => rfl⟩
  ·intro t wq hbq hh K hK
   have e42 := hh.1
   simp only [pick] at e42
   replace e42 : t 42 = (.bool c5) := e42
   clear hh
   simp only [filled, filledN, upd, Have, is, any, row, pick, Act.put, List.setIfInBounds_toArray, List.set_cons_zero, List.set_cons_succ, Nat.reduceAdd, Nat.reduceEqDiff, reduceIte, whn] at hK ⊢
   cases c5 with
   | true =>
    simp only [e42] at hK ⊢
    go_simp
    exact hK _ _ (Below.refl _ _) ⟨fun _ => rfl, fun h => by cases h⟩
   | false =>
    simp only [e42] at hK ⊢
    go_simp
    exact hK _ _ (Below.refl _ _) ⟨(fun h => by cases h), fun _ => rfl⟩
  ·intro t wq hbq hh K hK
   have e42 := hh.1
   simp only [pick] at e42
   replace e42 : t 42 = (.bool c5) := e42
   have e47 := hh.2.1
   simp only [pick] at e47
   replace e47 : ((c5) = true → t 47 = (.pointer (some ⟨w.heap.size, 11, none⟩))) ∧ ((c5) = false → t 47 = undef) := e47
   clear hh
   simp only [filled, filledN, upd, Have, is, any, row, pick, Act.put, List.setIfInBounds_toArray, List.set_cons_zero, List.set_cons_succ, Nat.reduceAdd, Nat.reduceEqDiff, reduceIte, whn] at hK ⊢
   cases c5 with
   | true =>
    replace e47 := e47.1 rfl
    simp only [e42, e47] at hK ⊢
    have hc := (Bx.cell ((hbq.block _ (by omega)).trans HX1.out) 11).trans (show _ = some (.string as11) from rfl)
    go_simp
    exact hK _ _ (Below.refl _ _) ⟨fun _ => rfl, fun h => by cases h⟩
   | false =>
    replace e47 := e47.2 rfl
    simp only [e42, e47] at hK ⊢
    go_simp
    exact hK _ _ (Below.refl _ _) ⟨(fun h => by cases h), fun _ => rfl⟩
  ·intro t wq hbq hh K hK
   have e42 := hh.1
   simp only [pick] at e42
   replace e42 : t 42 = (.bool c5) := e42
   clear hh
   simp only [filled, filledN, upd, Have, is, any, row, pick, Act.put, List.setIfInBounds_toArray, List.set_cons_zero, List.set_cons_succ, Nat.reduceAdd, Nat.reduceEqDiff, reduceIte, whn] at hK ⊢
   cases c5 with
   | true =>
    simp only [e42] at hK ⊢
    go_simp
    exact hK _ _ (Below.refl _ _) ⟨fun _ => rfl, fun h => by cases h⟩
   | false =>
    simp only [e42] at hK ⊢
    go_simp
    exact hK _ _ (Below.refl _ _) ⟨(fun h => by cases h), fun _ => rfl⟩
  ·intro t wq hbq hh K hK
   have e42 := hh.1
   simp only [pick] at e42
   replace e42 : t 42 = (.bool c5) := e42
   have e49 := hh.2.1
   simp only [pick] at e49
   replace e49 : ((c5) = true → t 49 = (.pointer (some ⟨w.heap.size + 1, 11, none⟩))) ∧ ((c5) = false → t 49 = undef) := e49
   clear hh
   simp only [filled, filledN, upd, Have, is, any, row, pick, Act.put, List.setIfInBounds_toArray, List.set_cons_zero, List.set_cons_succ, Nat.reduceAdd, Nat.reduceEqDiff, reduceIte, whn] at hK ⊢
   cases c5 with
   | true =>
    replace e49 := e49.1 rfl
    simp only [e42, e49] at hK ⊢
    have hc := (Bx.cell ((hbq.block _ hlt0).trans HX2.out) 11).trans (show _ = some (.string bs11) from rfl)
    go_simp
    exact hK _ _ (Below.refl _ _) ⟨fun _ => rfl, fun h => by cases h⟩
   | false =>
    replace e49 := e49.2 rfl
    simp only [e42, e49] at hK ⊢
    go_simp
    exact hK _ _ (Below.refl _ _) ⟨(fun h => by cases h), fun _ => rfl⟩
  ·intro t wq hbq hh K hK
   have e42 := hh.1
   simp only [pick] at e42
   replace e42 : t 42 = (.bool c5) := e42
   have e44 := hh.2.1
   simp only [pick] at e44
   replace e44 : ((c5) = true → t 44 = (.bool ab9)) ∧ ((c5) = false → t 44 = undef) := e44
   have e46 := hh.2.2.1
   simp only [pick] at e46
   replace e46 : ((c5) = true → t 46 = (.bool bb9)) ∧ ((c5) = false → t 46 = undef) := e46
   have e48 := hh.2.2.2.1
   simp only [pick] at e48
   replace e48 : ((c5) = true → t 48 = (.string as11)) ∧ ((c5) = false → t 48 = undef) := e48
   have e50 := hh.2.2.2.2.1
   simp only [pick] at e50
   replace e50 : ((c5) = true → t 50 = (.string bs11)) ∧ ((c5) = false → t 50 = undef) := e50
   clear hh
   simp only [filled, filledN, upd, Have, is, any, row, pick, Act.put, List.setIfInBounds_toArray, List.set_cons_zero, List.set_cons_succ, Nat.reduceAdd, Nat.reduceEqDiff, reduceIte, whn] at hK ⊢
   cases c5 with
   | true =>
    replace e44 := e44.1 rfl
    replace e46 := e46.1 rfl
    replace e48 := e48.1 rfl
    replace e50 := e50.1 rfl
    simp only [e42, e44, e46, e48, e50] at hK ⊢
    go_simp
    refine (sameText_any _ _ _ _ _).mono ?_
    rintro e w5 ⟨rfl, hw⟩
    subst hw
    rw [← H6.out]
    exact hK _ _ (Below.refl _ _) ⟨fun _ => rfl, fun h => by cases h⟩
   | false =>
    replace e44 := e44.2 rfl
    replace e46 := e46.2 rfl
    replace e48 := e48.2 rfl
    replace e50 := e50.2 rfl
    simp only [e42, e44, e46, e48, e50] at hK ⊢
    go_simp
    exact hK _ _ (Below.refl _ _) ⟨(fun h => by cases h), fun _ => rfl⟩
  ·intro t wq hbq hh K hK
   have e42 := hh.1
   simp only [pick] at e42
   replace e42 : t 42 = (.bool c5) := e42
   have e51 := hh.2.1
   simp only [pick] at e51
   replace e51 : ((c5) = true → t 51 = (.bool o6)) ∧ ((c5) = false → t 51 = undef) := e51
   clear hh
   simp only [filled, filledN, upd, Have, is, any, row, pick, Act.put, List.setIfInBounds_toArray, List.set_cons_zero, List.set_cons_succ, Nat.reduceAdd, Nat.reduceEqDiff, reduceIte, whn] at hK ⊢
   cases c5 with
   | true =>
    replace e51 := e51.1 rfl
    simp only [e42, e51] at hK ⊢
    go_simp
    exact hK _ _ (Below.refl _ _) (by show _ = _; rw [HC6.out]; simp)
   | false =>
    replace e51 := e51.2 rfl
    simp only [e42, e51] at hK ⊢
    go_simp
    exact hK _ _ (Below.refl _ _) (by show _ = _; rw [HC6.out]; simp)
  ·intro t wq hbq hh K hK
   have e52 := hh.1
   simp only [pick] at e52
   replace e52 : t 52 = (.bool c6) := e52
   clear hh
   simp only [filled, filledN, upd, Have, is, any, row, pick, Act.put, List.setIfInBounds_toArray, List.set_cons_zero, List.set_cons_succ, Nat.reduceAdd, Nat.reduceEqDiff, reduceIte, whn] at hK ⊢
   simp only [e52] at hK ⊢
   go_simp
   exact hK _ _ (Below.refl _ _) rfl
  ·intro t wq hbq hh K hK
   have e53 := hh.1
   simp only [pick] at e53
   replace e53 : t 53 = (.bool c6) := e53
   clear hh
   simp only [filled, filledN, upd, Have, is, any, row, pick, Act.put, List.setIfInBounds_toArray, List.set_cons_zero, List.set_cons_succ, Nat.reduceAdd, Nat.reduceEqDiff, reduceIte, whn] at hK ⊢
   cases c6 with
   | true =>
    simp only [e53] at hK ⊢
    go_simp
    exact hK _ _ (Below.refl _ _) ⟨fun _ => rfl, fun h => by cases h⟩
   | false =>
    simp only [e53] at hK ⊢
    go_simp
    exact hK _ _ (Below.refl _ _) ⟨(fun h => by cases h), fun _ => rfl⟩
  ·intro t wq hbq hh K hK
   have e53 := hh.1
   simp only [pick] at e53
   replace e53 : t 53 = (.bool c6) := e53
   have e54 := hh.2.1
   simp only [pick] at e54
   replace e54 : ((c6) = true → t 54 = (.pointer (some ⟨w.heap.size, 10, none⟩))) ∧ ((c6) = false → t 54 = undef) := e54
   clear hh
   simp only [filled, filledN, upd, Have, is, any, row, pick, Act.put, List.setIfInBounds_toArray, List.set_cons_zero, List.set_cons_succ, Nat.reduceAdd, Nat.reduceEqDiff, reduceIte, whn] at hK ⊢
   cases c6 with
   | true =>
    replace e54 := e54.1 rfl
    simp only [e53, e54] at hK ⊢
    have hc := (Bx.cell ((hbq.block _ (by omega)).trans HX1.out) 10).trans (show _ = some (.bool ab10) from rfl)
    go_simp
    exact hK _ _ (Below.refl _ _) ⟨fun _ => rfl, fun h => by cases h⟩
   | false =>
    replace e54 := e54.2 rfl
    simp only [e53, e54] at hK ⊢
    go_simp
    exact hK _ _ (Below.refl _ _) ⟨(fun h => by cases h), fun _ => rfl⟩
  ·intro t wq hbq hh K hK
   have e53 := hh.1
   simp only [pick] at e53
   replace e53 : t 53 = (.bool c6) := e53
   clear hh
   simp only [filled, filledN, upd, Have, is, any, row, pick, Act.put, List.setIfInBounds_toArray, List.set_cons_zero, List.set_cons_succ, Nat.reduceAdd, Nat.reduceEqDiff, reduceIte, whn] at hK ⊢
   cases c6 with
   | true =>
    simp only [e53] at hK ⊢
    go_simp
    exact hK _ _ (Below.refl _ _) ⟨fun _ => rfl, fun h => by cases h⟩
   | false =>
    simp only [e53] at hK ⊢
    go_simp
    exact hK _ _ (Below.refl _ _) ⟨(fun h => by cases h), fun _ => rfl⟩
  ·intro t wq hbq hh K hK
   have e53 := hh.1
   simp only [pick] at e53
   replace e53 : t 53 = (.bool c6) := e53
   have e56 := hh.2.1
   simp only [pick] at e56
   replace e56 : ((c6) = true → t 56 = (.pointer (some ⟨w.heap.size + 1, 10, none⟩))) ∧ ((c6) = false → t 56 = undef) := e56
   clear hh
   simp only [filled, filledN, upd, Have, is, any, row, pick, Act.put, List.setIfInBounds_toArray, List.set_cons_zero, List.set_cons_succ, Nat.reduceAdd, Nat.reduceEqDiff, reduceIte, whn] at hK ⊢
   cases c6 with
   | true =>
    replace e56 := e56.1 rfl
    simp only [e53, e56] at hK ⊢
    have hc := (Bx.cell ((hbq.block _ hlt0).trans HX2.out) 10).trans (show _ = some (.bool bb10) from rfl)
    go_simp
    exact hK _ _ (Below.refl _ _) ⟨fun _ => rfl, fun h => by cases h⟩
   | false =>
    replace e56 := e56.2 rfl
    simp only [e53, e56] at hK ⊢
    go_simp
    exact hK _ _ (Below.refl _ _) ⟨(fun h => by cases h), fun _ => rfl⟩
  ·intro t wq hbq hh K hK
   have e53 := hh.1
   simp only [pick] at e53
   replace e53 : t 53 = (.bool c6) := e53
   clear hh
   simp only [filled, filledN, upd, Have, is, any, row, pick, Act.put, List.setIfInBounds_toArray, List.set_cons_zero, List.set_cons_succ, Nat.reduceAdd, Nat.reduceEqDiff, reduceIte, whn] at hK ⊢
   cases c6 with
   | true =>
    simp only [e53] at hK ⊢
    go_simp
    exact hK _ _ (Below.refl _ _) ⟨fun _ => rfl, fun h => by cases h⟩
   | false =>
    simp only [e53] at hK ⊢
    go_simp
    exact hK _ _ (Below.refl _ _) ⟨(fun h => by cases h), fun _ => rfl⟩
  ·intro t wq hbq hh K hK
   have e53 := hh.1
   simp only [pick] at e53
   replace e53 : t 53 = (.bool c6) := e53
   have e58 := hh.2.1
   simp only [pick] at e58
   replace e58 : ((c6) = true → t 58 = (.pointer (some ⟨w.heap.size, 12, none⟩))) ∧ ((c6) = false → t 58 = undef) := e58
   clear hh
   simp only [filled, filledN, upd, Have, is, any, row, pick, Act.put, List.setIfInBounds_toArray, List.set_cons_zero, List.set_cons_succ, Nat.reduceAdd, Nat.reduceEqDiff, reduceIte, whn] at hK ⊢
   cases c6 with
   | true =>
    replace e58 := e58.1 rfl
    simp only [e53, e58] at hK ⊢
    have hc := (Bx.cell ((hbq.block _ (by omega)).trans HX1.out) 12).trans (show _ = some (.string as12) from rfl)
    go_simp
    exact hK _ _ (Below.refl _ _) ⟨fun _ => rfl, fun h => by cases h⟩
   | false =>
    replace e58 := e58.2 rfl
    simp only [e53, e58] at hK ⊢
    go_simp
    exact hK _ _ (Below.refl _ _) ⟨(fun h => by cases h), fun _ => rfl⟩
  ·intro t wq hbq hh K hK
   have e53 := hh.1
   simp only [pick] at e53
   replace e53 : t 53 = (.bool c6) := e53
   clear hh
   simp only [filled, filledN, upd, Have, is, any, row, pick, Act.put, List.setIfInBounds_toArray, List.set_cons_zero, List.set_cons_succ, Nat.reduceAdd, Nat.reduceEqDiff, reduceIte, whn] at hK ⊢
   cases c6 with
   | true =>
    simp only [e53] at hK ⊢
    go_simp
    exact hK _ _ (Below.refl _ _) ⟨fun _ => rfl, fun h => by cases h⟩
   | false =>
    simp only [e53] at hK ⊢
    go_simp
    exact hK _ _ (Below.refl _ _) ⟨(fun h => by cases h), fun _ => rfl⟩
  ·intro t wq hbq hh K hK
   have e53 := hh.1
   simp only [pick] at e53
   replace e53 : t 53 = (.bool c6) := e53
   have e60 := hh.2.1
   simp only [pick] at e60
   replace e60 : ((c6) = true → t 60 = (.pointer (some ⟨w.heap.size + 1, 12, none⟩))) ∧ ((c6) = false → t 60 = undef) := e60
   clear hh
   simp only [filled, filledN, upd, Have, is, any, row, pick, Act.put, List.setIfInBounds_toArray, List.set_cons_zero, List.set_cons_succ, Nat.reduceAdd, Nat.reduceEqDiff, reduceIte, whn] at hK ⊢
   cases c6 with
   | true =>
    replace e60 := e60.1 rfl
    simp only [e53, e60] at hK ⊢
    have hc := (Bx.cell ((hbq.block _ hlt0).trans HX2.out) 12).trans (show _ = some (.string bs12) from rfl)
    go_simp
    exact hK _ _ (Below.refl _ _) ⟨fun _ => rfl, fun h => by cases h⟩
   | false =>
    replace e60 := e60.2 rfl
    simp only [e53, e60] at hK ⊢
    go_simp
    exact hK _ _ (Below.refl _ _) ⟨(fun h => by cases h), fun _ => rfl⟩
  ·intro t wq hbq hh K hK
   have e53 := hh.1
   simp only [pick] at e53
   replace e53 : t 53 = (.bool c6) := e53
   have e55 := hh.2.1
   simp only [pick] at e55
   replace e55 : ((c6) = true → t 55 = (.bool ab10)) ∧ ((c6) = false → t 55 = undef) := e55
   have e57 := hh.2.2.1
   simp only [pick] at e57
   replace e57 : ((c6) = true → t 57 = (.bool bb10)) ∧ ((c6) = false → t 57 = undef) := e57
   have e59 := hh.2.2.2.1
   simp only [pick] at e59
   replace e59 : ((c6) = true → t 59 = (.string as12)) ∧ ((c6) = false → t 59 = undef) := e59
   have e61 := hh.2.2.2.2.1
   simp only [pick] at e61
   replace e61 : ((c6) = true → t 61 = (.string bs12)) ∧ ((c6) = false → t 61 = undef) := e61
   clear hh
   simp only [filled, filledN, upd, Have, is, any, row, pick, Act.put, List.setIfInBounds_toArray, List.set_cons_zero, List.set_cons_succ, Nat.reduceAdd, Nat.reduceEqDiff, reduceIte, whn] at hK ⊢
   cases c6 with
   | true =>
    replace e55 := e55.1 rfl
    replace e57 := e57.1 rfl
    replace e59 := e59.1 rfl
    replace e61 := e61.1 rfl
    simp only [e53, e55, e57, e59, e61] at hK ⊢
    go_simp
    refine (sameText_any _ _ _ _ _).mono ?_
    rintro e w5 ⟨rfl, hw⟩
    subst hw
    rw [← H7.out]
    exact hK _ _ (Below.refl _ _) ⟨fun _ => rfl, fun h => by cases h⟩
   | false =>
    replace e55 := e55.2 rfl
    replace e57 := e57.2 rfl
    replace e59 := e59.2 rfl
    replace e61 := e61.2 rfl
    simp only [e53, e55, e57, e59, e61] at hK ⊢
    go_simp
    exact hK _ _ (Below.refl _ _) ⟨(fun h => by cases h), fun _ => rfl⟩
  ·intro t wq hbq hh K hK
   have e53 := hh.1
   simp only [pick] at e53
   replace e53 : t 53 = (.bool c6) := e53
   have e62 := hh.2.1
   simp only [pick] at e62
   replace e62 : ((c6) = true → t 62 = (.bool o7)) ∧ ((c6) = false → t 62 = undef) := e62
   clear hh
   simp only [filled, filledN, upd, Have, is, any, row, pick, Act.put, List.setIfInBounds_toArray, List.set_cons_zero, List.set_cons_succ, Nat.reduceAdd, Nat.reduceEqDiff, reduceIte, whn] at hK ⊢
   cases c6 with
   | true =>
    replace e62 := e62.1 rfl
    simp only [e53, e62] at hK ⊢
    go_simp
    exact hK _ _ (Below.refl _ _) (by show _ = _; rw [HC7.out]; simp)
   | false =>
    replace e62 := e62.2 rfl
    simp only [e53, e62] at hK ⊢
    go_simp
    exact hK _ _ (Below.refl _ _) (by show _ = _; rw [HC7.out]; simp)
  ·intro t wq hbq hh K hK
   have e63 := hh.1
   simp only [pick] at e63
   replace e63 : t 63 = (.bool c7) := e63
   clear hh
   simp only [filled, filledN, upd, Have, is, any, row, pick, Act.put, List.setIfInBounds_toArray, List.set_cons_zero, List.set_cons_succ, Nat.reduceAdd, Nat.reduceEqDiff, reduceIte, whn] at hK ⊢
   simp only [e63] at hK ⊢
   go_simp
   exact hK _ _ (Below.refl _ _) rfl
 ·intro t wq hbq hh
  have f64 := have_get hh 64 (by decide)
  simp only [pick] at f64
  replace f64 : t 64 = (.bool c7) := f64
  clear hh
  simp only [List.length_cons, List.length_nil, Nat.reduceAdd, filled, filledN, upd, Have, is, any, row, pick, Act.put, List.setIfInBounds_toArray, List.set_cons_zero, List.set_cons_succ, Nat.reduceAdd, Nat.reduceEqDiff, reduceIte, whn]
  simp only [f64]
  go_wp2
  go_ret
  exact ⟨ret_bool HE.out.symm, HB0.out.trans (hbq.mono HB0.out.size)⟩
end Go.Proofs.YtmdofbccebkbiaaGreatDoor.UrlF
namespace Go.Proofs.YtmdofbccebkbiaaGreatDoor.BldA
open Go.RowKit Base Base2
theorem sizeB : (Tryz.prog.info? 77).map (·.size) = some 2 := by kernel_rfl
theorem liesB : liesAt Tryz.prog Tryz.prog.depth 77 (2 / Tryz.prog.cellsOf 77) 0 77 1 = true := by kernel_rfl
abbrev IsB (B b : Nat) (l : List UInt8) (w : World) : Prop := Lib.IsBuilder 77 5 B b (Lib.byteCells l) w
set_option maxHeartbeats 1000000 in
set_option maxRecDepth 100000 in
theorem check_used (b : Nat) (w : World) (h0 : w.cell? ⟨b, 0, none⟩ = some (.pointer (some ⟨b, 0, none⟩))) :
  Calls Tryz.prog 132 #[.pointer (some ⟨b, 0, none⟩)] w fun e w' => e = .returned (.tuple #[]) ∧ w' = w := by
 obtain ⟨j, hj, _⟩ := Option.map_eq_some_iff.1 sizeB
 go_enter Tryz.func132, Tryz.ntmps132
 go_wp2
 rw [Lib.run_neq_ptr_same w _ Tryz.underlying75 hj]
 go_wp2
 go_end0
 exact ⟨rfl, rfl⟩
set_option maxHeartbeats 1000000 in
set_option maxRecDepth 100000 in
theorem check_fresh (b : Nat) (w : World) (h0 : w.cell? ⟨b, 0, none⟩ = some (.pointer none)) (hsh : w.shape? b = some (77, 2)) (hfz : w.frozen? ⟨b, 0, none⟩ = false) :
  Calls Tryz.prog 132 #[.pointer (some ⟨b, 0, none⟩)] w fun e w' => e = .returned (.tuple #[]) ∧ w' = w.setCell ⟨b, 0, none⟩ (.pointer (some ⟨b, 0, none⟩)) := by
 obtain ⟨j, hj, hjs⟩ := Option.map_eq_some_iff.1 sizeB
 go_enter Tryz.func132, Tryz.ntmps132
 go_wp2
 rw [Lib.run_to_unsafe w ⟨b, 0, none⟩ Tryz.underlying75 Tryz.underlying165 hj (by rw [hjs]; decide) hsh (Nat.zero_lt_succ 1)]
 simp only [Result.andThen]
 rw [Oper.upon_value]
 go_wp2
 rw [run_callFunc_extern Tryz.func193 (by kernel_rfl) (by kernel_rfl) (by kernel_rfl) (e := Extern.AbiNoEscape.same) (by kernel_rfl)]
 rw [Lib.run_noEscape]
 simp only [Result.andThen]
 rw [Oper.upon_value]
 go_wp2
 rw [Lib.run_from_unsafe w ⟨b, 0, none⟩ Tryz.underlying165 Tryz.underlying75 hj hsh liesB]
 simp only [Result.andThen]
 rw [Oper.upon_value]
 go_wp2
 go_end0
 exact ⟨rfl, rfl⟩
theorem check_any (B b : Nat) (bs : List Value) (w : World) (h : Lib.IsBuilder 77 5 B b bs w) :
  Calls Tryz.prog 132 #[.pointer (some ⟨b, 0, none⟩)] w fun e w' => e = .returned (.tuple #[]) ∧ (Lib.BuilderAt 77 5 B b (.pointer (some ⟨b, 0, none⟩)) bs w' ∧ Below B w w') := by
 rcases h with h | h
 ·refine (check_fresh b w h.cell0 h.shape h.frozen0).mono ?_
  rintro e w' ⟨rfl, rfl⟩
  exact ⟨rfl, h.used _, (Below.refl B w).setCell (p := ⟨b, 0, none⟩) h.1 _⟩
 ·refine (check_used b w h.cell0).mono ?_
  rintro e w' ⟨rfl, rfl⟩
  exact ⟨rfl, h, Below.refl B _⟩
set_option maxHeartbeats 2000000 in
set_option maxRecDepth 100000 in
theorem write_any (B b : Nat) (l : List UInt8) (s : ByteArray) (w : World) (h : IsB B b l w) (hlen : l.length + s.size ≤ 140737488355328) (hBw : B ≤ w.heap.size) :
  Calls Tryz.prog 61 #[.pointer (some ⟨b, 0, none⟩), .string s] w fun e w' => e = .returned (.tuple #[.int .i64 s.size, .nilIface]) ∧ IsB B b (l ++ s.data.toList) w' ∧ Below B w w' := by
 obtain ⟨i0, hi, hz0, hz1, hz2⟩ := info_parts info_u8
 have hlb : (Lib.byteCells l).length = l.length := by simp [Lib.byteCells]
 have HLB := Base.hid hlb
 clear hlb
 go_enter Tryz.func61, Tryz.ntmps61
 go_wp2_with (refine (check_any B b _ _ h).mono ?_)
 rintro e w1 ⟨rfl, h1, hb1⟩
 obtain ⟨hB, v, hbk, hown, hne⟩ := h1
 have c0 : w1.cell? ⟨b, 0, none⟩ = some (.pointer (some ⟨b, 0, none⟩)) := by rw [Lib.cell_of_heap hbk]; rfl
 have c1 : w1.cell? ⟨b, 1, none⟩ = some v := by rw [Lib.cell_of_heap hbk]; rfl
 go_wp2_with (at_builtin; refine Lib.wpList_append_own_string _ rfl _ _ 61 9 rfl B 5 i0 Tryz.underlying61 Tryz.underlying9 hi hz0 hz1 hz2 _ _ _ rfl hown s rfl ?c3 ?c4 ?c5 ?_)
 case c3 => have := HLB.out; unfold maxLen; omega
 case c4 => have := HLB.out; omega
 case c5 => have := hb1.size; omega
 intro v' w2 hown' hgrow _
 have hlt : b < w1.heap.size := (Array.getElem?_eq_some_iff.1 hbk).1
 have hb2 : w2.heap[b]? = some (.cells #[.pointer (some ⟨b, 0, none⟩), v] 77 (0, 0)) := by
  rw [hgrow.block b hlt (fun e => hne e.symm)]
  exact hbk
 have d0 : w2.cell? ⟨b, 0, none⟩ = some (.pointer (some ⟨b, 0, none⟩)) := by rw [Lib.cell_of_heap hb2]; rfl
 have d1 : w2.cell? ⟨b, 1, none⟩ = some v := by rw [Lib.cell_of_heap hb2]; rfl
 have f1 : w2.frozen? ⟨b, 1, none⟩ = false := Lib.frozen_of_heap hb2 1
 obtain ⟨ao, n', cap, rfl⟩ : ∃ ao n' cap, v' = .slice ao n' cap := by
  rcases hown'.2 with ⟨hv, _⟩ | ⟨g, cap, cur, hv, _⟩
  ·exact ⟨_, _, _, hv⟩
  ·exact ⟨_, _, _, hv⟩
 go_wp2
 go_ret2
 refine ⟨rfl, Or.inr ?_, ?_⟩
 ·have hp := Lib.BuilderAt.put (T := 77) (e := 5) hB hb2 (bs' := Lib.byteCells l ++ Lib.strCells s) (by simpa [Lib.strCells_length] using hown') (by decide)
  have e : Lib.byteCells (l ++ s.data.toList) = Lib.byteCells l ++ Lib.strCells s := by simp [Lib.byteCells, Lib.strCells]
  rw [e]
  exact hp
 ·exact (hb1.grown hgrow (by have := hb1.size; omega) (fun k hk => (hown.lt k hk).1)).setCell (p := ⟨b, 1, none⟩) hB _
end Go.Proofs.YtmdofbccebkbiaaGreatDoor.BldA
namespace Go.Proofs.YtmdofbccebkbiaaGreatDoor.UrlB
open Go.RowKit Base Base2 UrlP BldA
theorem string_any (B b : Nat) (l : List UInt8) (w : World) (h : IsB B b l w) (hBw : B ≤ w.heap.size) :
  Calls Tryz.prog 62 #[.pointer (some ⟨b, 0, none⟩)] w fun e w' => e = .returned (.string (strOf l)) ∧ Below B w w' := Tryz.Builder_String B b l w h hBw
set_option maxHeartbeats 2000000 in
theorem cred_any (s0 : ByteArray) (s1 : ByteArray) (s2 : ByteArray) (s3 : ByteArray) (b4 : Bool) (z5 : Int) (b6 : Bool) (s7 : ByteArray) (A : Option Addr) (n cap : Nat) (l : List ByteArray) (b9 : Bool) (b10 : Bool) (s11 : ByteArray) (s12 : ByteArray) (w : World) (h1 : s1.size ≤ 1073741824) (h2 : s2.size ≤ 1073741824) :
  Calls Tryz.prog 137 #[.agg #[.string s0, .string s1, .string s2, .string s3, .bool b4, .int .i64 z5, .bool b6, .string s7, .slice A n cap, .bool b9, .bool b10, .string s11, .string s12]] w fun e w' => e = .returned (.string (strOf (credL s1 s2))) ∧ Below w.heap.size w w' := by
 have hl1 : s1.data.toList.length = s1.size := Array.length_toList
 have hl2 : s2.data.toList.length = s2.size := Array.length_toList
 by_cases e2 : s2.data.toList = []
 ·have q2 : s2.toList = [] := by rw [tl]; exact e2
  have HC : Hid (credL s1 s2 = if s1.data.toList = [] then [] else s1.data.toList ++ [64]) := if_pos e2
  by_cases e1 : s1.data.toList = []
  ·have q1 : s1.toList = [] := by rw [tl]; exact e1
   have HC2 : Hid (credL s1 s2 = []) := HC.out.trans (if_pos e1)
   clear e1 e2 hl1 hl2
   go_enter Tryz.func137, Tryz.ntmps137
   go_wp2
   go_ret
   exact ⟨by rw [HC2.out]; rfl, (Below.refl _ _).alloc (Nat.le_refl _) _⟩
  ·have q1 : (s1.toList == []) = false := by rw [tl]; simpa using e1
   have q1' : s1.toList.isEmpty = false := by rw [tl]; simpa using e1
   have HC2 : Hid (credL s1 s2 = s1.data.toList ++ [64]) := HC.out.trans (if_neg e1)
   have a1 : ∀ w : World, (Op.stringOp .add s1 ⟨#[64]⟩).run Tryz.prog w = .ok (.string (strOf (s1.data.toList ++ [64]))) w := fun w => str_add' s1 ⟨#[64]⟩ w (by show s1.size + 1 ≤ _; omega)
   clear e1 e2 hl1 hl2
   go_enter Tryz.func137, Tryz.ntmps137
   go_wp2
   go_ret
   exact ⟨by rw [HC2.out]; rfl, (Below.refl _ _).alloc (Nat.le_refl _) _⟩
 ·have q2 : (s2.toList == []) = false := by rw [tl]; simpa using e2
  have q2' : s2.toList.isEmpty = false := by rw [tl]; simpa using e2
  have HC : Hid (credL s1 s2 = s1.data.toList ++ [58] ++ s2.data.toList ++ [64]) := if_neg e2
  obtain ⟨X, hX⟩ : ∃ X, X = strOf (s1.data.toList ++ [58]) := ⟨_, rfl⟩
  obtain ⟨Y, hY⟩ : ∃ Y, Y = strOf (s1.data.toList ++ [58] ++ s2.data.toList) := ⟨_, rfl⟩
  have a1 : ∀ w : World, (Op.stringOp .add s1 ⟨#[58]⟩).run Tryz.prog w = .ok (.string X) w := fun w => by rw [hX]; exact str_add' s1 ⟨#[58]⟩ w (by show s1.size + 1 ≤ _; omega)
  have a2 : ∀ w : World, (Op.stringOp .add X s2).run Tryz.prog w = .ok (.string Y) w := fun w => by rw [hX, hY]; exact str_add' _ s2 w (by rw [size_strOf, List.length_append]; simp; omega)
  have a3 : ∀ w : World, (Op.stringOp .add Y ⟨#[64]⟩).run Tryz.prog w = .ok (.string (strOf (credL s1 s2))) w := fun w => by rw [HC.out, hY]; exact str_add' _ ⟨#[64]⟩ w (by rw [size_strOf]; simp; show _ + 1 ≤ _; omega)
  clear e2 hl1 hl2 hX hY
  go_enter Tryz.func137, Tryz.ntmps137
  go_wp2
  go_ret
  exact ⟨rfl, (Below.refl _ _).alloc (Nat.le_refl _) _⟩
set_option maxHeartbeats 4000000 in
theorem path_any (s0 : ByteArray) (s1 : ByteArray) (s2 : ByteArray) (s3 : ByteArray) (b4 : Bool) (z5 : Int) (b6 : Bool) (s7 : ByteArray) (A : Option Addr) (n cap : Nat) (l : List ByteArray) (b9 : Bool) (b10 : Bool) (s11 : ByteArray) (s12 : ByteArray) (w : World) (hR : Rds w A n (l.map Value.string)) (hnc : n ≤ cap) (hcm : cap ≤ maxLen) (h7 : s7.size ≤ 1073741824) (hl : (pth l).length ≤ 1073741824) :
  Calls Tryz.prog 55 #[.agg #[.string s0, .string s1, .string s2, .string s3, .bool b4, .int .i64 z5, .bool b6, .string s7, .slice A n cap, .bool b9, .bool b10, .string s11, .string s12]] w fun e w' => e = .returned (.string (strOf (pathL b6 s7 l))) ∧ Below w.heap.size w w' := by
 have hn : l.length = n := by rw [← hR.1, List.length_map]
 have hpl := length_pth l
 unfold maxLen at hcm
 cases b6 with
 | true =>
  clear hn hpl
  have HR := hid hR
  clear hR
  go_enter Tryz.func55, Tryz.ntmps55
  go_wp2
  go_ret
  exact ⟨rfl, (Below.refl _ _).alloc (Nat.le_refl _) _⟩
 | false =>
  have HR := hid hR
  have HN := hid hn
  have HPL := hid hpl
  have HLL := hid hl
  clear hR hn hpl hl
  go_enter Tryz.func55, Tryz.ntmps55
  go_wp2
  generalize hw1 : w.alloc _ = w1
  have hb1 : Below w.heap.size w w1 := by rw [← hw1]; exact (Below.refl _ _).alloc (Nat.le_refl _) _
  have hs1 : w1.heap.size = w.heap.size + 1 := by rw [← hw1]; simp
  clear hw1
  have HB0 : Hid (IsB (w.heap.size + 1) (w.heap.size + 1) [] (w1.alloc (.cells #[.pointer none, .slice none 0 0] 77))) := by
   have h := Lib.fresh_isBuilder 77 5 w1
   rw [hs1] at h
   exact h
  go_loopw [5, 13] (fun _ vk wr => ∃ k : Nat, k ≤ n ∧ vk = .int .i64 (k : Int) ∧ Hid (IsB (w.heap.size + 1) (w.heap.size + 1) (pth (l.take k)) wr) ∧ Hid (Below (w.heap.size + 1) w1 wr)) (fun _ vk _ => n - (intOf vk).toNat)
  case atStart => exact ⟨0, Nat.zero_le _, rfl, HB0.out, (Below.refl _ _).alloc (by rw [hs1]; exact Nat.le_refl _) _⟩
  case round =>
   obtain ⟨k, hk, rfl, HB, HBL⟩ := hrel
   have hsz : w.heap.size + 1 ≤ wr.heap.size := by have := HBL.out.size; rw [hs1] at this; exact this
   by_cases hlt : k < n
   ·have hkl : k < l.length := by rw [HN.out]; exact hlt
    have hRr := HR.out.below (hb1.trans (HBL.out.mono (by omega)))
    obtain ⟨g, off, rfl, hg, hcell⟩ := hRr.spot (by omega)
    have hc := hcell k (by rw [List.length_map]; exact hkl)
    rw [List.getElem_map] at hc
    obtain ⟨s, hs⟩ : ∃ s, s = l[k] := ⟨_, rfl⟩
    have HS : Hid (l.take (k + 1) = l.take k ++ [s]) := by rw [hs]; exact take_snoc l k hkl
    rw [← hs] at hc
    have hsum := sum_at l k hkl
    have hsum2 := sum_take l (k + 1)
    have hpk := length_pth (l.take k)
    rw [List.length_take, Nat.min_eq_left (by omega)] at hpk
    have hpl := HPL.out
    have hll := HLL.out
    rw [← hs] at hsum
    have hss : s.size ≤ 1073741824 := by omega
    have a1 : ∀ w : World, (Op.stringOp .add ⟨#[47]⟩ s).run Tryz.prog w = .ok (.string (strOf ([47] ++ s.data.toList))) w := fun w => str_add' ⟨#[47]⟩ s w (by show 1 + s.size ≤ _; omega)
    have HLEN : Hid ((pth (l.take k)).length + (1 + s.size) ≤ 140737488355328) := by show _ ≤ _; omega
    clear hs hsum hsum2 hpk hpl hll hRr hcell hkl
    go_wp2_with (refine (write_any _ _ _ _ _ HB.out (by rw [size_strOf]; have := HLEN.out; simp at this ⊢; omega) hsz).mono ?_; rintro e w3 ⟨rfl, HB3, hb3⟩)
    go_roundw
    case rel => exact ⟨k + 1, by omega, by go_num, by
     rw [HS.out, pth_snoc]
     exact HB3, HBL.out.trans hb3⟩
    case measure => simp [intOf]; omega
   ·obtain rfl : k = n := by omega
    have HT : Hid (l.take k = l) := List.take_of_length_le (by rw [HN.out]; exact Nat.le_refl _)
    go_wp2_with (refine (string_any _ _ _ _ HB.out hsz).mono ?_; rintro e w3 ⟨rfl, hb3⟩)
    go_ret
    exact ⟨congrArg (fun X => Ending.returned (.string (strOf (pth X)))) HT.out, hb1.trans ((HBL.out.trans hb3).mono (by omega))⟩
end Go.Proofs.YtmdofbccebkbiaaGreatDoor.UrlB
namespace Go.Proofs.YtmdofbccebkbiaaGreatDoor.UrlC
open Go.RowKit Base Base2 UrlP BldA UrlB Regs
def Box (w : World) (b : Nat) (c : Array Value) : Prop := w.heap[b]? = some (.cells c 25 (0, 0))
theorem Box.cell {w : World} {b : Nat} {c : Array Value} (h : Box w b c) (i : Nat) : w.cell? ⟨b, i, none⟩ = c[i]? := cell_of_row w b i _ _ _ h
theorem Box.below {w w' : World} {B b : Nat} {c : Array Value} (h : Box w b c) (hb : Below B w w') (hB : b < B) : Box w' b c := (hb.block b hB).trans h
theorem cells13 {w : World} {b : Nat} {v0 v1 v2 v3 v4 v5 v6 v7 v8 v9 v10 v11 v12 : Value} (h : Box w b #[v0, v1, v2, v3, v4, v5, v6, v7, v8, v9, v10, v11, v12]) :
  w.cell? ⟨b, 0, none⟩ = some v0 ∧ w.cell? ⟨b, 1, none⟩ = some v1 ∧ w.cell? ⟨b, 2, none⟩ = some v2 ∧ w.cell? ⟨b, 3, none⟩ = some v3 ∧ w.cell? ⟨b, 4, none⟩ = some v4 ∧ w.cell? ⟨b, 5, none⟩ = some v5 ∧ w.cell? ⟨b, 6, none⟩ = some v6 ∧ w.cell? ⟨b, 7, none⟩ = some v7 ∧ w.cell? ⟨b, 8, none⟩ = some v8 ∧ w.cell? ⟨b, 9, none⟩ = some v9 ∧ w.cell? ⟨b, 10, none⟩ = some v10 ∧ w.cell? ⟨b, 11, none⟩ = some v11 ∧ w.cell? ⟨b, 12, none⟩ = some v12 :=
 ⟨(h.cell 0).trans rfl, (h.cell 1).trans rfl, (h.cell 2).trans rfl, (h.cell 3).trans rfl, (h.cell 4).trans rfl, (h.cell 5).trans rfl, (h.cell 6).trans rfl, (h.cell 7).trans rfl, (h.cell 8).trans rfl, (h.cell 9).trans rfl, (h.cell 10).trans rfl, (h.cell 11).trans rfl, (h.cell 12).trans rfl⟩
theorem itoa_int (z : Int) (h0 : -9223372036854775808 ≤ z) (h1 : z ≤ 9223372036854775807) (w : World) (hT : Tab.Pow w) :
  Calls Tryz.prog 128 #[.int .i64 z] w fun e w' => e = .returned (.string (strOf (Lib.itoa z))) ∧ Below w.heap.size w w' :=
 (Tryz.strconv_Itoa z h0 h1 w hT).mono fun e w' ⟨he, k, os, hw⟩ => ⟨he, by rw [hw]; exact Tab.below_grow w k os⟩
theorem digits_len (k : Nat) : ∀ n, n < 10 ^ (k + 1) → (Lib.decDigits n).length ≤ k + 1 := by
 induction k with
 | zero => intro n h; rw [Lib.decDigits, dif_pos (by omega)]; simp
 | succ k ih =>
  intro n h
  rw [Lib.decDigits]
  split
  ·simp
  ·have := ih (n / 10) (by rw [Nat.pow_succ] at h; omega)
   rw [List.length_append]
   simp
   omega
theorem itoa_len (z : Int) (h0 : -9223372036854775808 ≤ z) (h1 : z ≤ 9223372036854775807) : (Lib.itoa z).length ≤ 20 := by
 unfold Lib.itoa
 split
 ·have := digits_len 18 z.natAbs (by omega)
  simp
  omega
 ·have := digits_len 18 z.toNat (by omega)
  omega
theorem cred_len (s1 s2 : ByteArray) (h1 : s1.size ≤ 1073741824) (h2 : s2.size ≤ 1073741824) : (credL s1 s2).length ≤ 2147483650 := by
 have hl1 : s1.data.toList.length = s1.size := Array.length_toList
 have hl2 : s2.data.toList.length = s2.size := Array.length_toList
 unfold credL
 split
 ·split
  ·simp
  ·rw [List.length_append]; simp; omega
 ·rw [List.length_append, List.length_append, List.length_append]; simp; omega
theorem port_len (z5 : Int) (h0 : -9223372036854775808 ≤ z5) (h1 : z5 ≤ 9223372036854775807) : (portL z5).length ≤ 21 := by
 have := itoa_len z5 h0 h1
 unfold portL
 split <;> simp <;> omega
theorem mid_len (s1 s2 s3 : ByteArray) (b4 : Bool) (z5 : Int) (b6 : Bool) (l : List ByteArray) (h1 : s1.size ≤ 1073741824) (h2 : s2.size ≤ 1073741824) (h3 : s3.size ≤ 1073741824) (h0 : -9223372036854775808 ≤ z5) (h5 : z5 ≤ 9223372036854775807) : (midL s1 s2 s3 b4 z5 b6 l).length ≤ 4294967296 := by
 have := cred_len s1 s2 h1 h2
 have := port_len z5 h0 h5
 have hl3 : s3.data.toList.length = s3.size := Array.length_toList
 unfold midL
 split
 ·rw [List.length_append, List.length_append, List.length_append]; simp; omega
 ·split <;> simp
theorem isB_below {B b : Nat} {l : List UInt8} {w w' : World} (h : IsB B b l w) (hb : Below w.heap.size w w') : IsB B b l w' := by
 rcases h with ⟨h1, v, h2, h3, h4⟩ | ⟨h1, v, h2, h3, h4⟩
 ·exact Or.inl ⟨h1, v, (hb.block _ (Array.getElem?_eq_some_iff.1 h2).1).trans h2, owns_below h3 hb, h4⟩
 ·exact Or.inr ⟨h1, v, (hb.block _ (Array.getElem?_eq_some_iff.1 h2).1).trans h2, owns_below h3 hb, h4⟩
set_option maxRecDepth 100000 in
set_option maxHeartbeats 8000000 in
theorem bare_any (s0 : ByteArray) (s1 : ByteArray) (s2 : ByteArray) (s3 : ByteArray) (b4 : Bool) (z5 : Int) (b6 : Bool) (s7 : ByteArray) (A : Option Addr) (n cap : Nat) (l : List ByteArray) (b9 : Bool) (b10 : Bool) (s11 : ByteArray) (s12 : ByteArray) (w : World) (hR : Rds w A n (l.map Value.string)) (hnc : n ≤ cap) (hcm : cap ≤ maxLen) (hs0 : s0.size ≤ 1073741824) (hs1 : s1.size ≤ 1073741824) (hs2 : s2.size ≤ 1073741824) (hs3 : s3.size ≤ 1073741824) (hs7 : s7.size ≤ 1073741824) (hs11 : s11.size ≤ 1073741824) (hs12 : s12.size ≤ 1073741824) (hz : -9223372036854775808 ≤ z5) (hz' : z5 ≤ 9223372036854775807) (hl : (pth l).length ≤ 1073741824) (hT : Tab.Pow w) :
  Calls Tryz.prog 72 #[.agg #[.string s0, .string s1, .string s2, .string s3, .bool b4, .int .i64 z5, .bool b6, .string s7, .slice A n cap, .bool b9, .bool b10, .string s11, .string s12]] w fun e w' => e = .returned (.string (strOf (bareL s0 s1 s2 s3 b4 z5 b6 s7 l b9 s11))) ∧ Below w.heap.size w w' := by
 have hl0 : s0.data.toList.length = s0.size := Array.length_toList
 have hl3 : s3.data.toList.length = s3.size := Array.length_toList
 have hl7 : s7.data.toList.length = s7.size := Array.length_toList
 have hl11 : s11.data.toList.length = s11.size := Array.length_toList
 have hn : l.length = n := by rw [← hR.1, List.length_map]
 have HN := hid hn
 have HCL := hid (cred_len s1 s2 hs1 hs2)
 have HIT := hid (itoa_len z5 hz hz')
 have HML := hid (mid_len s1 s2 s3 b4 z5 b6 l hs1 hs2 hs3 hz hz')
 have HLA : Hid ((s0.data.toList ++ [58]).length ≤ 1073741825) := by show _ ≤ _; rw [List.length_append]; simp; omega
 obtain ⟨CA, hCA⟩ : ∃ X, X = [47, 47] ++ credL s1 s2 := ⟨_, rfl⟩
 obtain ⟨CB, hCB⟩ : ∃ X, X = CA ++ s3.data.toList := ⟨_, rfl⟩
 have hCAl : CA.length ≤ 2147483652 := by rw [hCA, List.length_append]; have := HCL.out; simp; omega
 have HLB : Hid (CB.length ≤ 3221225476) := by show _ ≤ _; rw [hCB, List.length_append]; omega
 have a2 : ∀ w : World, (Op.stringOp .add ⟨#[47, 47]⟩ (strOf (credL s1 s2))).run Tryz.prog w = .ok (.string (strOf CA)) w := fun w => by rw [hCA]; exact str_add' ⟨#[47, 47]⟩ _ w (by rw [size_strOf]; have := HCL.out; show 2 + _ ≤ _; omega)
 have a3 : ∀ w : World, (Op.stringOp .add (strOf CA) s3).run Tryz.prog w = .ok (.string (strOf CB)) w := fun w => by rw [hCB]; exact str_add' _ s3 w (by rw [size_strOf]; omega)
 have HCB : Hid (CB = [47, 47] ++ credL s1 s2 ++ s3.data.toList) := by show _ = _; rw [hCB, hCA]
 clear hCA hCB hCAl
 have HPA : Hid ((pathL b6 s7 l).length ≤ 1073741824) := by show _ ≤ _; unfold pathL; split <;> omega
 have a1 : ∀ w : World, (Op.stringOp .add s0 ⟨#[58]⟩).run Tryz.prog w = .ok (.string (strOf (s0.data.toList ++ [58]))) w := fun w => str_add' s0 ⟨#[58]⟩ w (by show s0.size + 1 ≤ _; omega)
 obtain ⟨QL, hQL⟩ : ∃ X, X = [63] ++ s11.data.toList := ⟨_, rfl⟩
 have a5 : ∀ w : World, (Op.stringOp .add ⟨#[63]⟩ s11).run Tryz.prog w = .ok (.string (strOf QL)) w := fun w => by rw [hQL]; exact str_add' ⟨#[63]⟩ s11 w (by show 1 + s11.size ≤ _; omega)
 have HQLL : Hid (QL.length ≤ 1073741825) := by show _ ≤ _; rw [hQL, List.length_append]; simp; omega
 have HQL := hid hQL
 clear hQL
 clear hl0 hl3 hl7 hl11 hn
 have HR := hid hR
 have HLL := hid hl
 have HT := hid hT
 clear hR hl hT
 unfold maxLen at hcm
 go_enter Tryz.func72, Tryz.ntmps72
 go_upto_region 1 with (fail)
 generalize hw1 : w.alloc _ = w1
 have hb1 : Below w.heap.size w w1 := by rw [← hw1]; exact (Below.refl _ _).alloc (Nat.le_refl _) _
 have hs1' : w1.heap.size = w.heap.size + 1 := by rw [← hw1]; simp
 have HBX1 : Hid (Box w1 w.heap.size #[.string s0, .string s1, .string s2, .string s3, .bool b4, .int .i64 z5, .bool b6, .string s7, .slice A n cap, .bool b9, .bool b10, .string s11, .string s12]) := by
  show _ = _
  rw [← hw1]
  exact heap_alloc_new w _
 clear hw1
 go_upto_region 2 with (fail)
 have HB2 : Hid (IsB (w.heap.size + 1) (w.heap.size + 1) [] (w1.alloc (.cells #[.pointer none, .slice none 0 0] 77))) := by
  have h := Lib.fresh_isBuilder 77 5 w1
  rw [hs1'] at h
  exact h
 have hb12 : Below (w.heap.size + 1) w1 (w1.alloc (.cells #[.pointer none, .slice none 0 0] 77)) := (Below.refl _ _).alloc (by rw [hs1']; exact Nat.le_refl _) _
 have hs2' : (w1.alloc (.cells #[.pointer none, .slice none 0 0] 77)).heap.size = w.heap.size + 2 := by simp [hs1']
 generalize hw2 : w1.alloc _ = w2 at HB2 hb12 hs2' ⊢
 clear hw2
 have hb02 : Below w.heap.size w w2 := hb1.trans (hb12.mono (by omega))
 have hbx := HBX1.out.below hb12 (by omega)
 have HBX2 := hid hbx
 obtain ⟨c0, c1, c2, c3, c4, c5, c6, c7, c8, c9, c10, c11, c12⟩ := cells13 hbx
 clear hbx
 have hsz2 : w.heap.size + 1 ≤ w2.heap.size := by omega
 clear hs1' hs2'
 go_wp2_with fail
 refine (write_any _ _ _ _ _ HB2.out (by rw [size_strOf]; have := HLA.out; simp at this ⊢; omega) hsz2).mono ?_
 rintro e w3 ⟨rfl, HB3', hb23⟩
 have HB3 : Hid (IsB (w.heap.size + 1) (w.heap.size + 1) (s0.data.toList ++ [58]) w3) := HB3'
 have hsz3 : w.heap.size + 1 ≤ w3.heap.size := by have := hb23.size; omega
 have hbx := HBX2.out.below hb23 (by omega : w.heap.size < w.heap.size + 1)
 have HBX3 := hid hbx
 clear HB3' c0 c1 c2 c3 c4 c5 c6 c7 c8 c9 c10 c11 c12
 obtain ⟨c0, c1, c2, c3, c4, c5, c6, c7, c8, c9, c10, c11, c12⟩ := cells13 hbx
 clear hbx
 go_upto_if 9 with (fail)
 go_cut [] (fun wx => Hid (IsB (w.heap.size + 1) (w.heap.size + 1) (s0.data.toList ++ [58] ++ midL s1 s2 s3 b4 z5 b6 l) wx) ∧ Hid (Below (w.heap.size + 1) w2 wx))
 case first =>
  cases b4 with
  | true =>
   go_wp2_with fail
   clear c0 c1 c2 c3 c4 c5 c6 c7 c8 c9 c10 c11 c12
   refine wp_region_rel_tail (by kernel_rfl) 6 [is (.agg #[.string s0, .string s1, .string s2, .string s3, .bool true, .int .i64 z5, .bool b6, .string s7, .slice A n cap, .bool b9, .bool b10, .string s11, .string s12]), is (.string (strOf (credL s1 s2))), is (.string (strOf CA)), is (.pointer (some ⟨w.heap.size, 3, none⟩)), is (.string s3), is (.string (strOf CB))] [[], [0], [0, 1], [], [3], [0, 1, 2, 3, 4], [0, 1, 2, 3, 4, 5]] (by kernel_rfl) ?_ ?_
   ·refine ⟨?_, ?_, ?_, ?_, ?_, ?_, trivial⟩
    ·intro t wq hbq hh K hK
     clear hh
     simp only [filled, filledN, upd, Have, is, any, row, pick, Act.put, List.setIfInBounds_toArray, List.set_cons_zero, List.set_cons_succ, Nat.reduceAdd, Nat.reduceEqDiff, reduceIte] at hK ⊢
     have hbx := HBX3.out.below hbq (by omega)
     obtain ⟨c0, c1, c2, c3, c4, c5, c6, c7, c8, c9, c10, c11, c12⟩ := cells13 hbx
     clear hbx
     go_simp
     exact hK _ _ (Below.refl _ _) rfl
    ·intro t wq hbq hh K hK
     have e0 := hh.1
     simp only [pick] at e0
     replace e0 : t 0 = (.agg #[.string s0, .string s1, .string s2, .string s3, .bool true, .int .i64 z5, .bool b6, .string s7, .slice A n cap, .bool b9, .bool b10, .string s11, .string s12]) := e0
     clear hh
     simp only [filled, filledN, upd, Have, is, any, row, pick, Act.put, List.setIfInBounds_toArray, List.set_cons_zero, List.set_cons_succ, Nat.reduceAdd, Nat.reduceEqDiff, reduceIte] at hK ⊢
     simp only [e0] at hK ⊢
     go_simp
     refine (cred_any s0 s1 s2 s3 true z5 b6 s7 A n cap l b9 b10 s11 s12 _ hs1 hs2).mono ?_
     rintro e w5 ⟨rfl, hb5⟩
     exact hK _ _ hb5 rfl
    ·intro t wq hbq hh K hK
     have e1 := hh.2.1
     simp only [pick] at e1
     replace e1 : t 1 = (.string (strOf (credL s1 s2))) := e1
     clear hh
     simp only [filled, filledN, upd, Have, is, any, row, pick, Act.put, List.setIfInBounds_toArray, List.set_cons_zero, List.set_cons_succ, Nat.reduceAdd, Nat.reduceEqDiff, reduceIte] at hK ⊢
     simp only [e1] at hK ⊢
     have hadd := a2 wq
     go_simp
     exact hK _ _ (Below.refl _ _) rfl
    ·intro t wq hbq hh K hK
     clear hh
     simp only [filled, filledN, upd, Have, is, any, row, pick, Act.put, List.setIfInBounds_toArray, List.set_cons_zero, List.set_cons_succ, Nat.reduceAdd, Nat.reduceEqDiff, reduceIte] at hK ⊢
     go_simp
     exact hK _ _ (Below.refl _ _) rfl
    ·intro t wq hbq hh K hK
     have e3 := hh.1
     simp only [pick] at e3
     replace e3 : t 3 = (.pointer (some ⟨w.heap.size, 3, none⟩)) := e3
     clear hh
     simp only [filled, filledN, upd, Have, is, any, row, pick, Act.put, List.setIfInBounds_toArray, List.set_cons_zero, List.set_cons_succ, Nat.reduceAdd, Nat.reduceEqDiff, reduceIte] at hK ⊢
     simp only [e3] at hK ⊢
     have hbx := HBX3.out.below hbq (by omega)
     obtain ⟨c0, c1, c2, c3, c4, c5, c6, c7, c8, c9, c10, c11, c12⟩ := cells13 hbx
     clear hbx
     go_simp
     exact hK _ _ (Below.refl _ _) rfl
    ·intro t wq hbq hh K hK
     have e2 := hh.2.2.1
     simp only [pick] at e2
     replace e2 : t 2 = (.string (strOf CA)) := e2
     have e4 := hh.2.2.2.2.1
     simp only [pick] at e4
     replace e4 : t 4 = (.string s3) := e4
     clear hh
     simp only [filled, filledN, upd, Have, is, any, row, pick, Act.put, List.setIfInBounds_toArray, List.set_cons_zero, List.set_cons_succ, Nat.reduceAdd, Nat.reduceEqDiff, reduceIte] at hK ⊢
     simp only [e2, e4] at hK ⊢
     have hadd := a3 wq
     go_simp
     exact hK _ _ (Below.refl _ _) rfl
   ·intro t wq hbq hh
    have f5 := have_get hh 5 (by decide)
    simp only [pick] at f5
    replace f5 : t 5 = (.string (strOf CB)) := f5
    clear hh
    simp only [filled, filledN, upd, Have, is, any, row, pick, Act.put, List.setIfInBounds_toArray, List.set_cons_zero, List.set_cons_succ, Nat.reduceAdd, Nat.reduceEqDiff, reduceIte]
    simp only [f5]
    have HB4 := HB3.out
    go_wp2_with fail
    refine (write_any _ _ _ _ _ (isB_below HB3.out hbq) (by rw [size_strOf]; have := HLA.out; have := HLB.out; omega) (by have := hbq.size; omega)).mono ?_
    rintro e w5 ⟨rfl, HB5, hb5⟩
    rw [length_strOf_data] at HB5
    have hb35 := hb23.trans ((hbq.mono (by omega)).trans hb5)
    have hbx := HBX3.out.below ((hbq.mono (by omega)).trans hb5) (by omega : w.heap.size < w.heap.size + 1)
    have HBX5 := hid hbx
    obtain ⟨c0, c1, c2, c3, c4, c5, c6, c7, c8, c9, c10, c11, c12⟩ := cells13 hbx
    clear hbx HB4
    have hsz5 : w.heap.size + 1 ≤ w5.heap.size := by have := hb35.size; omega
    by_cases hp : z5 = -1
    ·have q1 : (z5 == -1) = true := by simpa using hp
     have q2 : (z5 != -1) = false := by simpa using hp
     have HP : Hid (portL z5 = []) := if_pos hp
     clear hp
     go_wp2
     go_meet
     refine ⟨?_, hb35⟩
     have e : s0.data.toList ++ [58] ++ midL s1 s2 s3 true z5 b6 l = s0.data.toList ++ [58] ++ CB := by unfold midL; rw [if_pos rfl, HP.out, List.append_nil, HCB.out]
     show IsB _ _ _ _
     rw [e]
     exact HB5
    ·have q1 : (z5 == -1) = false := by simpa using hp
     have q2 : (z5 != -1) = true := by simpa using hp
     have HP : Hid (portL z5 = 58 :: Lib.itoa z5) := if_neg hp
     clear hp
     obtain ⟨IT, hIT⟩ : ∃ X, X = [58] ++ Lib.itoa z5 := ⟨_, rfl⟩
     have a4 : ∀ w : World, (Op.stringOp .add ⟨#[58]⟩ (strOf (Lib.itoa z5))).run Tryz.prog w = .ok (.string (strOf IT)) w := fun w => by rw [hIT]; exact str_add' ⟨#[58]⟩ _ w (by rw [size_strOf]; have := HIT.out; show 1 + _ ≤ _; omega)
     have HITL : Hid (IT.length ≤ 21) := by show _ ≤ _; rw [hIT, List.length_append]; have := HIT.out; simp; omega
     have HITE := hid hIT
     clear hIT
     go_wp2_with fail
     refine (itoa_int z5 hz hz' _ (HT.out.below (hb02.trans (hb35.mono (by omega))))).mono ?_
     rintro e w6 ⟨rfl, hb6⟩
     go_wp2_with fail
     refine (write_any _ _ _ _ _ (isB_below HB5 hb6) (by rw [size_strOf, List.length_append]; have := HITL.out; have := HLA.out; have := HLB.out; omega) (by have := hb6.size; omega)).mono ?_
     rintro e w7 ⟨rfl, HB7, hb7⟩
     rw [length_strOf_data] at HB7
     go_wp2
     go_meet
     refine ⟨?_, hb35.trans ((hb6.mono hsz5).trans hb7)⟩
     have e : s0.data.toList ++ [58] ++ midL s1 s2 s3 true z5 b6 l = s0.data.toList ++ [58] ++ CB ++ IT := by unfold midL; rw [if_pos rfl, HP.out, HCB.out, HITE.out]; simp
     show IsB _ _ _ _
     rw [e]
     exact HB7
  | false =>
   cases b6 with
   | true =>
    go_wp2
    go_meet
    refine ⟨?_, hb23⟩
    show IsB _ _ (_ ++ []) _
    rw [List.append_nil]
    exact HB3.out
   | false =>
    by_cases h1n : 1 < n
    ·obtain ⟨x, y, r, hlx⟩ : ∃ x y r, l = x :: y :: r := by
      have := HN.out
      match l, this with
      | x :: y :: r, _ => exact ⟨x, y, r, rfl⟩
      | [_], h => simp at h; omega
      | [], h => simp at h; omega
     have hRr := HR.out.below (hb02.trans (hb23.mono (by omega)))
     obtain ⟨g, off, rfl, hg, hcell⟩ := hRr.spot (by omega)
     have hc := hcell 0 (by rw [List.length_map, HN.out]; omega)
     have e0 : (l.map Value.string)[0]'(by rw [List.length_map, HN.out]; omega) = .string x := by simp [hlx]
     rw [e0, Nat.add_zero] at hc
     have HD : Hid (dotted false l = decide (x.data.toList = [])) := by show _ = _; rw [hlx]; rfl
     clear hRr hcell e0 hlx
     by_cases hx : x.data.toList = []
     ·have q1 : x.toList = [] := by rw [tl]; exact hx
      have HDD : Hid (dotted false l = true) := HD.out.trans (decide_eq_true hx)
      clear hx
      go_wp2_with fail
      refine (write_any _ _ _ _ _ HB3.out (by have := HLA.out; show _ + 2 ≤ _; omega) hsz3).mono ?_
      rintro e w5 ⟨rfl, HB5, hb5⟩
      go_wp2
      go_meet
      refine ⟨?_, hb23.trans hb5⟩
      have e : s0.data.toList ++ [58] ++ midL s1 s2 s3 false z5 false l = s0.data.toList ++ [58] ++ [47, 46] := by unfold midL; rw [if_neg (by decide), if_pos HDD.out]
      show IsB _ _ _ _
      rw [e]
      exact HB5
     ·have q1 : (x.toList == []) = false := by rw [tl]; simpa using hx
      have q1' : x.toList.isEmpty = false := by rw [tl]; simpa using hx
      have HDD : Hid (¬ dotted false l = true) := by show ¬ _; rw [HD.out]; simpa using hx
      clear hx
      go_wp2
      go_meet
      refine ⟨?_, hb23⟩
      have e : s0.data.toList ++ [58] ++ midL s1 s2 s3 false z5 false l = s0.data.toList ++ [58] := by unfold midL; rw [if_neg (by decide), if_neg HDD.out, List.append_nil]
      show IsB _ _ _ _
      rw [e]
      exact HB3.out
    ·have HDD : Hid (¬ dotted false l = true) := by
      have := HN.out
      match l, this with
      | x :: y :: r, h => simp at h; omega
      | [_], h => simp [dotted, Hid]
      | [], h => simp [dotted, Hid]
     go_wp2
     go_meet
     refine ⟨?_, hb23⟩
     have e : s0.data.toList ++ [58] ++ midL s1 s2 s3 false z5 false l = s0.data.toList ++ [58] := by unfold midL; rw [if_neg (by decide), if_neg HDD.out, List.append_nil]
     show IsB _ _ _ _
     rw [e]
     exact HB3.out
 case rest =>
 obtain ⟨HB4, HB24⟩ := hcut
 clear c0 c1 c2 c3 c4 c5 c6 c7 c8 c9 c10 c11 c12
 have hbx := HBX2.out.below HB24.out (by omega : w.heap.size < w.heap.size + 1)
 have HBX4 := hid hbx
 obtain ⟨c0, c1, c2, c3, c4, c5, c6, c7, c8, c9, c10, c11, c12⟩ := cells13 hbx
 clear hbx
 have hsz4 : w.heap.size + 1 ≤ wc.heap.size := by have := HB24.out.size; omega
 go_wp2_with fail
 refine (path_any s0 s1 s2 s3 b4 z5 b6 s7 A n cap l b9 b10 s11 s12 _ (HR.out.below (hb02.trans (HB24.out.mono (by omega)))) hnc (by unfold maxLen; omega) hs7 HLL.out).mono ?_
 rintro e w5 ⟨rfl, hb5⟩
 go_wp2_with fail
 have hml := HML.out
 have hla := HLA.out
 have hpa := HPA.out
 have HLC : Hid ((s0.data.toList ++ [58] ++ midL s1 s2 s3 b4 z5 b6 l).length ≤ 5368709121) := by show _ ≤ _; rw [List.length_append]; omega
 have HLD : Hid ((s0.data.toList ++ [58] ++ midL s1 s2 s3 b4 z5 b6 l ++ pathL b6 s7 l).length ≤ 6442450945) := by show _ ≤ _; rw [List.length_append]; have := HLC.out; omega
 clear hml hla hpa
 refine (write_any _ _ _ _ _ (isB_below HB4.out hb5) (by rw [size_strOf]; have := HLC.out; have := HPA.out; omega) (by have := hb5.size; omega)).mono ?_
 rintro e w6 ⟨rfl, HB6, hb6⟩
 rw [length_strOf_data] at HB6
 have hb26 := HB24.out.trans ((hb5.mono hsz4).trans hb6)
 have hsz6 : w.heap.size + 1 ≤ w6.heap.size := by have := hb26.size; omega
 clear c0 c1 c2 c3 c4 c5 c6 c7 c8 c9 c10 c11 c12
 have hbx := HBX2.out.below hb26 (by omega : w.heap.size < w.heap.size + 1)
 obtain ⟨c0, c1, c2, c3, c4, c5, c6, c7, c8, c9, c10, c11, c12⟩ := cells13 hbx
 clear hbx
 have HB6' := hid HB6
 clear HB6
 cases b9 with
 | false =>
  go_wp2_with fail
  refine (string_any _ _ _ _ HB6'.out hsz6).mono ?_
  rintro e w7 ⟨rfl, hb7⟩
  go_wp2
  go_ret
  refine ⟨?_, hb02.trans ((hb26.trans hb7).mono (by omega))⟩
  have e : bareL s0 s1 s2 s3 b4 z5 b6 s7 l false s11 = s0.data.toList ++ [58] ++ midL s1 s2 s3 b4 z5 b6 l ++ pathL b6 s7 l := by unfold bareL; rw [if_neg (by decide), List.append_nil]
  refine congrArg (fun X => Ending.returned (.string (strOf X))) ?_
  rw [e]
  simp
 | true =>
  go_wp2_with fail
  refine (write_any _ _ _ _ _ HB6'.out (by rw [size_strOf]; have := HLD.out; have := HQLL.out; omega) hsz6).mono ?_
  rintro e w7 ⟨rfl, HB7, hb7⟩
  rw [length_strOf_data] at HB7
  go_wp2_with fail
  refine (string_any _ _ _ _ HB7 (by have := hb7.size; omega)).mono ?_
  rintro e w8 ⟨rfl, hb8⟩
  go_wp2
  go_ret
  refine ⟨?_, hb02.trans (((hb26.trans hb7).trans hb8).mono (by omega))⟩
  have e : bareL s0 s1 s2 s3 b4 z5 b6 s7 l true s11 = s0.data.toList ++ [58] ++ midL s1 s2 s3 b4 z5 b6 l ++ pathL b6 s7 l ++ QL := by unfold bareL; rw [if_pos rfl, HQL.out]; rfl
  refine congrArg (fun X => Ending.returned (.string (strOf X))) ?_
  rw [e]
  simp
theorem bare_len (s0 : ByteArray) (s1 : ByteArray) (s2 : ByteArray) (s3 : ByteArray) (b4 : Bool) (z5 : Int) (b6 : Bool) (s7 : ByteArray) (A : Option Addr) (n cap : Nat) (l : List ByteArray) (b9 : Bool) (b10 : Bool) (s11 : ByteArray) (s12 : ByteArray) (hs0 : s0.size ≤ 1073741824) (hs1 : s1.size ≤ 1073741824) (hs2 : s2.size ≤ 1073741824) (hs3 : s3.size ≤ 1073741824) (hs7 : s7.size ≤ 1073741824) (hs11 : s11.size ≤ 1073741824) (hs12 : s12.size ≤ 1073741824) (hz : -9223372036854775808 ≤ z5) (hz' : z5 ≤ 9223372036854775807) (hl : (pth l).length ≤ 1073741824) : (bareL s0 s1 s2 s3 b4 z5 b6 s7 l b9 s11).length ≤ 8589934592 := by
 have hl0 : s0.data.toList.length = s0.size := Array.length_toList
 have hl7 : s7.data.toList.length = s7.size := Array.length_toList
 have hl11 : s11.data.toList.length = s11.size := Array.length_toList
 have := mid_len s1 s2 s3 b4 z5 b6 l hs1 hs2 hs3 hz hz'
 unfold bareL pathL
 rw [List.length_append, List.length_append, List.length_append, List.length_append]
 split <;> split <;> simp <;> omega
set_option maxRecDepth 100000 in
set_option maxHeartbeats 8000000 in
theorem print_any (s0 : ByteArray) (s1 : ByteArray) (s2 : ByteArray) (s3 : ByteArray) (b4 : Bool) (z5 : Int) (b6 : Bool) (s7 : ByteArray) (A : Option Addr) (n cap : Nat) (l : List ByteArray) (b9 : Bool) (b10 : Bool) (s11 : ByteArray) (s12 : ByteArray) (w : World) (hR : Rds w A n (l.map Value.string)) (hnc : n ≤ cap) (hcm : cap ≤ maxLen) (hs0 : s0.size ≤ 1073741824) (hs1 : s1.size ≤ 1073741824) (hs2 : s2.size ≤ 1073741824) (hs3 : s3.size ≤ 1073741824) (hs7 : s7.size ≤ 1073741824) (hs11 : s11.size ≤ 1073741824) (hs12 : s12.size ≤ 1073741824) (hz : -9223372036854775808 ≤ z5) (hz' : z5 ≤ 9223372036854775807) (hl : (pth l).length ≤ 1073741824) (hT : Tab.Pow w) :
  Calls Tryz.prog 31 #[.agg #[.string s0, .string s1, .string s2, .string s3, .bool b4, .int .i64 z5, .bool b6, .string s7, .slice A n cap, .bool b9, .bool b10, .string s11, .string s12]] w fun e w' => e = .returned (.string (strOf (printL s0 s1 s2 s3 b4 z5 b6 s7 l b9 b10 s11 s12))) ∧ Below w.heap.size w w' := by
 have hcm' := hcm
 unfold maxLen at hcm
 have hl12 : s12.data.toList.length = s12.size := Array.length_toList
 obtain ⟨BL, hBL⟩ : ∃ X, X = bareL s0 s1 s2 s3 b4 z5 b6 s7 l b9 s11 := ⟨_, rfl⟩
 have hbl : BL.length ≤ 8589934592 := by rw [hBL]; exact bare_len s0 s1 s2 s3 b4 z5 b6 s7 A n cap l b9 b10 s11 s12 hs0 hs1 hs2 hs3 hs7 hs11 hs12 hz hz' hl
 have HBL := hid hBL
 obtain ⟨BM, hBM⟩ : ∃ X, X = BL ++ [35] := ⟨_, rfl⟩
 obtain ⟨BN, hBN⟩ : ∃ X, X = BM ++ s12.data.toList := ⟨_, rfl⟩
 have a1 : ∀ w : World, (Op.stringOp .add (strOf BL) ⟨#[35]⟩).run Tryz.prog w = .ok (.string (strOf BM)) w := fun w => by rw [hBM]; exact str_add' _ ⟨#[35]⟩ w (by rw [size_strOf]; show _ + 1 ≤ _; omega)
 have a2 : ∀ w : World, (Op.stringOp .add (strOf BM) s12).run Tryz.prog w = .ok (.string (strOf BN)) w := fun w => by rw [hBN]; exact str_add' _ s12 w (by rw [size_strOf, hBM, List.length_append]; simp; omega)
 have HBN : Hid (BN = BL ++ [35] ++ s12.data.toList) := by show _ = _; rw [hBN, hBM]
 clear hBL hBM hBN hl12 hbl
 have HR := hid hR
 have HLL := hid hl
 have HT := hid hT
 clear hR hl hT
 cases b10 with
 | true =>
  go_enter Tryz.func31, Tryz.ntmps31
  go_upto_region 1 with (fail)
  generalize hw1 : w.alloc _ = w1
  have hb1 : Below w.heap.size w w1 := by rw [← hw1]; exact (Below.refl _ _).alloc (Nat.le_refl _) _
  have hlt1 : w.heap.size < w1.heap.size := by rw [← hw1]; simp
  have HBX1 : Hid (Box w1 w.heap.size #[.string s0, .string s1, .string s2, .string s3, .bool b4, .int .i64 z5, .bool b6, .string s7, .slice A n cap, .bool b9, .bool true, .string s11, .string s12]) := by
   show _ = _
   rw [← hw1]
   exact heap_alloc_new w _
  clear hw1
  obtain ⟨c0, c1, c2, c3, c4, c5, c6, c7, c8, c9, c10, c11, c12⟩ := cells13 HBX1.out
  go_wp2_with fail
  clear c0 c1 c2 c3 c4 c5 c6 c7 c8 c9 c10 c11 c12
  refine wp_region_rel (by kernel_rfl) [is (.agg #[.string s0, .string s1, .string s2, .string s3, .bool b4, .int .i64 z5, .bool b6, .string s7, .slice A n cap, .bool b9, .bool true, .string s11, .string s12]), is (.string (strOf BL)), is (.string (strOf BM)), is (.pointer (some ⟨w.heap.size, 12, none⟩)), is (.string s12), is (.string (strOf BN)), is (.string (strOf BN))] [[], [0], [1], [], [3], [2, 4], [5]] (by kernel_rfl) ?_ ?_
  ·refine ⟨?_, ?_, ?_, ?_, ?_, ?_, ?_, trivial⟩
   ·intro t wq hbq hh K hK
    clear hh
    simp only [filled, upd, Have, is, any, row, pick, Act.put, List.setIfInBounds_toArray, List.set_cons_zero, List.set_cons_succ, Nat.reduceAdd, Nat.reduceEqDiff, reduceIte] at hK ⊢
    have hbx := HBX1.out.below hbq hlt1
    obtain ⟨c0, c1, c2, c3, c4, c5, c6, c7, c8, c9, c10, c11, c12⟩ := cells13 hbx
    clear hbx
    go_simp
    exact hK _ _ (Below.refl _ _) rfl
   ·intro t wq hbq hh K hK
    have e0 := hh.1
    simp only [pick] at e0
    replace e0 : t 0 = (.agg #[.string s0, .string s1, .string s2, .string s3, .bool b4, .int .i64 z5, .bool b6, .string s7, .slice A n cap, .bool b9, .bool true, .string s11, .string s12]) := e0
    clear hh
    simp only [filled, upd, Have, is, any, row, pick, Act.put, List.setIfInBounds_toArray, List.set_cons_zero, List.set_cons_succ, Nat.reduceAdd, Nat.reduceEqDiff, reduceIte] at hK ⊢
    simp only [e0] at hK ⊢
    go_simp
    refine (bare_any s0 s1 s2 s3 b4 z5 b6 s7 A n cap l b9 true s11 s12 _ (HR.out.below (hb1.trans (hbq.mono (by omega)))) hnc hcm' hs0 hs1 hs2 hs3 hs7 hs11 hs12 hz hz' HLL.out ((HT.out.below (hb1.trans (hbq.mono (by omega)))))).mono ?_
    rintro e w5 ⟨rfl, hb5⟩
    rw [← HBL.out]
    exact hK _ _ hb5 rfl
   ·intro t wq hbq hh K hK
    have e1 := hh.1
    simp only [pick] at e1
    replace e1 : t 1 = (.string (strOf BL)) := e1
    clear hh
    simp only [filled, upd, Have, is, any, row, pick, Act.put, List.setIfInBounds_toArray, List.set_cons_zero, List.set_cons_succ, Nat.reduceAdd, Nat.reduceEqDiff, reduceIte] at hK ⊢
    simp only [e1] at hK ⊢
    have hadd := a1 wq
    go_simp
    exact hK _ _ (Below.refl _ _) rfl
   ·intro t wq hbq hh K hK
    clear hh
    simp only [filled, upd, Have, is, any, row, pick, Act.put, List.setIfInBounds_toArray, List.set_cons_zero, List.set_cons_succ, Nat.reduceAdd, Nat.reduceEqDiff, reduceIte] at hK ⊢
    go_simp
    exact hK _ _ (Below.refl _ _) rfl
   ·intro t wq hbq hh K hK
    have e3 := hh.1
    simp only [pick] at e3
    replace e3 : t 3 = (.pointer (some ⟨w.heap.size, 12, none⟩)) := e3
    clear hh
    simp only [filled, upd, Have, is, any, row, pick, Act.put, List.setIfInBounds_toArray, List.set_cons_zero, List.set_cons_succ, Nat.reduceAdd, Nat.reduceEqDiff, reduceIte] at hK ⊢
    simp only [e3] at hK ⊢
    have hbx := HBX1.out.below hbq hlt1
    obtain ⟨c0, c1, c2, c3, c4, c5, c6, c7, c8, c9, c10, c11, c12⟩ := cells13 hbx
    clear hbx
    go_simp
    exact hK _ _ (Below.refl _ _) rfl
   ·intro t wq hbq hh K hK
    have e2 := hh.1
    simp only [pick] at e2
    replace e2 : t 2 = (.string (strOf BM)) := e2
    have e4 := hh.2.1
    simp only [pick] at e4
    replace e4 : t 4 = (.string s12) := e4
    clear hh
    simp only [filled, upd, Have, is, any, row, pick, Act.put, List.setIfInBounds_toArray, List.set_cons_zero, List.set_cons_succ, Nat.reduceAdd, Nat.reduceEqDiff, reduceIte] at hK ⊢
    simp only [e2, e4] at hK ⊢
    have hadd := a2 wq
    go_simp
    exact hK _ _ (Below.refl _ _) rfl
   ·intro t wq hbq hh K hK
    have e5 := hh.1
    simp only [pick] at e5
    replace e5 : t 5 = (.string (strOf BN)) := e5
    clear hh
    simp only [filled, upd, Have, is, any, row, pick, Act.put, List.setIfInBounds_toArray, List.set_cons_zero, List.set_cons_succ, Nat.reduceAdd, Nat.reduceEqDiff, reduceIte] at hK ⊢
    simp only [e5] at hK ⊢
    go_simp
    exact hK _ _ (Below.refl _ _) rfl
  ·intro t wq hbq hh
   have f6 := have_get hh 6 (by decide)
   simp only [pick] at f6
   replace f6 : t 6 = (.string (strOf BN)) := f6
   clear hh
   simp only [filled, upd, Have, is, any, row, pick, Act.put, List.setIfInBounds_toArray, List.set_cons_zero, List.set_cons_succ, Nat.reduceAdd, Nat.reduceEqDiff, reduceIte]
   simp only [f6]
   go_wp2
   go_ret
   refine ⟨?_, hb1.trans (hbq.mono (by omega))⟩
   have e : printL s0 s1 s2 s3 b4 z5 b6 s7 l b9 true s11 s12 = BN := by unfold printL; rw [if_pos rfl, HBN.out, ← HBL.out]; simp
   exact congrArg (fun X => Ending.returned (.string (strOf X))) e.symm
 | false =>
  clear a1 a2
  go_enter Tryz.func31, Tryz.ntmps31
  go_upto_region 1 with (fail)
  generalize hw1 : w.alloc _ = w1
  have hb1 : Below w.heap.size w w1 := by rw [← hw1]; exact (Below.refl _ _).alloc (Nat.le_refl _) _
  have HBX1 : Hid (Box w1 w.heap.size #[.string s0, .string s1, .string s2, .string s3, .bool b4, .int .i64 z5, .bool b6, .string s7, .slice A n cap, .bool b9, .bool false, .string s11, .string s12]) := by
   show _ = _
   rw [← hw1]
   exact heap_alloc_new w _
  clear hw1
  obtain ⟨c0, c1, c2, c3, c4, c5, c6, c7, c8, c9, c10, c11, c12⟩ := cells13 HBX1.out
  go_wp2_with fail
  refine (bare_any s0 s1 s2 s3 b4 z5 b6 s7 A n cap l b9 false s11 s12 _ (HR.out.below hb1) hnc hcm' hs0 hs1 hs2 hs3 hs7 hs11 hs12 hz hz' HLL.out (HT.out.below hb1)).mono ?_
  rintro e w5 ⟨rfl, hb5⟩
  go_wp2
  go_ret
  refine ⟨?_, bel hb1 hb5⟩
  have e : printL s0 s1 s2 s3 b4 z5 b6 s7 l b9 false s11 s12 = bareL s0 s1 s2 s3 b4 z5 b6 s7 l b9 s11 := by unfold printL; rw [if_neg (by decide), List.append_nil]
  exact congrArg (fun X => Ending.returned (.string (strOf X))) e.symm
end Go.Proofs.YtmdofbccebkbiaaGreatDoor.UrlC
namespace Go.Proofs.YtmdofbccebkbiaaGreatDoor.BldK
open Go.RowKit Base Base2 BldA
theorem string_any (B b : Nat) (l : List UInt8) (w : World) (h : IsB B b l w) (hBw : B ≤ w.heap.size) :
  Calls Tryz.prog 62 #[.pointer (some ⟨b, 0, none⟩)] w fun e w' => e = .returned (.string (strOf l)) ∧ Below B w w' := Tryz.Builder_String B b l w h hBw
theorem isB_below {B b : Nat} {l : List UInt8} {w w' : World} (h : IsB B b l w) (hb : Below w.heap.size w w') : IsB B b l w' := by
 rcases h with ⟨h1, v, h2, h3, h4⟩ | ⟨h1, v, h2, h3, h4⟩
 ·exact Or.inl ⟨h1, v, (hb.block _ (Array.getElem?_eq_some_iff.1 h2).1).trans h2, owns_below h3 hb, h4⟩
 ·exact Or.inr ⟨h1, v, (hb.block _ (Array.getElem?_eq_some_iff.1 h2).1).trans h2, owns_below h3 hb, h4⟩
end Go.Proofs.YtmdofbccebkbiaaGreatDoor.BldK
