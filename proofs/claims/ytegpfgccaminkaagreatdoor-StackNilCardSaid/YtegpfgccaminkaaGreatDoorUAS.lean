/- Texts that belong together: BlobR, Shs, Utab, Open, Open2. -/
import Derived.Test.YtegpfgccaminkaaGreatDoorUAH
import Derived.Test.YtegpfgccaminkaaGreatDoorUAC
import Derived.Test.YtegpfgccaminkaaGreatDoorUAA
import Derived.Test.YtegpfgccaminkaaGreatDoorUAF
import Derived.BigQuiet
import Derived.Deep.QuietTactic
import Derived.Handed
import Derived.HandedShaped
import Derived.Shelf.Vars
import Derived.Test.YtegpfgccaminkaaGreatDoorUAK
import Derived.Lib.LaidU8
import Derived.ProofKit
import Derived.OpenShut
import Derived.ShutString
import Derived.ChangeOld
import Derived.Below
import Derived.SliceStrings
import Derived.SizedLaws
set_option linter.unusedSimpArgs false
set_option linter.unusedVariables false
namespace Go.Proofs.YtegpfgccaminkaaGreatDoor.BlobR
open Go.RowKit Base Base2 Base3 Regs UtfL BlobA BlobB BlobC BlobD Ubx
set_option linter.unusedSimpArgs false
set_option linter.unusedVariables false
set_option maxRecDepth 100000 in
theorem refKind_any (s : ByteArray) (w : World) (hm : s.size ≤ 1073741824) :
  Calls Tryz.prog 28 #[.string s] w fun e w' => e = .returned (.string (strOf (kd s.data.toList))) ∧ Below w.heap.size w w' := by
 have hl : s.data.toList.length = s.size := Array.length_toList
 have HL := hid hl
 clear hl
 have hm' : s.size ≤ 9223372036854775807 := by omega
 go_enter Tryz.func28, Tryz.ntmps28
 go_wp2
 go_loopw [6] (fun vk wr => ∃ j : Nat, j ≤ s.size ∧ vk = .int .i64 j ∧ Hid (∀ i (h : i < s.data.toList.length), i < j → 32 ≤ s.data.toList[i].toNat ∧ s.data.toList[i].toNat ≤ 126) ∧ Below w.heap.size w wr) (fun vk _ => s.size - (intOf vk).toNat)
 case atStart => exact ⟨0, Nat.zero_le _, rfl, (fun i _ h => absurd h (by omega)), Below.refl _ _⟩
 case round =>
  obtain ⟨j, hj, rfl, HA, hbel⟩ := hrel
  by_cases hlt : j < s.size
  ·obtain ⟨c, hc⟩ : ∃ c, s[j] = c := ⟨_, rfl⟩
   have HC : Hid (s.data.toList[j]'(by rw [HL.out]; exact hlt) = c) := by rw [← hc]; rfl
   have hc0 : (c.toNat : Int) < 256 := by have := c.toNat_lt; omega
   by_cases hf : 32 ≤ (c.toNat : Int) ∧ (c.toNat : Int) ≤ 126
   ·obtain ⟨f1, f2⟩ := hf
    have f1' : ¬ (c.toNat : Int) < 32 := by omega
    have f2' : ¬ 126 < (c.toNat : Int) := by omega
    have HA2 : Hid (∀ i (h : i < s.data.toList.length), i < j + 1 → 32 ≤ s.data.toList[i].toNat ∧ s.data.toList[i].toNat ≤ 126) := by
     intro i h hi
     by_cases e : i = j
     ·subst e
      rw [HC.out]
      omega
     ·exact HA.out i h (by omega)
    go_wp2
    go_roundw
    case rel => exact ⟨j + 1, by omega, by go_num, HA2, hbel⟩
    case measure => simp [intOf]; omega
   ·have HK : Hid (kd s.data.toList = []) := by
     show kd _ = []
     unfold kd
     rw [if_neg]
     unfold fineK
     rw [decide_eq_true_iff]
     intro h
     have := h c (by rw [← HC.out]; exact List.getElem_mem _)
     omega
    rcases (show (c.toNat : Int) < 32 ∨ ¬ (c.toNat : Int) < 32 ∧ 126 < (c.toNat : Int) by omega) with h1 | ⟨h1, h2⟩
    all_goals
     clear hf
     go_wp2
     go_ret
     exact ⟨ret_str (by rw [HK.out]; rfl), hbel⟩
  ·obtain rfl : j = s.size := by omega
   have HK : Hid (kd s.data.toList = lower s.data.toList) := by
    show kd _ = _
    unfold kd
    rw [if_pos]
    unfold fineK
    rw [decide_eq_true_iff]
    intro c hc
    obtain ⟨i, hi, rfl⟩ := List.mem_iff_getElem.1 hc
    exact HA.out i hi (by rw [← HL.out]; exact hi)
   go_wp2_with fail
   refine (RefA.lower_any s _ hm).mono ?_
   rintro e w4 ⟨rfl, hb4⟩
   go_wp2
   go_ret
   exact ⟨ret_str (by rw [HK.out]), hbel.trans (hb4.mono hbel.size)⟩
theorem refPlace_any (z : Int) (n : Nat) (w : World) (hn : n ≤ 1073741824) (hz0 : -9223372036854775808 ≤ z) (hz1 : z ≤ 9223372036854775807) :
  Calls Tryz.prog 56 #[.int .i64 z, .int .i64 (n : Int)] w fun e w' => e = .returned (.int .i64 ((plc z n : Nat) : Int)) ∧ Below w.heap.size w w' := by
 obtain ⟨m, hm⟩ : ∃ m, m = plc z n := ⟨_, rfl⟩
 rw [← hm]
 by_cases hneg : z < 0
 ·by_cases hs : z < -(n : Int)
  ·have hm' : (m : Int) = 0 := by rw [hm]; unfold plc; rw [if_pos hneg]; omega
   rw [hm']
   clear hm hm'
   go_enter Tryz.func56, Tryz.ntmps56
   go_wp2
   go_ret
   exact ⟨rfl, Below.refl _ _⟩
  ·have hm' : (m : Int) = (n : Int) + z := by rw [hm]; unfold plc; rw [if_pos hneg]; omega
   rw [hm']
   clear hm hm'
   go_enter Tryz.func56, Tryz.ntmps56
   go_wp2
   go_ret
   exact ⟨rfl, Below.refl _ _⟩
 ·have HM : Hid ((m : Int) = min z (n : Int)) := by show _ = _; rw [hm]; unfold plc; rw [if_neg hneg]; omega
  clear hm
  go_enter Tryz.func56, Tryz.ntmps56
  go_wp2
  go_ret
  refine ⟨?_, Below.refl _ _⟩
  rw [HM.out]
  rfl
abbrev BV (L : List UInt8) (K : ByteArray) : Value := .agg #[.string (strOf L), .string K]
theorem str_part (L : List UInt8) (a b : Nat) (h : a ≤ b) (hb : b ≤ L.length) : (strOf L).extract a b = strOf ((L.drop a).take (b - a)) := by
 have : ((strOf L).extract a b).data = (strOf ((L.drop a).take (b - a))).data := by
  rw [ByteArray.data_extract]
  show L.toArray.extract a b = _
  simp [strOf, List.extract_toArray, List.extract]
 cases h1 : (strOf L).extract a b
 cases h2 : strOf ((L.drop a).take (b - a))
 rw [h1, h2] at this
 exact congrArg _ this
def BX (w : World) (g : Nat) (cs : Array Value) : Prop := w.heap[g]? = some (.cells cs 82 (0, 0))
theorem BX.below {w w' : World} {g : Nat} {cs : Array Value} (h : BX w g cs) (hb : Below w.heap.size w w') : BX w' g cs := (hb.block g (Array.getElem?_eq_some_iff.1 h).1).trans h
theorem BX.row {w : World} {g : Nat} {cs : Array Value} (h : BX w g cs) (ds : Array Value) : BX (w.setRow g ds) g ds := setRow_heap w g cs ds _ (0, 0) h
theorem store_bx {w : World} {g : Nat} {cs : Array Value} {ops : Array Oper} {rest : List Oper} {o : Oper} {a : Act} {Q : Exit → Act → World → Prop} (hU : BX w g cs) (ds : Array Value) (hs : cs.size = 2) (hs2 : ds.size = 2) (h1 : ds.all (·.oneCell') = true) (x y : Operand) (ho : o.op = .store 82 x y) (hgd : o.guard = none)
  (hx : a.eval x = .pointer (some ⟨g, 0, none⟩)) (hy : a.eval y = .agg ds)
  (hh : wpList Tryz.prog ops Q rest (a.put o.dst undef) (w.setRow g ds)) : wpList Tryz.prog ops Q (o :: rest) a w :=
 wpList_store_row hgd 82 x y ho g ds hx hy 82 cs hU (by rw [hs2]; kernel_rfl) (by rw [hs, hs2]) h1 hh
theorem resx {w : World} {g : Nat} {cs : Array Value} {fn : Func} {a : Tmp} (h : fn.results = #[.cell a 82]) (hU : BX w g cs) (hs : cs.size = 2) (tmps : Array Value) (h2 : tmps.getD a undef = .pointer (some ⟨g, 0, none⟩)) :
  (results fn tmps).run Tryz.prog w = .ok (.agg cs) w :=
 results_cell_row h tmps w g _ cs (0, 0) _ h2 hU Tryz.underlying82 rfl (by rw [hs]; kernel_rfl)
set_option maxRecDepth 100000 in
set_option maxHeartbeats 8000000 in
theorem refSlice_any (L : List UInt8) (K0 : ByteArray) (vf vt : Value) (of ot : Option Int) (s : ByteArray) (w : World) (hn : L.length ≤ 1073741824) (hf : Ptr w vf of) (ht : Ptr w vt ot) (hs : s.size ≤ 1073741824) :
  Calls Tryz.prog 29 #[BV L K0, vf, vt, .string s] w fun e w' => e = .returned (BV ((L.drop (pl of 0 L.length)).take (max (pl of 0 L.length) (pl ot L.length L.length) - pl of 0 L.length)) (strOf (kd s.data.toList))) ∧ Below w.heap.size w w' := by
 obtain ⟨n, hnl⟩ : ∃ n, n = L.length := ⟨_, rfl⟩
 rw [← hnl] at hn ⊢
 have hst := pl_le of 0 n (Nat.zero_le _)
 have hen := pl_le ot n n (Nat.le_refl _)
 obtain ⟨st, hst2⟩ : ∃ st, pl of 0 n = st := ⟨_, rfl⟩
 obtain ⟨en, hen2⟩ : ∃ en, pl ot n n = en := ⟨_, rfl⟩
 obtain ⟨mx, hmx⟩ : ∃ mx, max st en = mx := ⟨_, rfl⟩
 rw [hst2] at hst
 rw [hen2] at hen
 rw [hst2, hen2, hmx]
 have HST := hid hst2
 have HEN := hid hen2
 have hmxn : mx ≤ n := by omega
 have hsm : st ≤ mx := by omega
 have HSM : Hid (st ≤ mx) := hsm
 have HMN : Hid (mx ≤ n) := hmxn
 have HCS : Hid ((¬ (en : Int) < (st : Int) ∧ en = mx) ∨ ((en : Int) < (st : Int) ∧ st = mx)) := by show _ ∨ _; omega
 have hsz : (strOf L).size = n := by rw [size_strOf]; exact hnl.symm
 have HSZ := hid hsz
 obtain ⟨X, hX⟩ : ∃ X, X = strOf L := ⟨_, rfl⟩
 have HXS : Hid (X.size = n) := by rw [hX]; exact hsz
 obtain ⟨Y, hY⟩ : ∃ Y, Y = strOf ((L.drop st).take (mx - st)) := ⟨_, rfl⟩
 have HXY : Hid (X.extract st mx = Y) := by show _ = _; rw [hX, hY]; exact str_part L st mx hsm (by omega)
 show Calls Tryz.prog _ #[.agg #[.string (strOf L), .string K0], vf, vt, .string s] w fun e w' => e = .returned (.agg #[.string (strOf ((L.drop st).take (mx - st))), .string (strOf (kd s.data.toList))]) ∧ Below w.heap.size w w'
 rw [← hX, ← hY]
 have HF0 := hid hf
 have HT0 := hid ht
 have HS := hid hs
 have HNN := hid hn
 have hni : (n : Int) ≤ 1073741824 := by omega
 clear hst2 hen2 hmx hX hY hnl hsz hf ht hs hsm hmxn hst hen
 go_enter Tryz.func29, Tryz.ntmps29
 go_upto_region 1 with (fail)
 generalize hwa : World.alloc (World.alloc w _) _ = v1
 have h1_ : BX v1 w.heap.size #[.string X, .string K0] ∧ BX v1 (w.heap.size + 1) #[.string ⟨#[]⟩, .string ⟨#[]⟩] ∧ Below w.heap.size w v1 := by
  subst hwa
  exact laid2 w _ _ _ _
 clear hwa
 have XI1 := hid h1_.1
 have XR1 := hid h1_.2.1
 have HB1 := hid h1_.2.2
 clear h1_
 have HF1 := hid (HF0.out.below HB1.out)
 have HT1 := hid (HT0.out.below HB1.out)
 have c0 : v1.cell? ⟨w.heap.size, 0, none⟩ = some (.string X) := (cell_of_row v1 _ 0 _ _ _ XI1.out).trans rfl
 clear HF0 HT0
 have hxs := HXS.out
 rcases HF1.out with ⟨rfl, rfl⟩ | ⟨b1, z1, rfl, p2, p3, p4, p5, rfl⟩
 ·obtain rfl : st = 0 := HST.out.symm
  rcases HT1.out with ⟨rfl, rfl⟩ | ⟨b2, z2, rfl, r2, r3, r4, r5, rfl⟩
  ·obtain rfl : n = en := HEN.out
   rcases HCS.out with ⟨hc, hm⟩ | ⟨hc, hm⟩
   ·obtain rfl : mx = _ := hm.symm
    go_upto_region 9 with (fail)
    generalize decide ((mx : Int) < 0) = dq
    generalize decide (mx < 0) = dq2
    clear hc
    refine wp_region_rel_tail (by kernel_rfl) 8 [is (.pointer (some ⟨w.heap.size, 0, none⟩)), is (.string X), is (.int .i64 0), is (.int .i64 (mx : Int)), is (.string Y), is (.string s), is (.string (strOf (kd s.data.toList))), is (.agg #[.string Y, .string (strOf (kd s.data.toList))])] [[], [0], [], [], [0, 1, 2, 3], [], [5], [0, 1, 2, 3, 4, 5, 6], [0, 1, 2, 3, 4, 5, 6, 7]] (by kernel_rfl) ?_ ?_
    ·refine ⟨?_, ?_, ?_, ?_, ?_, ?_, ?_, ?_, trivial⟩
     ·intro t wq hbq hh K hK
      clear hh
      simp only [filled, filledN, upd, Have, is, any, row, pick, Act.put, List.setIfInBounds_toArray, List.set_cons_zero, List.set_cons_succ, Nat.reduceAdd, Nat.reduceEqDiff, reduceIte] at hK ⊢
      go_simp
      exact hK _ _ (Below.refl _ _) rfl
     ·intro t wq hbq hh K hK
      have e0 := hh.1
      simp only [pick] at e0
      replace e0 : t 0 = (.pointer (some ⟨w.heap.size, 0, none⟩)) := e0
      clear hh
      simp only [filled, filledN, upd, Have, is, any, row, pick, Act.put, List.setIfInBounds_toArray, List.set_cons_zero, List.set_cons_succ, Nat.reduceAdd, Nat.reduceEqDiff, reduceIte] at hK ⊢
      simp only [e0] at hK ⊢
      have hq : wq.cell? ⟨w.heap.size, 0, none⟩ = some (.string X) := (cell_of_row wq _ 0 _ _ _ (XI1.out.below hbq)).trans rfl
      go_simp
      exact hK _ _ (Below.refl _ _) rfl
     ·intro t wq hbq hh K hK
      clear hh
      simp only [filled, filledN, upd, Have, is, any, row, pick, Act.put, List.setIfInBounds_toArray, List.set_cons_zero, List.set_cons_succ, Nat.reduceAdd, Nat.reduceEqDiff, reduceIte] at hK ⊢
      go_simp
      exact hK _ _ (Below.refl _ _) rfl
     ·intro t wq hbq hh K hK
      clear hh
      simp only [filled, filledN, upd, Have, is, any, row, pick, Act.put, List.setIfInBounds_toArray, List.set_cons_zero, List.set_cons_succ, Nat.reduceAdd, Nat.reduceEqDiff, reduceIte] at hK ⊢
      go_simp
      exact hK _ _ (Below.refl _ _) rfl
     ·intro t wq hbq hh K hK
      have e1 := hh.2.1
      simp only [pick] at e1
      replace e1 : t 1 = (.string X) := e1
      have e2 := hh.2.2.1
      simp only [pick] at e2
      replace e2 : t 2 = (.int .i64 0) := e2
      have e3 := hh.2.2.2.1
      simp only [pick] at e3
      replace e3 : t 3 = (.int .i64 (mx : Int)) := e3
      clear hh
      simp only [filled, filledN, upd, Have, is, any, row, pick, Act.put, List.setIfInBounds_toArray, List.set_cons_zero, List.set_cons_succ, Nat.reduceAdd, Nat.reduceEqDiff, reduceIte] at hK ⊢
      simp only [e1, e2, e3] at hK ⊢
      have hxs := HXS.out
      have hsm := HSM.out
      have hmn := HMN.out
      have q1 : mx ≤ X.size := by omega
      have q2 : (mx : Int) ≤ (X.size : Int) := by omega
      have q3 : (0 : Int) ≤ (mx : Int) := by omega
      have hxy := HXY.out
      go_simp
      exact hK _ _ (Below.refl _ _) rfl
     ·intro t wq hbq hh K hK
      clear hh
      simp only [filled, filledN, upd, Have, is, any, row, pick, Act.put, List.setIfInBounds_toArray, List.set_cons_zero, List.set_cons_succ, Nat.reduceAdd, Nat.reduceEqDiff, reduceIte] at hK ⊢
      go_simp
      exact hK _ _ (Below.refl _ _) rfl
     ·intro t wq hbq hh K hK
      have e5 := hh.1
      simp only [pick] at e5
      replace e5 : t 5 = (.string s) := e5
      clear hh
      simp only [filled, filledN, upd, Have, is, any, row, pick, Act.put, List.setIfInBounds_toArray, List.set_cons_zero, List.set_cons_succ, Nat.reduceAdd, Nat.reduceEqDiff, reduceIte] at hK ⊢
      simp only [e5] at hK ⊢
      go_simp
      refine (refKind_any s _ HS.out).mono ?_
      rintro e w9 ⟨rfl, hb9⟩
      exact hK _ _ hb9 rfl
     ·intro t wq hbq hh K hK
      have e4 := hh.2.2.2.2.1
      simp only [pick] at e4
      replace e4 : t 4 = (.string Y) := e4
      have e6 := hh.2.2.2.2.2.2.1
      simp only [pick] at e6
      replace e6 : t 6 = (.string (strOf (kd s.data.toList))) := e6
      clear hh
      simp only [filled, filledN, upd, Have, is, any, row, pick, Act.put, List.setIfInBounds_toArray, List.set_cons_zero, List.set_cons_succ, Nat.reduceAdd, Nat.reduceEqDiff, reduceIte] at hK ⊢
      simp only [e4, e6] at hK ⊢
      go_simp
      exact hK _ _ (Below.refl _ _) rfl
    ·intro t wq hbq hh
     have f7 := have_get hh 7 (by decide)
     simp only [pick] at f7
     replace f7 : t 7 = (.agg #[.string Y, .string (strOf (kd s.data.toList))]) := f7
     clear hh
     simp only [filled, filledN, upd, Have, is, any, row, pick, Act.put, List.setIfInBounds_toArray, List.set_cons_zero, List.set_cons_succ, Nat.reduceAdd, Nat.reduceEqDiff, reduceIte]
     simp only [f7]
     have HBq := hid (bel HB1.out hbq)
     have XRq := hid (XR1.out.below hbq)
     clear hbq
     refine store_bx XRq.out #[.string Y, .string (strOf (kd s.data.toList))] rfl rfl (by simp [Value.oneCell']) (.tmp 8) (.tmp 41) rfl rfl rfl rfl ?_
     go_wp2
     try simp only [Exit.inBlock, Exit.then]
     exact bodyPost_ret (w := World.setRow wq (w.heap.size + 1) #[.string Y, .string (strOf (kd s.data.toList))]) (resx rfl (XRq.out.row _) rfl _ rfl) rfl ⟨rfl, below_setRow HBq.out (Nat.le_succ _) _⟩
   ·exact absurd hc (by omega)
  ·skip
   go_wp2_with fail
   refine (refPlace_any z2 n _ HNN.out r4 r5).mono ?_
   rintro e w2 ⟨rfl, hb⟩
   have HB2 := hid (bel HB1.out hb)
   have XI2 := hid (XI1.out.below hb)
   have XR2 := hid (XR1.out.below hb)
   clear hb
   rw [show plc z2 n = en from HEN.out]
   clear r2 r3
   rcases HCS.out with ⟨hc, hm⟩ | ⟨hc, hm⟩
   ·obtain rfl : mx = _ := hm.symm
    go_upto_region 9 with (fail)
    generalize decide ((mx : Int) < 0) = dq
    generalize decide (mx < 0) = dq2
    clear hc
    refine wp_region_rel_tail (by kernel_rfl) 8 [is (.pointer (some ⟨w.heap.size, 0, none⟩)), is (.string X), is (.int .i64 0), is (.int .i64 (mx : Int)), is (.string Y), is (.string s), is (.string (strOf (kd s.data.toList))), is (.agg #[.string Y, .string (strOf (kd s.data.toList))])] [[], [0], [], [], [0, 1, 2, 3], [], [5], [0, 1, 2, 3, 4, 5, 6], [0, 1, 2, 3, 4, 5, 6, 7]] (by kernel_rfl) ?_ ?_
    ·refine ⟨?_, ?_, ?_, ?_, ?_, ?_, ?_, ?_, trivial⟩
     ·intro t wq hbq hh K hK
      clear hh
      simp only [filled, filledN, upd, Have, is, any, row, pick, Act.put, List.setIfInBounds_toArray, List.set_cons_zero, List.set_cons_succ, Nat.reduceAdd, Nat.reduceEqDiff, reduceIte] at hK ⊢
      go_simp
      exact hK _ _ (Below.refl _ _) rfl
     ·intro t wq hbq hh K hK
      have e0 := hh.1
      simp only [pick] at e0
      replace e0 : t 0 = (.pointer (some ⟨w.heap.size, 0, none⟩)) := e0
      clear hh
      simp only [filled, filledN, upd, Have, is, any, row, pick, Act.put, List.setIfInBounds_toArray, List.set_cons_zero, List.set_cons_succ, Nat.reduceAdd, Nat.reduceEqDiff, reduceIte] at hK ⊢
      simp only [e0] at hK ⊢
      have hq : wq.cell? ⟨w.heap.size, 0, none⟩ = some (.string X) := (cell_of_row wq _ 0 _ _ _ (XI2.out.below hbq)).trans rfl
      go_simp
      exact hK _ _ (Below.refl _ _) rfl
     ·intro t wq hbq hh K hK
      clear hh
      simp only [filled, filledN, upd, Have, is, any, row, pick, Act.put, List.setIfInBounds_toArray, List.set_cons_zero, List.set_cons_succ, Nat.reduceAdd, Nat.reduceEqDiff, reduceIte] at hK ⊢
      go_simp
      exact hK _ _ (Below.refl _ _) rfl
     ·intro t wq hbq hh K hK
      clear hh
      simp only [filled, filledN, upd, Have, is, any, row, pick, Act.put, List.setIfInBounds_toArray, List.set_cons_zero, List.set_cons_succ, Nat.reduceAdd, Nat.reduceEqDiff, reduceIte] at hK ⊢
      go_simp
      exact hK _ _ (Below.refl _ _) rfl
     ·intro t wq hbq hh K hK
      have e1 := hh.2.1
      simp only [pick] at e1
      replace e1 : t 1 = (.string X) := e1
      have e2 := hh.2.2.1
      simp only [pick] at e2
      replace e2 : t 2 = (.int .i64 0) := e2
      have e3 := hh.2.2.2.1
      simp only [pick] at e3
      replace e3 : t 3 = (.int .i64 (mx : Int)) := e3
      clear hh
      simp only [filled, filledN, upd, Have, is, any, row, pick, Act.put, List.setIfInBounds_toArray, List.set_cons_zero, List.set_cons_succ, Nat.reduceAdd, Nat.reduceEqDiff, reduceIte] at hK ⊢
      simp only [e1, e2, e3] at hK ⊢
      have hxs := HXS.out
      have hsm := HSM.out
      have hmn := HMN.out
      have q1 : mx ≤ X.size := by omega
      have q2 : (mx : Int) ≤ (X.size : Int) := by omega
      have q3 : (0 : Int) ≤ (mx : Int) := by omega
      have hxy := HXY.out
      go_simp
      exact hK _ _ (Below.refl _ _) rfl
     ·intro t wq hbq hh K hK
      clear hh
      simp only [filled, filledN, upd, Have, is, any, row, pick, Act.put, List.setIfInBounds_toArray, List.set_cons_zero, List.set_cons_succ, Nat.reduceAdd, Nat.reduceEqDiff, reduceIte] at hK ⊢
      go_simp
      exact hK _ _ (Below.refl _ _) rfl
     ·intro t wq hbq hh K hK
      have e5 := hh.1
      simp only [pick] at e5
      replace e5 : t 5 = (.string s) := e5
      clear hh
      simp only [filled, filledN, upd, Have, is, any, row, pick, Act.put, List.setIfInBounds_toArray, List.set_cons_zero, List.set_cons_succ, Nat.reduceAdd, Nat.reduceEqDiff, reduceIte] at hK ⊢
      simp only [e5] at hK ⊢
      go_simp
      refine (refKind_any s _ HS.out).mono ?_
      rintro e w9 ⟨rfl, hb9⟩
      exact hK _ _ hb9 rfl
     ·intro t wq hbq hh K hK
      have e4 := hh.2.2.2.2.1
      simp only [pick] at e4
      replace e4 : t 4 = (.string Y) := e4
      have e6 := hh.2.2.2.2.2.2.1
      simp only [pick] at e6
      replace e6 : t 6 = (.string (strOf (kd s.data.toList))) := e6
      clear hh
      simp only [filled, filledN, upd, Have, is, any, row, pick, Act.put, List.setIfInBounds_toArray, List.set_cons_zero, List.set_cons_succ, Nat.reduceAdd, Nat.reduceEqDiff, reduceIte] at hK ⊢
      simp only [e4, e6] at hK ⊢
      go_simp
      exact hK _ _ (Below.refl _ _) rfl
    ·intro t wq hbq hh
     have f7 := have_get hh 7 (by decide)
     simp only [pick] at f7
     replace f7 : t 7 = (.agg #[.string Y, .string (strOf (kd s.data.toList))]) := f7
     clear hh
     simp only [filled, filledN, upd, Have, is, any, row, pick, Act.put, List.setIfInBounds_toArray, List.set_cons_zero, List.set_cons_succ, Nat.reduceAdd, Nat.reduceEqDiff, reduceIte]
     simp only [f7]
     have HBq := hid (bel HB2.out hbq)
     have XRq := hid (XR2.out.below hbq)
     clear hbq
     refine store_bx XRq.out #[.string Y, .string (strOf (kd s.data.toList))] rfl rfl (by simp [Value.oneCell']) (.tmp 8) (.tmp 41) rfl rfl rfl rfl ?_
     go_wp2
     try simp only [Exit.inBlock, Exit.then]
     exact bodyPost_ret (w := World.setRow wq (w.heap.size + 1) #[.string Y, .string (strOf (kd s.data.toList))]) (resx rfl (XRq.out.row _) rfl _ rfl) rfl ⟨rfl, below_setRow HBq.out (Nat.le_succ _) _⟩
   ·exact absurd hc (by omega)
 ·skip
  go_wp2_with fail
  refine (refPlace_any z1 n _ HNN.out p4 p5).mono ?_
  rintro e w2 ⟨rfl, hb⟩
  have HB2 := hid (bel HB1.out hb)
  have XI2 := hid (XI1.out.below hb)
  have XR2 := hid (XR1.out.below hb)
  have HT2 := hid (HT1.out.below hb)
  clear hb
  rw [show plc z1 n = st from HST.out]
  clear p2 p3
  rcases HT2.out with ⟨rfl, rfl⟩ | ⟨b2, z2, rfl, r2, r3, r4, r5, rfl⟩
  ·obtain rfl : n = en := HEN.out
   rcases HCS.out with ⟨hc, hm⟩ | ⟨hc, hm⟩
   ·obtain rfl : mx = _ := hm.symm
    go_upto_region 9 with (fail)
    generalize decide ((mx : Int) < (st : Int)) = dq
    generalize decide (mx < st) = dq2
    clear hc
    refine wp_region_rel_tail (by kernel_rfl) 8 [is (.pointer (some ⟨w.heap.size, 0, none⟩)), is (.string X), is (.int .i64 (st : Int)), is (.int .i64 (mx : Int)), is (.string Y), is (.string s), is (.string (strOf (kd s.data.toList))), is (.agg #[.string Y, .string (strOf (kd s.data.toList))])] [[], [0], [], [], [0, 1, 2, 3], [], [5], [0, 1, 2, 3, 4, 5, 6], [0, 1, 2, 3, 4, 5, 6, 7]] (by kernel_rfl) ?_ ?_
    ·refine ⟨?_, ?_, ?_, ?_, ?_, ?_, ?_, ?_, trivial⟩
     ·intro t wq hbq hh K hK
      clear hh
      simp only [filled, filledN, upd, Have, is, any, row, pick, Act.put, List.setIfInBounds_toArray, List.set_cons_zero, List.set_cons_succ, Nat.reduceAdd, Nat.reduceEqDiff, reduceIte] at hK ⊢
      go_simp
      exact hK _ _ (Below.refl _ _) rfl
     ·intro t wq hbq hh K hK
      have e0 := hh.1
      simp only [pick] at e0
      replace e0 : t 0 = (.pointer (some ⟨w.heap.size, 0, none⟩)) := e0
      clear hh
      simp only [filled, filledN, upd, Have, is, any, row, pick, Act.put, List.setIfInBounds_toArray, List.set_cons_zero, List.set_cons_succ, Nat.reduceAdd, Nat.reduceEqDiff, reduceIte] at hK ⊢
      simp only [e0] at hK ⊢
      have hq : wq.cell? ⟨w.heap.size, 0, none⟩ = some (.string X) := (cell_of_row wq _ 0 _ _ _ (XI2.out.below hbq)).trans rfl
      go_simp
      exact hK _ _ (Below.refl _ _) rfl
     ·intro t wq hbq hh K hK
      clear hh
      simp only [filled, filledN, upd, Have, is, any, row, pick, Act.put, List.setIfInBounds_toArray, List.set_cons_zero, List.set_cons_succ, Nat.reduceAdd, Nat.reduceEqDiff, reduceIte] at hK ⊢
      go_simp
      exact hK _ _ (Below.refl _ _) rfl
     ·intro t wq hbq hh K hK
      clear hh
      simp only [filled, filledN, upd, Have, is, any, row, pick, Act.put, List.setIfInBounds_toArray, List.set_cons_zero, List.set_cons_succ, Nat.reduceAdd, Nat.reduceEqDiff, reduceIte] at hK ⊢
      go_simp
      exact hK _ _ (Below.refl _ _) rfl
     ·intro t wq hbq hh K hK
      have e1 := hh.2.1
      simp only [pick] at e1
      replace e1 : t 1 = (.string X) := e1
      have e2 := hh.2.2.1
      simp only [pick] at e2
      replace e2 : t 2 = (.int .i64 (st : Int)) := e2
      have e3 := hh.2.2.2.1
      simp only [pick] at e3
      replace e3 : t 3 = (.int .i64 (mx : Int)) := e3
      clear hh
      simp only [filled, filledN, upd, Have, is, any, row, pick, Act.put, List.setIfInBounds_toArray, List.set_cons_zero, List.set_cons_succ, Nat.reduceAdd, Nat.reduceEqDiff, reduceIte] at hK ⊢
      simp only [e1, e2, e3] at hK ⊢
      have hxs := HXS.out
      have hsm := HSM.out
      have hmn := HMN.out
      have q1 : mx ≤ X.size := by omega
      have q2 : (mx : Int) ≤ (X.size : Int) := by omega
      have q3 : (st : Int) ≤ (mx : Int) := by omega
      have hxy := HXY.out
      go_simp
      exact hK _ _ (Below.refl _ _) rfl
     ·intro t wq hbq hh K hK
      clear hh
      simp only [filled, filledN, upd, Have, is, any, row, pick, Act.put, List.setIfInBounds_toArray, List.set_cons_zero, List.set_cons_succ, Nat.reduceAdd, Nat.reduceEqDiff, reduceIte] at hK ⊢
      go_simp
      exact hK _ _ (Below.refl _ _) rfl
     ·intro t wq hbq hh K hK
      have e5 := hh.1
      simp only [pick] at e5
      replace e5 : t 5 = (.string s) := e5
      clear hh
      simp only [filled, filledN, upd, Have, is, any, row, pick, Act.put, List.setIfInBounds_toArray, List.set_cons_zero, List.set_cons_succ, Nat.reduceAdd, Nat.reduceEqDiff, reduceIte] at hK ⊢
      simp only [e5] at hK ⊢
      go_simp
      refine (refKind_any s _ HS.out).mono ?_
      rintro e w9 ⟨rfl, hb9⟩
      exact hK _ _ hb9 rfl
     ·intro t wq hbq hh K hK
      have e4 := hh.2.2.2.2.1
      simp only [pick] at e4
      replace e4 : t 4 = (.string Y) := e4
      have e6 := hh.2.2.2.2.2.2.1
      simp only [pick] at e6
      replace e6 : t 6 = (.string (strOf (kd s.data.toList))) := e6
      clear hh
      simp only [filled, filledN, upd, Have, is, any, row, pick, Act.put, List.setIfInBounds_toArray, List.set_cons_zero, List.set_cons_succ, Nat.reduceAdd, Nat.reduceEqDiff, reduceIte] at hK ⊢
      simp only [e4, e6] at hK ⊢
      go_simp
      exact hK _ _ (Below.refl _ _) rfl
    ·intro t wq hbq hh
     have f7 := have_get hh 7 (by decide)
     simp only [pick] at f7
     replace f7 : t 7 = (.agg #[.string Y, .string (strOf (kd s.data.toList))]) := f7
     clear hh
     simp only [filled, filledN, upd, Have, is, any, row, pick, Act.put, List.setIfInBounds_toArray, List.set_cons_zero, List.set_cons_succ, Nat.reduceAdd, Nat.reduceEqDiff, reduceIte]
     simp only [f7]
     have HBq := hid (bel HB2.out hbq)
     have XRq := hid (XR2.out.below hbq)
     clear hbq
     refine store_bx XRq.out #[.string Y, .string (strOf (kd s.data.toList))] rfl rfl (by simp [Value.oneCell']) (.tmp 8) (.tmp 41) rfl rfl rfl rfl ?_
     go_wp2
     try simp only [Exit.inBlock, Exit.then]
     exact bodyPost_ret (w := World.setRow wq (w.heap.size + 1) #[.string Y, .string (strOf (kd s.data.toList))]) (resx rfl (XRq.out.row _) rfl _ rfl) rfl ⟨rfl, below_setRow HBq.out (Nat.le_succ _) _⟩
   ·obtain rfl : mx = st := hm.symm
    go_upto_region 9 with (fail)
    skip
    skip
    clear hc
    refine wp_region_rel_tail (by kernel_rfl) 8 [is (.pointer (some ⟨w.heap.size, 0, none⟩)), is (.string X), is (.int .i64 (mx : Int)), is (.int .i64 (mx : Int)), is (.string Y), is (.string s), is (.string (strOf (kd s.data.toList))), is (.agg #[.string Y, .string (strOf (kd s.data.toList))])] [[], [0], [], [], [0, 1, 2, 3], [], [5], [0, 1, 2, 3, 4, 5, 6], [0, 1, 2, 3, 4, 5, 6, 7]] (by kernel_rfl) ?_ ?_
    ·refine ⟨?_, ?_, ?_, ?_, ?_, ?_, ?_, ?_, trivial⟩
     ·intro t wq hbq hh K hK
      clear hh
      simp only [filled, filledN, upd, Have, is, any, row, pick, Act.put, List.setIfInBounds_toArray, List.set_cons_zero, List.set_cons_succ, Nat.reduceAdd, Nat.reduceEqDiff, reduceIte] at hK ⊢
      go_simp
      exact hK _ _ (Below.refl _ _) rfl
     ·intro t wq hbq hh K hK
      have e0 := hh.1
      simp only [pick] at e0
      replace e0 : t 0 = (.pointer (some ⟨w.heap.size, 0, none⟩)) := e0
      clear hh
      simp only [filled, filledN, upd, Have, is, any, row, pick, Act.put, List.setIfInBounds_toArray, List.set_cons_zero, List.set_cons_succ, Nat.reduceAdd, Nat.reduceEqDiff, reduceIte] at hK ⊢
      simp only [e0] at hK ⊢
      have hq : wq.cell? ⟨w.heap.size, 0, none⟩ = some (.string X) := (cell_of_row wq _ 0 _ _ _ (XI2.out.below hbq)).trans rfl
      go_simp
      exact hK _ _ (Below.refl _ _) rfl
     ·intro t wq hbq hh K hK
      clear hh
      simp only [filled, filledN, upd, Have, is, any, row, pick, Act.put, List.setIfInBounds_toArray, List.set_cons_zero, List.set_cons_succ, Nat.reduceAdd, Nat.reduceEqDiff, reduceIte] at hK ⊢
      go_simp
      exact hK _ _ (Below.refl _ _) rfl
     ·intro t wq hbq hh K hK
      clear hh
      simp only [filled, filledN, upd, Have, is, any, row, pick, Act.put, List.setIfInBounds_toArray, List.set_cons_zero, List.set_cons_succ, Nat.reduceAdd, Nat.reduceEqDiff, reduceIte] at hK ⊢
      go_simp
      exact hK _ _ (Below.refl _ _) rfl
     ·intro t wq hbq hh K hK
      have e1 := hh.2.1
      simp only [pick] at e1
      replace e1 : t 1 = (.string X) := e1
      have e2 := hh.2.2.1
      simp only [pick] at e2
      replace e2 : t 2 = (.int .i64 (mx : Int)) := e2
      have e3 := hh.2.2.2.1
      simp only [pick] at e3
      replace e3 : t 3 = (.int .i64 (mx : Int)) := e3
      clear hh
      simp only [filled, filledN, upd, Have, is, any, row, pick, Act.put, List.setIfInBounds_toArray, List.set_cons_zero, List.set_cons_succ, Nat.reduceAdd, Nat.reduceEqDiff, reduceIte] at hK ⊢
      simp only [e1, e2, e3] at hK ⊢
      have hxs := HXS.out
      have hsm := HSM.out
      have hmn := HMN.out
      have q1 : mx ≤ X.size := by omega
      have q2 : (mx : Int) ≤ (X.size : Int) := by omega
      have q3 : (mx : Int) ≤ (mx : Int) := by omega
      have hxy := HXY.out
      go_simp
      exact hK _ _ (Below.refl _ _) (congrArg Value.string (by have h := HXY.out; simpa using h))
     ·intro t wq hbq hh K hK
      clear hh
      simp only [filled, filledN, upd, Have, is, any, row, pick, Act.put, List.setIfInBounds_toArray, List.set_cons_zero, List.set_cons_succ, Nat.reduceAdd, Nat.reduceEqDiff, reduceIte] at hK ⊢
      go_simp
      exact hK _ _ (Below.refl _ _) rfl
     ·intro t wq hbq hh K hK
      have e5 := hh.1
      simp only [pick] at e5
      replace e5 : t 5 = (.string s) := e5
      clear hh
      simp only [filled, filledN, upd, Have, is, any, row, pick, Act.put, List.setIfInBounds_toArray, List.set_cons_zero, List.set_cons_succ, Nat.reduceAdd, Nat.reduceEqDiff, reduceIte] at hK ⊢
      simp only [e5] at hK ⊢
      go_simp
      refine (refKind_any s _ HS.out).mono ?_
      rintro e w9 ⟨rfl, hb9⟩
      exact hK _ _ hb9 rfl
     ·intro t wq hbq hh K hK
      have e4 := hh.2.2.2.2.1
      simp only [pick] at e4
      replace e4 : t 4 = (.string Y) := e4
      have e6 := hh.2.2.2.2.2.2.1
      simp only [pick] at e6
      replace e6 : t 6 = (.string (strOf (kd s.data.toList))) := e6
      clear hh
      simp only [filled, filledN, upd, Have, is, any, row, pick, Act.put, List.setIfInBounds_toArray, List.set_cons_zero, List.set_cons_succ, Nat.reduceAdd, Nat.reduceEqDiff, reduceIte] at hK ⊢
      simp only [e4, e6] at hK ⊢
      go_simp
      exact hK _ _ (Below.refl _ _) rfl
    ·intro t wq hbq hh
     have f7 := have_get hh 7 (by decide)
     simp only [pick] at f7
     replace f7 : t 7 = (.agg #[.string Y, .string (strOf (kd s.data.toList))]) := f7
     clear hh
     simp only [filled, filledN, upd, Have, is, any, row, pick, Act.put, List.setIfInBounds_toArray, List.set_cons_zero, List.set_cons_succ, Nat.reduceAdd, Nat.reduceEqDiff, reduceIte]
     simp only [f7]
     have HBq := hid (bel HB2.out hbq)
     have XRq := hid (XR2.out.below hbq)
     clear hbq
     refine store_bx XRq.out #[.string Y, .string (strOf (kd s.data.toList))] rfl rfl (by simp [Value.oneCell']) (.tmp 8) (.tmp 41) rfl rfl rfl rfl ?_
     go_wp2
     try simp only [Exit.inBlock, Exit.then]
     exact bodyPost_ret (w := World.setRow wq (w.heap.size + 1) #[.string Y, .string (strOf (kd s.data.toList))]) (resx rfl (XRq.out.row _) rfl _ rfl) rfl ⟨rfl, below_setRow HBq.out (Nat.le_succ _) _⟩
  ·skip
   go_wp2_with fail
   refine (refPlace_any z2 n _ HNN.out r4 r5).mono ?_
   rintro e w3 ⟨rfl, hb⟩
   have HB3 := hid (bel HB2.out hb)
   have XI3 := hid (XI2.out.below hb)
   have XR3 := hid (XR2.out.below hb)
   clear hb
   rw [show plc z2 n = en from HEN.out]
   clear r2 r3
   rcases HCS.out with ⟨hc, hm⟩ | ⟨hc, hm⟩
   ·obtain rfl : mx = _ := hm.symm
    go_upto_region 9 with (fail)
    generalize decide ((mx : Int) < (st : Int)) = dq
    generalize decide (mx < st) = dq2
    clear hc
    refine wp_region_rel_tail (by kernel_rfl) 8 [is (.pointer (some ⟨w.heap.size, 0, none⟩)), is (.string X), is (.int .i64 (st : Int)), is (.int .i64 (mx : Int)), is (.string Y), is (.string s), is (.string (strOf (kd s.data.toList))), is (.agg #[.string Y, .string (strOf (kd s.data.toList))])] [[], [0], [], [], [0, 1, 2, 3], [], [5], [0, 1, 2, 3, 4, 5, 6], [0, 1, 2, 3, 4, 5, 6, 7]] (by kernel_rfl) ?_ ?_
    ·refine ⟨?_, ?_, ?_, ?_, ?_, ?_, ?_, ?_, trivial⟩
     ·intro t wq hbq hh K hK
      clear hh
      simp only [filled, filledN, upd, Have, is, any, row, pick, Act.put, List.setIfInBounds_toArray, List.set_cons_zero, List.set_cons_succ, Nat.reduceAdd, Nat.reduceEqDiff, reduceIte] at hK ⊢
      go_simp
      exact hK _ _ (Below.refl _ _) rfl
     ·intro t wq hbq hh K hK
      have e0 := hh.1
      simp only [pick] at e0
      replace e0 : t 0 = (.pointer (some ⟨w.heap.size, 0, none⟩)) := e0
      clear hh
      simp only [filled, filledN, upd, Have, is, any, row, pick, Act.put, List.setIfInBounds_toArray, List.set_cons_zero, List.set_cons_succ, Nat.reduceAdd, Nat.reduceEqDiff, reduceIte] at hK ⊢
      simp only [e0] at hK ⊢
      have hq : wq.cell? ⟨w.heap.size, 0, none⟩ = some (.string X) := (cell_of_row wq _ 0 _ _ _ (XI3.out.below hbq)).trans rfl
      go_simp
      exact hK _ _ (Below.refl _ _) rfl
     ·intro t wq hbq hh K hK
      clear hh
      simp only [filled, filledN, upd, Have, is, any, row, pick, Act.put, List.setIfInBounds_toArray, List.set_cons_zero, List.set_cons_succ, Nat.reduceAdd, Nat.reduceEqDiff, reduceIte] at hK ⊢
      go_simp
      exact hK _ _ (Below.refl _ _) rfl
     ·intro t wq hbq hh K hK
      clear hh
      simp only [filled, filledN, upd, Have, is, any, row, pick, Act.put, List.setIfInBounds_toArray, List.set_cons_zero, List.set_cons_succ, Nat.reduceAdd, Nat.reduceEqDiff, reduceIte] at hK ⊢
      go_simp
      exact hK _ _ (Below.refl _ _) rfl
     ·intro t wq hbq hh K hK
      have e1 := hh.2.1
      simp only [pick] at e1
      replace e1 : t 1 = (.string X) := e1
      have e2 := hh.2.2.1
      simp only [pick] at e2
      replace e2 : t 2 = (.int .i64 (st : Int)) := e2
      have e3 := hh.2.2.2.1
      simp only [pick] at e3
      replace e3 : t 3 = (.int .i64 (mx : Int)) := e3
      clear hh
      simp only [filled, filledN, upd, Have, is, any, row, pick, Act.put, List.setIfInBounds_toArray, List.set_cons_zero, List.set_cons_succ, Nat.reduceAdd, Nat.reduceEqDiff, reduceIte] at hK ⊢
      simp only [e1, e2, e3] at hK ⊢
      have hxs := HXS.out
      have hsm := HSM.out
      have hmn := HMN.out
      have q1 : mx ≤ X.size := by omega
      have q2 : (mx : Int) ≤ (X.size : Int) := by omega
      have q3 : (st : Int) ≤ (mx : Int) := by omega
      have hxy := HXY.out
      go_simp
      exact hK _ _ (Below.refl _ _) rfl
     ·intro t wq hbq hh K hK
      clear hh
      simp only [filled, filledN, upd, Have, is, any, row, pick, Act.put, List.setIfInBounds_toArray, List.set_cons_zero, List.set_cons_succ, Nat.reduceAdd, Nat.reduceEqDiff, reduceIte] at hK ⊢
      go_simp
      exact hK _ _ (Below.refl _ _) rfl
     ·intro t wq hbq hh K hK
      have e5 := hh.1
      simp only [pick] at e5
      replace e5 : t 5 = (.string s) := e5
      clear hh
      simp only [filled, filledN, upd, Have, is, any, row, pick, Act.put, List.setIfInBounds_toArray, List.set_cons_zero, List.set_cons_succ, Nat.reduceAdd, Nat.reduceEqDiff, reduceIte] at hK ⊢
      simp only [e5] at hK ⊢
      go_simp
      refine (refKind_any s _ HS.out).mono ?_
      rintro e w9 ⟨rfl, hb9⟩
      exact hK _ _ hb9 rfl
     ·intro t wq hbq hh K hK
      have e4 := hh.2.2.2.2.1
      simp only [pick] at e4
      replace e4 : t 4 = (.string Y) := e4
      have e6 := hh.2.2.2.2.2.2.1
      simp only [pick] at e6
      replace e6 : t 6 = (.string (strOf (kd s.data.toList))) := e6
      clear hh
      simp only [filled, filledN, upd, Have, is, any, row, pick, Act.put, List.setIfInBounds_toArray, List.set_cons_zero, List.set_cons_succ, Nat.reduceAdd, Nat.reduceEqDiff, reduceIte] at hK ⊢
      simp only [e4, e6] at hK ⊢
      go_simp
      exact hK _ _ (Below.refl _ _) rfl
    ·intro t wq hbq hh
     have f7 := have_get hh 7 (by decide)
     simp only [pick] at f7
     replace f7 : t 7 = (.agg #[.string Y, .string (strOf (kd s.data.toList))]) := f7
     clear hh
     simp only [filled, filledN, upd, Have, is, any, row, pick, Act.put, List.setIfInBounds_toArray, List.set_cons_zero, List.set_cons_succ, Nat.reduceAdd, Nat.reduceEqDiff, reduceIte]
     simp only [f7]
     have HBq := hid (bel HB3.out hbq)
     have XRq := hid (XR3.out.below hbq)
     clear hbq
     refine store_bx XRq.out #[.string Y, .string (strOf (kd s.data.toList))] rfl rfl (by simp [Value.oneCell']) (.tmp 8) (.tmp 41) rfl rfl rfl rfl ?_
     go_wp2
     try simp only [Exit.inBlock, Exit.then]
     exact bodyPost_ret (w := World.setRow wq (w.heap.size + 1) #[.string Y, .string (strOf (kd s.data.toList))]) (resx rfl (XRq.out.row _) rfl _ rfl) rfl ⟨rfl, below_setRow HBq.out (Nat.le_succ _) _⟩
   ·obtain rfl : mx = st := hm.symm
    go_upto_region 9 with (fail)
    skip
    skip
    clear hc
    refine wp_region_rel_tail (by kernel_rfl) 8 [is (.pointer (some ⟨w.heap.size, 0, none⟩)), is (.string X), is (.int .i64 (mx : Int)), is (.int .i64 (mx : Int)), is (.string Y), is (.string s), is (.string (strOf (kd s.data.toList))), is (.agg #[.string Y, .string (strOf (kd s.data.toList))])] [[], [0], [], [], [0, 1, 2, 3], [], [5], [0, 1, 2, 3, 4, 5, 6], [0, 1, 2, 3, 4, 5, 6, 7]] (by kernel_rfl) ?_ ?_
    ·refine ⟨?_, ?_, ?_, ?_, ?_, ?_, ?_, ?_, trivial⟩
     ·intro t wq hbq hh K hK
      clear hh
      simp only [filled, filledN, upd, Have, is, any, row, pick, Act.put, List.setIfInBounds_toArray, List.set_cons_zero, List.set_cons_succ, Nat.reduceAdd, Nat.reduceEqDiff, reduceIte] at hK ⊢
      go_simp
      exact hK _ _ (Below.refl _ _) rfl
     ·intro t wq hbq hh K hK
      have e0 := hh.1
      simp only [pick] at e0
      replace e0 : t 0 = (.pointer (some ⟨w.heap.size, 0, none⟩)) := e0
      clear hh
      simp only [filled, filledN, upd, Have, is, any, row, pick, Act.put, List.setIfInBounds_toArray, List.set_cons_zero, List.set_cons_succ, Nat.reduceAdd, Nat.reduceEqDiff, reduceIte] at hK ⊢
      simp only [e0] at hK ⊢
      have hq : wq.cell? ⟨w.heap.size, 0, none⟩ = some (.string X) := (cell_of_row wq _ 0 _ _ _ (XI3.out.below hbq)).trans rfl
      go_simp
      exact hK _ _ (Below.refl _ _) rfl
     ·intro t wq hbq hh K hK
      clear hh
      simp only [filled, filledN, upd, Have, is, any, row, pick, Act.put, List.setIfInBounds_toArray, List.set_cons_zero, List.set_cons_succ, Nat.reduceAdd, Nat.reduceEqDiff, reduceIte] at hK ⊢
      go_simp
      exact hK _ _ (Below.refl _ _) rfl
     ·intro t wq hbq hh K hK
      clear hh
      simp only [filled, filledN, upd, Have, is, any, row, pick, Act.put, List.setIfInBounds_toArray, List.set_cons_zero, List.set_cons_succ, Nat.reduceAdd, Nat.reduceEqDiff, reduceIte] at hK ⊢
      go_simp
      exact hK _ _ (Below.refl _ _) rfl
     ·intro t wq hbq hh K hK
      have e1 := hh.2.1
      simp only [pick] at e1
      replace e1 : t 1 = (.string X) := e1
      have e2 := hh.2.2.1
      simp only [pick] at e2
      replace e2 : t 2 = (.int .i64 (mx : Int)) := e2
      have e3 := hh.2.2.2.1
      simp only [pick] at e3
      replace e3 : t 3 = (.int .i64 (mx : Int)) := e3
      clear hh
      simp only [filled, filledN, upd, Have, is, any, row, pick, Act.put, List.setIfInBounds_toArray, List.set_cons_zero, List.set_cons_succ, Nat.reduceAdd, Nat.reduceEqDiff, reduceIte] at hK ⊢
      simp only [e1, e2, e3] at hK ⊢
      have hxs := HXS.out
      have hsm := HSM.out
      have hmn := HMN.out
      have q1 : mx ≤ X.size := by omega
      have q2 : (mx : Int) ≤ (X.size : Int) := by omega
      have q3 : (mx : Int) ≤ (mx : Int) := by omega
      have hxy := HXY.out
      go_simp
      exact hK _ _ (Below.refl _ _) (congrArg Value.string (by have h := HXY.out; simpa using h))
     ·intro t wq hbq hh K hK
      clear hh
      simp only [filled, filledN, upd, Have, is, any, row, pick, Act.put, List.setIfInBounds_toArray, List.set_cons_zero, List.set_cons_succ, Nat.reduceAdd, Nat.reduceEqDiff, reduceIte] at hK ⊢
      go_simp
      exact hK _ _ (Below.refl _ _) rfl
     ·intro t wq hbq hh K hK
      have e5 := hh.1
      simp only [pick] at e5
      replace e5 : t 5 = (.string s) := e5
      clear hh
      simp only [filled, filledN, upd, Have, is, any, row, pick, Act.put, List.setIfInBounds_toArray, List.set_cons_zero, List.set_cons_succ, Nat.reduceAdd, Nat.reduceEqDiff, reduceIte] at hK ⊢
      simp only [e5] at hK ⊢
      go_simp
      refine (refKind_any s _ HS.out).mono ?_
      rintro e w9 ⟨rfl, hb9⟩
      exact hK _ _ hb9 rfl
     ·intro t wq hbq hh K hK
      have e4 := hh.2.2.2.2.1
      simp only [pick] at e4
      replace e4 : t 4 = (.string Y) := e4
      have e6 := hh.2.2.2.2.2.2.1
      simp only [pick] at e6
      replace e6 : t 6 = (.string (strOf (kd s.data.toList))) := e6
      clear hh
      simp only [filled, filledN, upd, Have, is, any, row, pick, Act.put, List.setIfInBounds_toArray, List.set_cons_zero, List.set_cons_succ, Nat.reduceAdd, Nat.reduceEqDiff, reduceIte] at hK ⊢
      simp only [e4, e6] at hK ⊢
      go_simp
      exact hK _ _ (Below.refl _ _) rfl
    ·intro t wq hbq hh
     have f7 := have_get hh 7 (by decide)
     simp only [pick] at f7
     replace f7 : t 7 = (.agg #[.string Y, .string (strOf (kd s.data.toList))]) := f7
     clear hh
     simp only [filled, filledN, upd, Have, is, any, row, pick, Act.put, List.setIfInBounds_toArray, List.set_cons_zero, List.set_cons_succ, Nat.reduceAdd, Nat.reduceEqDiff, reduceIte]
     simp only [f7]
     have HBq := hid (bel HB3.out hbq)
     have XRq := hid (XR3.out.below hbq)
     clear hbq
     refine store_bx XRq.out #[.string Y, .string (strOf (kd s.data.toList))] rfl rfl (by simp [Value.oneCell']) (.tmp 8) (.tmp 41) rfl rfl rfl rfl ?_
     go_wp2
     try simp only [Exit.inBlock, Exit.then]
     exact bodyPost_ret (w := World.setRow wq (w.heap.size + 1) #[.string Y, .string (strOf (kd s.data.toList))]) (resx rfl (XRq.out.row _) rfl _ rfl) rfl ⟨rfl, below_setRow HBq.out (Nat.le_succ _) _⟩
end Go.Proofs.YtegpfgccaminkaaGreatDoor.BlobR
namespace Go.Proofs.YtegpfgccaminkaaGreatDoor.Shs
open Go.RowKit Base
variable {H : Type} {enc : TypeId × Value → H}
theorem wrap {a : Assume} {C : Checked} {os : Os} {f : FuncId} {fn : Func} {s : ChangeSpec} {conds : List PathCond} {apart fresh handsOn again : Bool} {X : World → Array Value → Prop}
  (hX : ∀ (w w' : World) (args : Array Value), w.heap = w'.heap → X w args → X w' args)
  (own : ownKnob C.prog.godebug = none) (started : os.Started) (noInit : C.prog.inits.idxOf? f = none) (hfn : C.prog.funcs[f]? = some fn)
  (witness : ∃ (w : World) (tape : Tape) (i : Input), w.os = os ∧ (w.forCall tape i).Shaped C.prog ∧ i.vars = [] ∧ Input.okWide C.prog (w.forCall tape i) .any w.heap.size f i ∧
   ((s.pre enc C.prog fn conds apart (w.forCall tape i).memory i.args ∧ X (w.forCall tape i).memory i.args) ∧ sizedMet enc C.prog fn (OpenSpec.ofChange s) apart (w.forCall tape i).memory i.args) ∧ a.holds C.prog (lone (Frame.enter C.prog f i.args .normal) [] (w.forCall tape i)))
  (contract : ∀ (W : World) (base : Nat) (args : Array Value) (ds gs : List (DataW H)) (before : List MemPlace),
   (∀ (j : Nat) t v, fn.params[j]? = some t → args[j]? = some v → Value.okWide C.prog W .any base t v) →
   DataW.Whole enc C.prog fn.params.toList s.vars apart W args.toList ds gs before →
   conds.all (PathCond.test C.prog ⟨fn.params.toList, ds, s.plain.varTypes C.prog, gs⟩) = true →
   (DataW.weightsEach C.prog (fn.params.toList ++ s.plain.varTypes C.prog) (ds ++ gs)).all (· ≤ reachBytes) = true → X W args → W.ShapedOpen C.prog →
   a.holds C.prog (lone (Frame.enter C.prog f args .normal) [] W) →
   Calls C.prog f args W fun e W' => ∃ v, e = .returned v ∧ s.post enc C.prog fn apart fresh handsOn again W args v W') :
  ReturnsInHanded a C os f .any (fun w args => (s.pre enc C.prog fn conds apart w args ∧ X w args) ∧ sizedMet enc C.prog fn (OpenSpec.ofChange s) apart w args) (s.post enc C.prog fn apart fresh handsOn again) := by
 refine returnsInHanded_of_calls own started noInit witness ?_
 intro w tape i _ hsh _ hok hpre hholds
 obtain ⟨_, _, _, fn', hfn', _, _, _, _, hval⟩ := hok
 have e : fn' = fn := Option.some.inj (hfn'.symm.trans hfn)
 subst e
 obtain ⟨⟨⟨ds, gs, before, hw, hc⟩, hx⟩, hz⟩ := hpre
 have hw' := DataW.Whole.of_heap (w' := w.forCall tape i) (by rfl) hw
 refine (contract (w.forCall tape i) w.heap.size i.args ds gs before hval hw' hc (hz.weights hw) (hX _ _ _ (by rfl) hx) hsh hholds).mono fun e W' ⟨v, he, hp⟩ => ?_
 subst he
 exact ChangeSpec.post_blind hp
theorem max_of {w : World} (h : w.ShapedOpen Tryz.prog) : Spl.Max w := Go.Proofs.cell_of_shapedOpen_int (zero := #[.int .i64 0]) (t := 3) h (of_decide_eq_true (by kernel_rfl)) (by kernel_rfl) rfl (by kernel_rfl) (by kernel_rfl) Tryz.underlying3
end Go.Proofs.YtegpfgccaminkaaGreatDoor.Shs
namespace Go.Proofs.YtegpfgccaminkaaGreatDoor.Utab
open Go.RowKit Go.Lib
theorem utab_of {W : World} {l : List (String × DataW Unit)} (h : laidMet Tryz.prog l W) (h1 : ("unicode/utf8.first", firstData) ∈ l) (h2 : ("unicode/utf8.acceptRanges", acceptData) ∈ l) : PrsG.Utab W :=
 utf8Tabs_of_reads (ρ := Tryz.l237_ren) { Tryz.l237 with } ⟨by kernel_rfl, by kernel_rfl, by kernel_rfl, by kernel_rfl, by kernel_rfl, by kernel_rfl, by kernel_rfl⟩ (Lib.laidMet.reads h h1) (Lib.laidMet.reads h h2)
end Go.Proofs.YtegpfgccaminkaaGreatDoor.Utab
namespace Go.Proofs.YtegpfgccaminkaaGreatDoor.Open2
open Go.ChangeShapes Go.WideShapes Go.ChangeAt Go.RowKit Base
variable {P : Program} {w : World} {H : Type} {enc : TypeId × Value → H} {base : Nat} {held : Bool}
theorem cap_told {t e : TypeId} {k : IntKind} {fuel : Nat} {a : Option Addr} {len cap : Nat} {x : DataW H × List MemPlace} (ht : P.underlying t = some (.slice e)) (he : P.underlying e = some (.int k)) (hc : P.cellsOf e = 1)
  (h : DataW.trod enc P w base (fun _ => true) held fuel t (Value.slice a len cap).cells.toList = some x) :
  cap = 0 ∨ ∃ es sp, x.1 = .slice es sp ∧ es.length + sp.length = cap := by
 rcases open_ints ht he hc h with ⟨hcs, _⟩ | ⟨_, l, c, zs, hcs, _, hl, hm, hz, rfl, _, _⟩
 ·simp [Value.cells] at hcs
  exact .inl hcs.2.2
 ·simp [Value.cells] at hcs
  obtain ⟨rfl, rfl, rfl⟩ := hcs
  have hz' : zs.length = cap := by simpa using hz
  refine .inr ⟨_, _, rfl, ?_⟩
  simp only [lits, List.length_map, List.length_take, List.length_drop]
  omega
theorem reach {ts : List TypeId} {ds : List (DataW H)} (hsz : (DataW.weightsEach P ts ds).all (· ≤ reachBytes) = true) {j : Nat} {t e : TypeId} {k : IntKind} {b fuel : Nat} {a : Option Addr} {len cap : Nat} {x : DataW H × List MemPlace}
  (htj : ts[j]? = some t) (hdj : ds[j]? = some x.1) (ht : P.underlying t = some (.slice e)) (he : P.underlying e = some (.int k)) (hc : P.cellsOf e = 1) (hb : P.bytesOf e = b)
  (h : DataW.trod enc P w base (fun _ => true) held fuel t (Value.slice a len cap).cells.toList = some x) : cap * b ≤ 140737488351232 := by
 rcases cap_told ht he hc h with rfl | ⟨es, sp, e1, hl⟩
 ·simp
 ·have := sized_slice hsz htj (hdj.trans (congrArg some e1)) ht
  rw [hl, hb] at this
  exact this
theorem field_string {ts : List TypeId} {ds : List (DataW H)} (hsz : (DataW.weightsEach P ts ds).all (· ≤ reachBytes) = true) {i : Nat} {t : TypeId} {fs : Array Field} {parts : List (DataW H)} (hti : ts[i]? = some t) (hdi : ds[i]? = some (.agg parts)) (hu : P.underlying t = some (.struct fs))
  {j : Nat} {ft : TypeId} {bytes : List UInt8} (hf : (fs.toList.map (·.type))[j]? = some ft) (hp : parts[j]? = some (.lit (.string bytes))) : bytes.length ≤ reachBytes := by
 have := List.all_eq_true.1 hsz _ (DataW.weights_mem_each hti hdi bytes.length (by
  simp only [DataW.weights, hu]
  exact DataW.weights_mem_each hf hp _ (by simp [DataW.weights])))
 simpa using this
end Go.Proofs.YtegpfgccaminkaaGreatDoor.Open2
