/- Texts that belong together: BlobR, SpnY, Dgt. -/
import Derived.Test.YtegpfgccaminkaaGreatDoorUAH
import Derived.Test.YtegpfgccaminkaaGreatDoorUAC
import Derived.Test.YtegpfgccaminkaaGreatDoorUAA
import Derived.Test.YtegpfgccaminkaaGreatDoorUAF
import Derived.BigQuiet
import Derived.Deep.QuietTactic
import Derived.Test.YtegpfgccaminkaaGreatDoorUAP
import Derived.Test.YtegpfgccaminkaaGreatDoorUAM
set_option linter.unusedSimpArgs false
set_option linter.unusedVariables false
namespace Go.Proofs.YtegpfgccaminkaaGreatDoor.BlobR
open Go.RowKit Base Base2 Base3 Regs UtfL BlobA BlobB BlobC BlobD Ubx
set_option linter.unusedSimpArgs false
set_option linter.unusedVariables false
set_option maxRecDepth 100000 in
theorem refKind_any (s : ByteArray) (w : World) (hm : s.size ≤ 1073741824) :
  Calls Tryz.prog 28 #[.string s] w fun e w' => e = .returned (.string (strOf (kd s.data.toList))) ∧ Below w.heap.size w w' := by
 have hl : s.data.toList.length = s.size := Array.length_toList
 have HL := hid hl
 clear hl
 have hm' : s.size ≤ 9223372036854775807 := by omega
 go_enter Tryz.func28, Tryz.ntmps28
 go_wp2
 go_loopw [6] (fun vk wr => ∃ j : Nat, j ≤ s.size ∧ vk = .int .i64 j ∧ Hid (∀ i (h : i < s.data.toList.length), i < j → 32 ≤ s.data.toList[i].toNat ∧ s.data.toList[i].toNat ≤ 126) ∧ Below w.heap.size w wr) (fun vk _ => s.size - (intOf vk).toNat)
 case atStart => exact ⟨0, Nat.zero_le _, rfl, (fun i _ h => absurd h (by omega)), Below.refl _ _⟩
 case round =>
  obtain ⟨j, hj, rfl, HA, hbel⟩ := hrel
  by_cases hlt : j < s.size
  ·obtain ⟨c, hc⟩ : ∃ c, s[j] = c := ⟨_, rfl⟩
   have HC : Hid (s.data.toList[j]'(by rw [HL.out]; exact hlt) = c) := by rw [← hc]; rfl
   have hc0 : (c.toNat : Int) < 256 := by have := c.toNat_lt; omega
   by_cases hf : 32 ≤ (c.toNat : Int) ∧ (c.toNat : Int) ≤ 126
   ·obtain ⟨f1, f2⟩ := hf
    have f1' : ¬ (c.toNat : Int) < 32 := by omega
    have f2' : ¬ 126 < (c.toNat : Int) := by omega
    have HA2 : Hid (∀ i (h : i < s.data.toList.length), i < j + 1 → 32 ≤ s.data.toList[i].toNat ∧ s.data.toList[i].toNat ≤ 126) := by
     intro i h hi
     by_cases e : i = j
     ·subst e
      rw [HC.out]
      omega
     ·exact HA.out i h (by omega)
    go_wp2
    go_roundw
    case rel => exact ⟨j + 1, by omega, by go_num, HA2, hbel⟩
    case measure => simp [intOf]; omega
   ·have HK : Hid (kd s.data.toList = []) := by
     show kd _ = []
     unfold kd
     rw [if_neg]
     unfold fineK
     rw [decide_eq_true_iff]
     intro h
     have := h c (by rw [← HC.out]; exact List.getElem_mem _)
     omega
    rcases (show (c.toNat : Int) < 32 ∨ ¬ (c.toNat : Int) < 32 ∧ 126 < (c.toNat : Int) by omega) with h1 | ⟨h1, h2⟩
    all_goals
     clear hf
     go_wp2
     go_ret
     exact ⟨ret_str (by rw [HK.out]; rfl), hbel⟩
  ·obtain rfl : j = s.size := by omega
   have HK : Hid (kd s.data.toList = lower s.data.toList) := by
    show kd _ = _
    unfold kd
    rw [if_pos]
    unfold fineK
    rw [decide_eq_true_iff]
    intro c hc
    obtain ⟨i, hi, rfl⟩ := List.mem_iff_getElem.1 hc
    exact HA.out i hi (by rw [← HL.out]; exact hi)
   go_wp2_with fail
   refine (RefA.lower_any s _ hm).mono ?_
   rintro e w4 ⟨rfl, hb4⟩
   go_wp2
   go_ret
   exact ⟨ret_str (by rw [HK.out]), hbel.trans (hb4.mono hbel.size)⟩
theorem refPlace_any (z : Int) (n : Nat) (w : World) (hn : n ≤ 1073741824) (hz0 : -9223372036854775808 ≤ z) (hz1 : z ≤ 9223372036854775807) :
  Calls Tryz.prog 56 #[.int .i64 z, .int .i64 (n : Int)] w fun e w' => e = .returned (.int .i64 ((plc z n : Nat) : Int)) ∧ Below w.heap.size w w' := by
 obtain ⟨m, hm⟩ : ∃ m, m = plc z n := ⟨_, rfl⟩
 rw [← hm]
 by_cases hneg : z < 0
 ·by_cases hs : z < -(n : Int)
  ·have hm' : (m : Int) = 0 := by rw [hm]; unfold plc; rw [if_pos hneg]; omega
   rw [hm']
   clear hm hm'
   go_enter Tryz.func56, Tryz.ntmps56
   go_wp2
   go_ret
   exact ⟨rfl, Below.refl _ _⟩
  ·have hm' : (m : Int) = (n : Int) + z := by rw [hm]; unfold plc; rw [if_pos hneg]; omega
   rw [hm']
   clear hm hm'
   go_enter Tryz.func56, Tryz.ntmps56
   go_wp2
   go_ret
   exact ⟨rfl, Below.refl _ _⟩
 ·have HM : Hid ((m : Int) = min z (n : Int)) := by show _ = _; rw [hm]; unfold plc; rw [if_neg hneg]; omega
  clear hm
  go_enter Tryz.func56, Tryz.ntmps56
  go_wp2
  go_ret
  refine ⟨?_, Below.refl _ _⟩
  rw [HM.out]
  rfl
abbrev BV (L : List UInt8) (K : ByteArray) : Value := .agg #[.string (strOf L), .string K]
theorem str_part (L : List UInt8) (a b : Nat) (h : a ≤ b) (hb : b ≤ L.length) : (strOf L).extract a b = strOf ((L.drop a).take (b - a)) := by
 have : ((strOf L).extract a b).data = (strOf ((L.drop a).take (b - a))).data := by
  rw [ByteArray.data_extract]
  show L.toArray.extract a b = _
  simp [strOf, List.extract_toArray, List.extract]
 cases h1 : (strOf L).extract a b
 cases h2 : strOf ((L.drop a).take (b - a))
 rw [h1, h2] at this
 exact congrArg _ this
def BX (w : World) (g : Nat) (cs : Array Value) : Prop := w.heap[g]? = some (.cells cs 82 (0, 0))
theorem BX.below {w w' : World} {g : Nat} {cs : Array Value} (h : BX w g cs) (hb : Below w.heap.size w w') : BX w' g cs := (hb.block g (Array.getElem?_eq_some_iff.1 h).1).trans h
theorem BX.row {w : World} {g : Nat} {cs : Array Value} (h : BX w g cs) (ds : Array Value) : BX (w.setRow g ds) g ds := setRow_heap w g cs ds _ (0, 0) h
theorem store_bx {w : World} {g : Nat} {cs : Array Value} {ops : Array Oper} {rest : List Oper} {o : Oper} {a : Act} {Q : Exit → Act → World → Prop} (hU : BX w g cs) (ds : Array Value) (hs : cs.size = 2) (hs2 : ds.size = 2) (h1 : ds.all (·.oneCell') = true) (x y : Operand) (ho : o.op = .store 82 x y) (hgd : o.guard = none)
  (hx : a.eval x = .pointer (some ⟨g, 0, none⟩)) (hy : a.eval y = .agg ds)
  (hh : wpList Tryz.prog ops Q rest (a.put o.dst undef) (w.setRow g ds)) : wpList Tryz.prog ops Q (o :: rest) a w :=
 wpList_store_row hgd 82 x y ho g ds hx hy 82 cs hU (by rw [hs2]; kernel_rfl) (by rw [hs, hs2]) h1 hh
theorem resx {w : World} {g : Nat} {cs : Array Value} {fn : Func} {a : Tmp} (h : fn.results = #[.cell a 82]) (hU : BX w g cs) (hs : cs.size = 2) (tmps : Array Value) (h2 : tmps.getD a undef = .pointer (some ⟨g, 0, none⟩)) :
  (results fn tmps).run Tryz.prog w = .ok (.agg cs) w :=
 results_cell_row h tmps w g _ cs (0, 0) _ h2 hU Tryz.underlying82 rfl (by rw [hs]; kernel_rfl)
set_option maxRecDepth 100000 in
set_option maxHeartbeats 8000000 in
theorem refSlice_any (L : List UInt8) (K0 : ByteArray) (vf vt : Value) (of ot : Option Int) (s : ByteArray) (w : World) (hn : L.length ≤ 1073741824) (hf : Ptr w vf of) (ht : Ptr w vt ot) (hs : s.size ≤ 1073741824) :
  Calls Tryz.prog 29 #[BV L K0, vf, vt, .string s] w fun e w' => e = .returned (BV ((L.drop (pl of 0 L.length)).take (max (pl of 0 L.length) (pl ot L.length L.length) - pl of 0 L.length)) (strOf (kd s.data.toList))) ∧ Below w.heap.size w w' := by
 obtain ⟨n, hnl⟩ : ∃ n, n = L.length := ⟨_, rfl⟩
 rw [← hnl] at hn ⊢
 have hst := pl_le of 0 n (Nat.zero_le _)
 have hen := pl_le ot n n (Nat.le_refl _)
 obtain ⟨st, hst2⟩ : ∃ st, pl of 0 n = st := ⟨_, rfl⟩
 obtain ⟨en, hen2⟩ : ∃ en, pl ot n n = en := ⟨_, rfl⟩
 obtain ⟨mx, hmx⟩ : ∃ mx, max st en = mx := ⟨_, rfl⟩
 rw [hst2] at hst
 rw [hen2] at hen
 rw [hst2, hen2, hmx]
 have HST := hid hst2
 have HEN := hid hen2
 have hmxn : mx ≤ n := by omega
 have hsm : st ≤ mx := by omega
 have HSM : Hid (st ≤ mx) := hsm
 have HMN : Hid (mx ≤ n) := hmxn
 have HCS : Hid ((¬ (en : Int) < (st : Int) ∧ en = mx) ∨ ((en : Int) < (st : Int) ∧ st = mx)) := by show _ ∨ _; omega
 have hsz : (strOf L).size = n := by rw [size_strOf]; exact hnl.symm
 have HSZ := hid hsz
 obtain ⟨X, hX⟩ : ∃ X, X = strOf L := ⟨_, rfl⟩
 have HXS : Hid (X.size = n) := by rw [hX]; exact hsz
 obtain ⟨Y, hY⟩ : ∃ Y, Y = strOf ((L.drop st).take (mx - st)) := ⟨_, rfl⟩
 have HXY : Hid (X.extract st mx = Y) := by show _ = _; rw [hX, hY]; exact str_part L st mx hsm (by omega)
 show Calls Tryz.prog _ #[.agg #[.string (strOf L), .string K0], vf, vt, .string s] w fun e w' => e = .returned (.agg #[.string (strOf ((L.drop st).take (mx - st))), .string (strOf (kd s.data.toList))]) ∧ Below w.heap.size w w'
 rw [← hX, ← hY]
 have HF0 := hid hf
 have HT0 := hid ht
 have HS := hid hs
 have HNN := hid hn
 have hni : (n : Int) ≤ 1073741824 := by omega
 clear hst2 hen2 hmx hX hY hnl hsz hf ht hs hsm hmxn hst hen
 go_enter Tryz.func29, Tryz.ntmps29
 go_upto_region 1 with (fail)
 generalize hwa : World.alloc (World.alloc w _) _ = v1
 have h1_ : BX v1 w.heap.size #[.string X, .string K0] ∧ BX v1 (w.heap.size + 1) #[.string ⟨#[]⟩, .string ⟨#[]⟩] ∧ Below w.heap.size w v1 := by
  subst hwa
  exact laid2 w _ _ _ _
 clear hwa
 have XI1 := hid h1_.1
 have XR1 := hid h1_.2.1
 have HB1 := hid h1_.2.2
 clear h1_
 have HF1 := hid (HF0.out.below HB1.out)
 have HT1 := hid (HT0.out.below HB1.out)
 have c0 : v1.cell? ⟨w.heap.size, 0, none⟩ = some (.string X) := (cell_of_row v1 _ 0 _ _ _ XI1.out).trans rfl
 clear HF0 HT0
 have hxs := HXS.out
 rcases HF1.out with ⟨rfl, rfl⟩ | ⟨b1, z1, rfl, p2, p3, p4, p5, rfl⟩
 ·obtain rfl : st = 0 := HST.out.symm
  rcases HT1.out with ⟨rfl, rfl⟩ | ⟨b2, z2, rfl, r2, r3, r4, r5, rfl⟩
  ·obtain rfl : n = en := HEN.out
   rcases HCS.out with ⟨hc, hm⟩ | ⟨hc, hm⟩
   ·obtain rfl : mx = _ := hm.symm
    go_upto_region 9 with (fail)
    generalize decide ((mx : Int) < 0) = dq
    generalize decide (mx < 0) = dq2
    clear hc
    refine wp_region_rel_tail (by kernel_rfl) 8 [is (.pointer (some ⟨w.heap.size, 0, none⟩)), is (.string X), is (.int .i64 0), is (.int .i64 (mx : Int)), is (.string Y), is (.string s), is (.string (strOf (kd s.data.toList))), is (.agg #[.string Y, .string (strOf (kd s.data.toList))])] [[], [0], [], [], [0, 1, 2, 3], [], [5], [0, 1, 2, 3, 4, 5, 6], [0, 1, 2, 3, 4, 5, 6, 7]] (by kernel_rfl) ?_ ?_
    ·refine ⟨?_, ?_, ?_, ?_, ?_, ?_, ?_, ?_, trivial⟩
     ·intro t wq hbq hh K hK
      clear hh
      simp only [filled, filledN, upd, Have, is, any, row, pick, Act.put, List.setIfInBounds_toArray, List.set_cons_zero, List.set_cons_succ, Nat.reduceAdd, Nat.reduceEqDiff, reduceIte] at hK ⊢
      go_simp
      exact hK _ _ (Below.refl _ _) rfl
     ·intro t wq hbq hh K hK
      have e0 := hh.1
      simp only [pick] at e0
      replace e0 : t 0 = (.pointer (some ⟨w.heap.size, 0, none⟩)) := e0
      clear hh
      simp only [filled, filledN, upd, Have, is, any, row, pick, Act.put, List.setIfInBounds_toArray, List.set_cons_zero, List.set_cons_succ, Nat.reduceAdd, Nat.reduceEqDiff, reduceIte] at hK ⊢
      simp only [e0] at hK ⊢
      have hq : wq.cell? ⟨w.heap.size, 0, none⟩ = some (.string X) := (cell_of_row wq _ 0 _ _ _ (XI1.out.below hbq)).trans rfl
      go_simp
      exact hK _ _ (Below.refl _ _) rfl
     ·intro t wq hbq hh K hK
      clear hh
      simp only [filled, filledN, upd, Have, is, any, row, pick, Act.put, List.setIfInBounds_toArray, List.set_cons_zero, List.set_cons_succ, Nat.reduceAdd, Nat.reduceEqDiff, reduceIte] at hK ⊢
      go_simp
      exact hK _ _ (Below.refl _ _) rfl
     ·intro t wq hbq hh K hK
      clear hh
      simp only [filled, filledN, upd, Have, is, any, row, pick, Act.put, List.setIfInBounds_toArray, List.set_cons_zero, List.set_cons_succ, Nat.reduceAdd, Nat.reduceEqDiff, reduceIte] at hK ⊢
      go_simp
      exact hK _ _ (Below.refl _ _) rfl
     ·intro t wq hbq hh K hK
      have e1 := hh.2.1
      simp only [pick] at e1
      replace e1 : t 1 = (.string X) := e1
      have e2 := hh.2.2.1
      simp only [pick] at e2
      replace e2 : t 2 = (.int .i64 0) := e2
      have e3 := hh.2.2.2.1
      simp only [pick] at e3
      replace e3 : t 3 = (.int .i64 (mx : Int)) := e3
      clear hh
      simp only [filled, filledN, upd, Have, is, any, row, pick, Act.put, List.setIfInBounds_toArray, List.set_cons_zero, List.set_cons_succ, Nat.reduceAdd, Nat.reduceEqDiff, reduceIte] at hK ⊢
      simp only [e1, e2, e3] at hK ⊢
      have hxs := HXS.out
      have hsm := HSM.out
      have hmn := HMN.out
      have q1 : mx ≤ X.size := by omega
      have q2 : (mx : Int) ≤ (X.size : Int) := by omega
      have q3 : (0 : Int) ≤ (mx : Int) := by omega
      have hxy := HXY.out
      go_simp
      exact hK _ _ (Below.refl _ _) rfl
     ·intro t wq hbq hh K hK
      clear hh
      simp only [filled, filledN, upd, Have, is, any, row, pick, Act.put, List.setIfInBounds_toArray, List.set_cons_zero, List.set_cons_succ, Nat.reduceAdd, Nat.reduceEqDiff, reduceIte] at hK ⊢
      go_simp
      exact hK _ _ (Below.refl _ _) rfl
     ·intro t wq hbq hh K hK
      have e5 := hh.1
      simp only [pick] at e5
      replace e5 : t 5 = (.string s) := e5
      clear hh
      simp only [filled, filledN, upd, Have, is, any, row, pick, Act.put, List.setIfInBounds_toArray, List.set_cons_zero, List.set_cons_succ, Nat.reduceAdd, Nat.reduceEqDiff, reduceIte] at hK ⊢
      simp only [e5] at hK ⊢
      go_simp
      refine (refKind_any s _ HS.out).mono ?_
      rintro e w9 ⟨rfl, hb9⟩
      exact hK _ _ hb9 rfl
     ·intro t wq hbq hh K hK
      have e4 := hh.2.2.2.2.1
      simp only [pick] at e4
      replace e4 : t 4 = (.string Y) := e4
      have e6 := hh.2.2.2.2.2.2.1
      simp only [pick] at e6
      replace e6 : t 6 = (.string (strOf (kd s.data.toList))) := e6
      clear hh
      simp only [filled, filledN, upd, Have, is, any, row, pick, Act.put, List.setIfInBounds_toArray, List.set_cons_zero, List.set_cons_succ, Nat.reduceAdd, Nat.reduceEqDiff, reduceIte] at hK ⊢
      simp only [e4, e6] at hK ⊢
      go_simp
      exact hK _ _ (Below.refl _ _) rfl
    ·intro t wq hbq hh
     have f7 := have_get hh 7 (by decide)
     simp only [pick] at f7
     replace f7 : t 7 = (.agg #[.string Y, .string (strOf (kd s.data.toList))]) := f7
     clear hh
     simp only [filled, filledN, upd, Have, is, any, row, pick, Act.put, List.setIfInBounds_toArray, List.set_cons_zero, List.set_cons_succ, Nat.reduceAdd, Nat.reduceEqDiff, reduceIte]
     simp only [f7]
     have HBq := hid (bel HB1.out hbq)
     have XRq := hid (XR1.out.below hbq)
     clear hbq
     refine store_bx XRq.out #[.string Y, .string (strOf (kd s.data.toList))] rfl rfl (by simp [Value.oneCell']) (.tmp 8) (.tmp 41) rfl rfl rfl rfl ?_
     go_wp2
     try simp only [Exit.inBlock, Exit.then]
     exact bodyPost_ret (w := World.setRow wq (w.heap.size + 1) #[.string Y, .string (strOf (kd s.data.toList))]) (resx rfl (XRq.out.row _) rfl _ rfl) rfl ⟨rfl, below_setRow HBq.out (Nat.le_succ _) _⟩
   ·exact absurd hc (by omega)
  ·skip
   go_wp2_with fail
   refine (refPlace_any z2 n _ HNN.out r4 r5).mono ?_
   rintro e w2 ⟨rfl, hb⟩
   have HB2 := hid (bel HB1.out hb)
   have XI2 := hid (XI1.out.below hb)
   have XR2 := hid (XR1.out.below hb)
   clear hb
   rw [show plc z2 n = en from HEN.out]
   clear r2 r3
   rcases HCS.out with ⟨hc, hm⟩ | ⟨hc, hm⟩
   ·obtain rfl : mx = _ := hm.symm
    go_upto_region 9 with (fail)
    generalize decide ((mx : Int) < 0) = dq
    generalize decide (mx < 0) = dq2
    clear hc
    refine wp_region_rel_tail (by kernel_rfl) 8 [is (.pointer (some ⟨w.heap.size, 0, none⟩)), is (.string X), is (.int .i64 0), is (.int .i64 (mx : Int)), is (.string Y), is (.string s), is (.string (strOf (kd s.data.toList))), is (.agg #[.string Y, .string (strOf (kd s.data.toList))])] [[], [0], [], [], [0, 1, 2, 3], [], [5], [0, 1, 2, 3, 4, 5, 6], [0, 1, 2, 3, 4, 5, 6, 7]] (by kernel_rfl) ?_ ?_
    ·refine ⟨?_, ?_, ?_, ?_, ?_, ?_, ?_, ?_, trivial⟩
     ·intro t wq hbq hh K hK
      clear hh
      simp only [filled, filledN, upd, Have, is, any, row, pick, Act.put, List.setIfInBounds_toArray, List.set_cons_zero, List.set_cons_succ, Nat.reduceAdd, Nat.reduceEqDiff, reduceIte] at hK ⊢
      go_simp
      exact hK _ _ (Below.refl _ _) rfl
     ·intro t wq hbq hh K hK
      have e0 := hh.1
      simp only [pick] at e0
      replace e0 : t 0 = (.pointer (some ⟨w.heap.size, 0, none⟩)) := e0
      clear hh
      simp only [filled, filledN, upd, Have, is, any, row, pick, Act.put, List.setIfInBounds_toArray, List.set_cons_zero, List.set_cons_succ, Nat.reduceAdd, Nat.reduceEqDiff, reduceIte] at hK ⊢
      simp only [e0] at hK ⊢
      have hq : wq.cell? ⟨w.heap.size, 0, none⟩ = some (.string X) := (cell_of_row wq _ 0 _ _ _ (XI2.out.below hbq)).trans rfl
      go_simp
      exact hK _ _ (Below.refl _ _) rfl
     ·intro t wq hbq hh K hK
      clear hh
      simp only [filled, filledN, upd, Have, is, any, row, pick, Act.put, List.setIfInBounds_toArray, List.set_cons_zero, List.set_cons_succ, Nat.reduceAdd, Nat.reduceEqDiff, reduceIte] at hK ⊢
      go_simp
      exact hK _ _ (Below.refl _ _) rfl
     ·intro t wq hbq hh K hK
      clear hh
      simp only [filled, filledN, upd, Have, is, any, row, pick, Act.put, List.setIfInBounds_toArray, List.set_cons_zero, List.set_cons_succ, Nat.reduceAdd, Nat.reduceEqDiff, reduceIte] at hK ⊢
      go_simp
      exact hK _ _ (Below.refl _ _) rfl
     ·intro t wq hbq hh K hK
      have e1 := hh.2.1
      simp only [pick] at e1
      replace e1 : t 1 = (.string X) := e1
      have e2 := hh.2.2.1
      simp only [pick] at e2
      replace e2 : t 2 = (.int .i64 0) := e2
      have e3 := hh.2.2.2.1
      simp only [pick] at e3
      replace e3 : t 3 = (.int .i64 (mx : Int)) := e3
      clear hh
      simp only [filled, filledN, upd, Have, is, any, row, pick, Act.put, List.setIfInBounds_toArray, List.set_cons_zero, List.set_cons_succ, Nat.reduceAdd, Nat.reduceEqDiff, reduceIte] at hK ⊢
      simp only [e1, e2, e3] at hK ⊢
      have hxs := HXS.out
      have hsm := HSM.out
      have hmn := HMN.out
      have q1 : mx ≤ X.size := by omega
      have q2 : (mx : Int) ≤ (X.size : Int) := by omega
      have q3 : (0 : Int) ≤ (mx : Int) := by omega
      have hxy := HXY.out
      go_simp
      exact hK _ _ (Below.refl _ _) rfl
     ·intro t wq hbq hh K hK
      clear hh
      simp only [filled, filledN, upd, Have, is, any, row, pick, Act.put, List.setIfInBounds_toArray, List.set_cons_zero, List.set_cons_succ, Nat.reduceAdd, Nat.reduceEqDiff, reduceIte] at hK ⊢
      go_simp
      exact hK _ _ (Below.refl _ _) rfl
     ·intro t wq hbq hh K hK
      have e5 := hh.1
      simp only [pick] at e5
      replace e5 : t 5 = (.string s) := e5
      clear hh
      simp only [filled, filledN, upd, Have, is, any, row, pick, Act.put, List.setIfInBounds_toArray, List.set_cons_zero, List.set_cons_succ, Nat.reduceAdd, Nat.reduceEqDiff, reduceIte] at hK ⊢
      simp only [e5] at hK ⊢
      go_simp
      refine (refKind_any s _ HS.out).mono ?_
      rintro e w9 ⟨rfl, hb9⟩
      exact hK _ _ hb9 rfl
     ·intro t wq hbq hh K hK
      have e4 := hh.2.2.2.2.1
      simp only [pick] at e4
      replace e4 : t 4 = (.string Y) := e4
      have e6 := hh.2.2.2.2.2.2.1
      simp only [pick] at e6
      replace e6 : t 6 = (.string (strOf (kd s.data.toList))) := e6
      clear hh
      simp only [filled, filledN, upd, Have, is, any, row, pick, Act.put, List.setIfInBounds_toArray, List.set_cons_zero, List.set_cons_succ, Nat.reduceAdd, Nat.reduceEqDiff, reduceIte] at hK ⊢
      simp only [e4, e6] at hK ⊢
      go_simp
      exact hK _ _ (Below.refl _ _) rfl
    ·intro t wq hbq hh
     have f7 := have_get hh 7 (by decide)
     simp only [pick] at f7
     replace f7 : t 7 = (.agg #[.string Y, .string (strOf (kd s.data.toList))]) := f7
     clear hh
     simp only [filled, filledN, upd, Have, is, any, row, pick, Act.put, List.setIfInBounds_toArray, List.set_cons_zero, List.set_cons_succ, Nat.reduceAdd, Nat.reduceEqDiff, reduceIte]
     simp only [f7]
     have HBq := hid (bel HB2.out hbq)
     have XRq := hid (XR2.out.below hbq)
     clear hbq
     refine store_bx XRq.out #[.string Y, .string (strOf (kd s.data.toList))] rfl rfl (by simp [Value.oneCell']) (.tmp 8) (.tmp 41) rfl rfl rfl rfl ?_
     go_wp2
     try simp only [Exit.inBlock, Exit.then]
     exact bodyPost_ret (w := World.setRow wq (w.heap.size + 1) #[.string Y, .string (strOf (kd s.data.toList))]) (resx rfl (XRq.out.row _) rfl _ rfl) rfl ⟨rfl, below_setRow HBq.out (Nat.le_succ _) _⟩
   ·exact absurd hc (by omega)
 ·skip
  go_wp2_with fail
  refine (refPlace_any z1 n _ HNN.out p4 p5).mono ?_
  rintro e w2 ⟨rfl, hb⟩
  have HB2 := hid (bel HB1.out hb)
  have XI2 := hid (XI1.out.below hb)
  have XR2 := hid (XR1.out.below hb)
  have HT2 := hid (HT1.out.below hb)
  clear hb
  rw [show plc z1 n = st from HST.out]
  clear p2 p3
  rcases HT2.out with ⟨rfl, rfl⟩ | ⟨b2, z2, rfl, r2, r3, r4, r5, rfl⟩
  ·obtain rfl : n = en := HEN.out
   rcases HCS.out with ⟨hc, hm⟩ | ⟨hc, hm⟩
   ·obtain rfl : mx = _ := hm.symm
    go_upto_region 9 with (fail)
    generalize decide ((mx : Int) < (st : Int)) = dq
    generalize decide (mx < st) = dq2
    clear hc
    refine wp_region_rel_tail (by kernel_rfl) 8 [is (.pointer (some ⟨w.heap.size, 0, none⟩)), is (.string X), is (.int .i64 (st : Int)), is (.int .i64 (mx : Int)), is (.string Y), is (.string s), is (.string (strOf (kd s.data.toList))), is (.agg #[.string Y, .string (strOf (kd s.data.toList))])] [[], [0], [], [], [0, 1, 2, 3], [], [5], [0, 1, 2, 3, 4, 5, 6], [0, 1, 2, 3, 4, 5, 6, 7]] (by kernel_rfl) ?_ ?_
    ·refine ⟨?_, ?_, ?_, ?_, ?_, ?_, ?_, ?_, trivial⟩
     ·intro t wq hbq hh K hK
      clear hh
      simp only [filled, filledN, upd, Have, is, any, row, pick, Act.put, List.setIfInBounds_toArray, List.set_cons_zero, List.set_cons_succ, Nat.reduceAdd, Nat.reduceEqDiff, reduceIte] at hK ⊢
      go_simp
      exact hK _ _ (Below.refl _ _) rfl
     ·intro t wq hbq hh K hK
      have e0 := hh.1
      simp only [pick] at e0
      replace e0 : t 0 = (.pointer (some ⟨w.heap.size, 0, none⟩)) := e0
      clear hh
      simp only [filled, filledN, upd, Have, is, any, row, pick, Act.put, List.setIfInBounds_toArray, List.set_cons_zero, List.set_cons_succ, Nat.reduceAdd, Nat.reduceEqDiff, reduceIte] at hK ⊢
      simp only [e0] at hK ⊢
      have hq : wq.cell? ⟨w.heap.size, 0, none⟩ = some (.string X) := (cell_of_row wq _ 0 _ _ _ (XI2.out.below hbq)).trans rfl
      go_simp
      exact hK _ _ (Below.refl _ _) rfl
     ·intro t wq hbq hh K hK
      clear hh
      simp only [filled, filledN, upd, Have, is, any, row, pick, Act.put, List.setIfInBounds_toArray, List.set_cons_zero, List.set_cons_succ, Nat.reduceAdd, Nat.reduceEqDiff, reduceIte] at hK ⊢
      go_simp
      exact hK _ _ (Below.refl _ _) rfl
     ·intro t wq hbq hh K hK
      clear hh
      simp only [filled, filledN, upd, Have, is, any, row, pick, Act.put, List.setIfInBounds_toArray, List.set_cons_zero, List.set_cons_succ, Nat.reduceAdd, Nat.reduceEqDiff, reduceIte] at hK ⊢
      go_simp
      exact hK _ _ (Below.refl _ _) rfl
     ·intro t wq hbq hh K hK
      have e1 := hh.2.1
      simp only [pick] at e1
      replace e1 : t 1 = (.string X) := e1
      have e2 := hh.2.2.1
      simp only [pick] at e2
      replace e2 : t 2 = (.int .i64 (st : Int)) := e2
      have e3 := hh.2.2.2.1
      simp only [pick] at e3
      replace e3 : t 3 = (.int .i64 (mx : Int)) := e3
      clear hh
      simp only [filled, filledN, upd, Have, is, any, row, pick, Act.put, List.setIfInBounds_toArray, List.set_cons_zero, List.set_cons_succ, Nat.reduceAdd, Nat.reduceEqDiff, reduceIte] at hK ⊢
      simp only [e1, e2, e3] at hK ⊢
      have hxs := HXS.out
      have hsm := HSM.out
      have hmn := HMN.out
      have q1 : mx ≤ X.size := by omega
      have q2 : (mx : Int) ≤ (X.size : Int) := by omega
      have q3 : (st : Int) ≤ (mx : Int) := by omega
      have hxy := HXY.out
      go_simp
      exact hK _ _ (Below.refl _ _) rfl
     ·intro t wq hbq hh K hK
      clear hh
      simp only [filled, filledN, upd, Have, is, any, row, pick, Act.put, List.setIfInBounds_toArray, List.set_cons_zero, List.set_cons_succ, Nat.reduceAdd, Nat.reduceEqDiff, reduceIte] at hK ⊢
      go_simp
      exact hK _ _ (Below.refl _ _) rfl
     ·intro t wq hbq hh K hK
      have e5 := hh.1
      simp only [pick] at e5
      replace e5 : t 5 = (.string s) := e5
      clear hh
      simp only [filled, filledN, upd, Have, is, any, row, pick, Act.put, List.setIfInBounds_toArray, List.set_cons_zero, List.set_cons_succ, Nat.reduceAdd, Nat.reduceEqDiff, reduceIte] at hK ⊢
      simp only [e5] at hK ⊢
      go_simp
      refine (refKind_any s _ HS.out).mono ?_
      rintro e w9 ⟨rfl, hb9⟩
      exact hK _ _ hb9 rfl
     ·intro t wq hbq hh K hK
      have e4 := hh.2.2.2.2.1
      simp only [pick] at e4
      replace e4 : t 4 = (.string Y) := e4
      have e6 := hh.2.2.2.2.2.2.1
      simp only [pick] at e6
      replace e6 : t 6 = (.string (strOf (kd s.data.toList))) := e6
      clear hh
      simp only [filled, filledN, upd, Have, is, any, row, pick, Act.put, List.setIfInBounds_toArray, List.set_cons_zero, List.set_cons_succ, Nat.reduceAdd, Nat.reduceEqDiff, reduceIte] at hK ⊢
      simp only [e4, e6] at hK ⊢
      go_simp
      exact hK _ _ (Below.refl _ _) rfl
    ·intro t wq hbq hh
     have f7 := have_get hh 7 (by decide)
     simp only [pick] at f7
     replace f7 : t 7 = (.agg #[.string Y, .string (strOf (kd s.data.toList))]) := f7
     clear hh
     simp only [filled, filledN, upd, Have, is, any, row, pick, Act.put, List.setIfInBounds_toArray, List.set_cons_zero, List.set_cons_succ, Nat.reduceAdd, Nat.reduceEqDiff, reduceIte]
     simp only [f7]
     have HBq := hid (bel HB2.out hbq)
     have XRq := hid (XR2.out.below hbq)
     clear hbq
     refine store_bx XRq.out #[.string Y, .string (strOf (kd s.data.toList))] rfl rfl (by simp [Value.oneCell']) (.tmp 8) (.tmp 41) rfl rfl rfl rfl ?_
     go_wp2
     try simp only [Exit.inBlock, Exit.then]
     exact bodyPost_ret (w := World.setRow wq (w.heap.size + 1) #[.string Y, .string (strOf (kd s.data.toList))]) (resx rfl (XRq.out.row _) rfl _ rfl) rfl ⟨rfl, below_setRow HBq.out (Nat.le_succ _) _⟩
   ·obtain rfl : mx = st := hm.symm
    go_upto_region 9 with (fail)
    skip
    skip
    clear hc
    refine wp_region_rel_tail (by kernel_rfl) 8 [is (.pointer (some ⟨w.heap.size, 0, none⟩)), is (.string X), is (.int .i64 (mx : Int)), is (.int .i64 (mx : Int)), is (.string Y), is (.string s), is (.string (strOf (kd s.data.toList))), is (.agg #[.string Y, .string (strOf (kd s.data.toList))])] [[], [0], [], [], [0, 1, 2, 3], [], [5], [0, 1, 2, 3, 4, 5, 6], [0, 1, 2, 3, 4, 5, 6, 7]] (by kernel_rfl) ?_ ?_
    ·refine ⟨?_, ?_, ?_, ?_, ?_, ?_, ?_, ?_, trivial⟩
     ·intro t wq hbq hh K hK
      clear hh
      simp only [filled, filledN, upd, Have, is, any, row, pick, Act.put, List.setIfInBounds_toArray, List.set_cons_zero, List.set_cons_succ, Nat.reduceAdd, Nat.reduceEqDiff, reduceIte] at hK ⊢
      go_simp
      exact hK _ _ (Below.refl _ _) rfl
     ·intro t wq hbq hh K hK
      have e0 := hh.1
      simp only [pick] at e0
      replace e0 : t 0 = (.pointer (some ⟨w.heap.size, 0, none⟩)) := e0
      clear hh
      simp only [filled, filledN, upd, Have, is, any, row, pick, Act.put, List.setIfInBounds_toArray, List.set_cons_zero, List.set_cons_succ, Nat.reduceAdd, Nat.reduceEqDiff, reduceIte] at hK ⊢
      simp only [e0] at hK ⊢
      have hq : wq.cell? ⟨w.heap.size, 0, none⟩ = some (.string X) := (cell_of_row wq _ 0 _ _ _ (XI2.out.below hbq)).trans rfl
      go_simp
      exact hK _ _ (Below.refl _ _) rfl
     ·intro t wq hbq hh K hK
      clear hh
      simp only [filled, filledN, upd, Have, is, any, row, pick, Act.put, List.setIfInBounds_toArray, List.set_cons_zero, List.set_cons_succ, Nat.reduceAdd, Nat.reduceEqDiff, reduceIte] at hK ⊢
      go_simp
      exact hK _ _ (Below.refl _ _) rfl
     ·intro t wq hbq hh K hK
      clear hh
      simp only [filled, filledN, upd, Have, is, any, row, pick, Act.put, List.setIfInBounds_toArray, List.set_cons_zero, List.set_cons_succ, Nat.reduceAdd, Nat.reduceEqDiff, reduceIte] at hK ⊢
      go_simp
      exact hK _ _ (Below.refl _ _) rfl
     ·intro t wq hbq hh K hK
      have e1 := hh.2.1
      simp only [pick] at e1
      replace e1 : t 1 = (.string X) := e1
      have e2 := hh.2.2.1
      simp only [pick] at e2
      replace e2 : t 2 = (.int .i64 (mx : Int)) := e2
      have e3 := hh.2.2.2.1
      simp only [pick] at e3
      replace e3 : t 3 = (.int .i64 (mx : Int)) := e3
      clear hh
      simp only [filled, filledN, upd, Have, is, any, row, pick, Act.put, List.setIfInBounds_toArray, List.set_cons_zero, List.set_cons_succ, Nat.reduceAdd, Nat.reduceEqDiff, reduceIte] at hK ⊢
      simp only [e1, e2, e3] at hK ⊢
      have hxs := HXS.out
      have hsm := HSM.out
      have hmn := HMN.out
      have q1 : mx ≤ X.size := by omega
      have q2 : (mx : Int) ≤ (X.size : Int) := by omega
      have q3 : (mx : Int) ≤ (mx : Int) := by omega
      have hxy := HXY.out
      go_simp
      exact hK _ _ (Below.refl _ _) (congrArg Value.string (by have h := HXY.out; simpa using h))
     ·intro t wq hbq hh K hK
      clear hh
      simp only [filled, filledN, upd, Have, is, any, row, pick, Act.put, List.setIfInBounds_toArray, List.set_cons_zero, List.set_cons_succ, Nat.reduceAdd, Nat.reduceEqDiff, reduceIte] at hK ⊢
      go_simp
      exact hK _ _ (Below.refl _ _) rfl
     ·intro t wq hbq hh K hK
      have e5 := hh.1
      simp only [pick] at e5
      replace e5 : t 5 = (.string s) := e5
      clear hh
      simp only [filled, filledN, upd, Have, is, any, row, pick, Act.put, List.setIfInBounds_toArray, List.set_cons_zero, List.set_cons_succ, Nat.reduceAdd, Nat.reduceEqDiff, reduceIte] at hK ⊢
      simp only [e5] at hK ⊢
      go_simp
      refine (refKind_any s _ HS.out).mono ?_
      rintro e w9 ⟨rfl, hb9⟩
      exact hK _ _ hb9 rfl
     ·intro t wq hbq hh K hK
      have e4 := hh.2.2.2.2.1
      simp only [pick] at e4
      replace e4 : t 4 = (.string Y) := e4
      have e6 := hh.2.2.2.2.2.2.1
      simp only [pick] at e6
      replace e6 : t 6 = (.string (strOf (kd s.data.toList))) := e6
      clear hh
      simp only [filled, filledN, upd, Have, is, any, row, pick, Act.put, List.setIfInBounds_toArray, List.set_cons_zero, List.set_cons_succ, Nat.reduceAdd, Nat.reduceEqDiff, reduceIte] at hK ⊢
      simp only [e4, e6] at hK ⊢
      go_simp
      exact hK _ _ (Below.refl _ _) rfl
    ·intro t wq hbq hh
     have f7 := have_get hh 7 (by decide)
     simp only [pick] at f7
     replace f7 : t 7 = (.agg #[.string Y, .string (strOf (kd s.data.toList))]) := f7
     clear hh
     simp only [filled, filledN, upd, Have, is, any, row, pick, Act.put, List.setIfInBounds_toArray, List.set_cons_zero, List.set_cons_succ, Nat.reduceAdd, Nat.reduceEqDiff, reduceIte]
     simp only [f7]
     have HBq := hid (bel HB2.out hbq)
     have XRq := hid (XR2.out.below hbq)
     clear hbq
     refine store_bx XRq.out #[.string Y, .string (strOf (kd s.data.toList))] rfl rfl (by simp [Value.oneCell']) (.tmp 8) (.tmp 41) rfl rfl rfl rfl ?_
     go_wp2
     try simp only [Exit.inBlock, Exit.then]
     exact bodyPost_ret (w := World.setRow wq (w.heap.size + 1) #[.string Y, .string (strOf (kd s.data.toList))]) (resx rfl (XRq.out.row _) rfl _ rfl) rfl ⟨rfl, below_setRow HBq.out (Nat.le_succ _) _⟩
  ·skip
   go_wp2_with fail
   refine (refPlace_any z2 n _ HNN.out r4 r5).mono ?_
   rintro e w3 ⟨rfl, hb⟩
   have HB3 := hid (bel HB2.out hb)
   have XI3 := hid (XI2.out.below hb)
   have XR3 := hid (XR2.out.below hb)
   clear hb
   rw [show plc z2 n = en from HEN.out]
   clear r2 r3
   rcases HCS.out with ⟨hc, hm⟩ | ⟨hc, hm⟩
   ·obtain rfl : mx = _ := hm.symm
    go_upto_region 9 with (fail)
    generalize decide ((mx : Int) < (st : Int)) = dq
    generalize decide (mx < st) = dq2
    clear hc
    refine wp_region_rel_tail (by kernel_rfl) 8 [is (.pointer (some ⟨w.heap.size, 0, none⟩)), is (.string X), is (.int .i64 (st : Int)), is (.int .i64 (mx : Int)), is (.string Y), is (.string s), is (.string (strOf (kd s.data.toList))), is (.agg #[.string Y, .string (strOf (kd s.data.toList))])] [[], [0], [], [], [0, 1, 2, 3], [], [5], [0, 1, 2, 3, 4, 5, 6], [0, 1, 2, 3, 4, 5, 6, 7]] (by kernel_rfl) ?_ ?_
    ·refine ⟨?_, ?_, ?_, ?_, ?_, ?_, ?_, ?_, trivial⟩
     ·intro t wq hbq hh K hK
      clear hh
      simp only [filled, filledN, upd, Have, is, any, row, pick, Act.put, List.setIfInBounds_toArray, List.set_cons_zero, List.set_cons_succ, Nat.reduceAdd, Nat.reduceEqDiff, reduceIte] at hK ⊢
      go_simp
      exact hK _ _ (Below.refl _ _) rfl
     ·intro t wq hbq hh K hK
      have e0 := hh.1
      simp only [pick] at e0
      replace e0 : t 0 = (.pointer (some ⟨w.heap.size, 0, none⟩)) := e0
      clear hh
      simp only [filled, filledN, upd, Have, is, any, row, pick, Act.put, List.setIfInBounds_toArray, List.set_cons_zero, List.set_cons_succ, Nat.reduceAdd, Nat.reduceEqDiff, reduceIte] at hK ⊢
      simp only [e0] at hK ⊢
      have hq : wq.cell? ⟨w.heap.size, 0, none⟩ = some (.string X) := (cell_of_row wq _ 0 _ _ _ (XI3.out.below hbq)).trans rfl
      go_simp
      exact hK _ _ (Below.refl _ _) rfl
     ·intro t wq hbq hh K hK
      clear hh
      simp only [filled, filledN, upd, Have, is, any, row, pick, Act.put, List.setIfInBounds_toArray, List.set_cons_zero, List.set_cons_succ, Nat.reduceAdd, Nat.reduceEqDiff, reduceIte] at hK ⊢
      go_simp
      exact hK _ _ (Below.refl _ _) rfl
     ·intro t wq hbq hh K hK
      clear hh
      simp only [filled, filledN, upd, Have, is, any, row, pick, Act.put, List.setIfInBounds_toArray, List.set_cons_zero, List.set_cons_succ, Nat.reduceAdd, Nat.reduceEqDiff, reduceIte] at hK ⊢
      go_simp
      exact hK _ _ (Below.refl _ _) rfl
     ·intro t wq hbq hh K hK
      have e1 := hh.2.1
      simp only [pick] at e1
      replace e1 : t 1 = (.string X) := e1
      have e2 := hh.2.2.1
      simp only [pick] at e2
      replace e2 : t 2 = (.int .i64 (st : Int)) := e2
      have e3 := hh.2.2.2.1
      simp only [pick] at e3
      replace e3 : t 3 = (.int .i64 (mx : Int)) := e3
      clear hh
      simp only [filled, filledN, upd, Have, is, any, row, pick, Act.put, List.setIfInBounds_toArray, List.set_cons_zero, List.set_cons_succ, Nat.reduceAdd, Nat.reduceEqDiff, reduceIte] at hK ⊢
      simp only [e1, e2, e3] at hK ⊢
      have hxs := HXS.out
      have hsm := HSM.out
      have hmn := HMN.out
      have q1 : mx ≤ X.size := by omega
      have q2 : (mx : Int) ≤ (X.size : Int) := by omega
      have q3 : (st : Int) ≤ (mx : Int) := by omega
      have hxy := HXY.out
      go_simp
      exact hK _ _ (Below.refl _ _) rfl
     ·intro t wq hbq hh K hK
      clear hh
      simp only [filled, filledN, upd, Have, is, any, row, pick, Act.put, List.setIfInBounds_toArray, List.set_cons_zero, List.set_cons_succ, Nat.reduceAdd, Nat.reduceEqDiff, reduceIte] at hK ⊢
      go_simp
      exact hK _ _ (Below.refl _ _) rfl
     ·intro t wq hbq hh K hK
      have e5 := hh.1
      simp only [pick] at e5
      replace e5 : t 5 = (.string s) := e5
      clear hh
      simp only [filled, filledN, upd, Have, is, any, row, pick, Act.put, List.setIfInBounds_toArray, List.set_cons_zero, List.set_cons_succ, Nat.reduceAdd, Nat.reduceEqDiff, reduceIte] at hK ⊢
      simp only [e5] at hK ⊢
      go_simp
      refine (refKind_any s _ HS.out).mono ?_
      rintro e w9 ⟨rfl, hb9⟩
      exact hK _ _ hb9 rfl
     ·intro t wq hbq hh K hK
      have e4 := hh.2.2.2.2.1
      simp only [pick] at e4
      replace e4 : t 4 = (.string Y) := e4
      have e6 := hh.2.2.2.2.2.2.1
      simp only [pick] at e6
      replace e6 : t 6 = (.string (strOf (kd s.data.toList))) := e6
      clear hh
      simp only [filled, filledN, upd, Have, is, any, row, pick, Act.put, List.setIfInBounds_toArray, List.set_cons_zero, List.set_cons_succ, Nat.reduceAdd, Nat.reduceEqDiff, reduceIte] at hK ⊢
      simp only [e4, e6] at hK ⊢
      go_simp
      exact hK _ _ (Below.refl _ _) rfl
    ·intro t wq hbq hh
     have f7 := have_get hh 7 (by decide)
     simp only [pick] at f7
     replace f7 : t 7 = (.agg #[.string Y, .string (strOf (kd s.data.toList))]) := f7
     clear hh
     simp only [filled, filledN, upd, Have, is, any, row, pick, Act.put, List.setIfInBounds_toArray, List.set_cons_zero, List.set_cons_succ, Nat.reduceAdd, Nat.reduceEqDiff, reduceIte]
     simp only [f7]
     have HBq := hid (bel HB3.out hbq)
     have XRq := hid (XR3.out.below hbq)
     clear hbq
     refine store_bx XRq.out #[.string Y, .string (strOf (kd s.data.toList))] rfl rfl (by simp [Value.oneCell']) (.tmp 8) (.tmp 41) rfl rfl rfl rfl ?_
     go_wp2
     try simp only [Exit.inBlock, Exit.then]
     exact bodyPost_ret (w := World.setRow wq (w.heap.size + 1) #[.string Y, .string (strOf (kd s.data.toList))]) (resx rfl (XRq.out.row _) rfl _ rfl) rfl ⟨rfl, below_setRow HBq.out (Nat.le_succ _) _⟩
   ·obtain rfl : mx = st := hm.symm
    go_upto_region 9 with (fail)
    skip
    skip
    clear hc
    refine wp_region_rel_tail (by kernel_rfl) 8 [is (.pointer (some ⟨w.heap.size, 0, none⟩)), is (.string X), is (.int .i64 (mx : Int)), is (.int .i64 (mx : Int)), is (.string Y), is (.string s), is (.string (strOf (kd s.data.toList))), is (.agg #[.string Y, .string (strOf (kd s.data.toList))])] [[], [0], [], [], [0, 1, 2, 3], [], [5], [0, 1, 2, 3, 4, 5, 6], [0, 1, 2, 3, 4, 5, 6, 7]] (by kernel_rfl) ?_ ?_
    ·refine ⟨?_, ?_, ?_, ?_, ?_, ?_, ?_, ?_, trivial⟩
     ·intro t wq hbq hh K hK
      clear hh
      simp only [filled, filledN, upd, Have, is, any, row, pick, Act.put, List.setIfInBounds_toArray, List.set_cons_zero, List.set_cons_succ, Nat.reduceAdd, Nat.reduceEqDiff, reduceIte] at hK ⊢
      go_simp
      exact hK _ _ (Below.refl _ _) rfl
     ·intro t wq hbq hh K hK
      have e0 := hh.1
      simp only [pick] at e0
      replace e0 : t 0 = (.pointer (some ⟨w.heap.size, 0, none⟩)) := e0
      clear hh
      simp only [filled, filledN, upd, Have, is, any, row, pick, Act.put, List.setIfInBounds_toArray, List.set_cons_zero, List.set_cons_succ, Nat.reduceAdd, Nat.reduceEqDiff, reduceIte] at hK ⊢
      simp only [e0] at hK ⊢
      have hq : wq.cell? ⟨w.heap.size, 0, none⟩ = some (.string X) := (cell_of_row wq _ 0 _ _ _ (XI3.out.below hbq)).trans rfl
      go_simp
      exact hK _ _ (Below.refl _ _) rfl
     ·intro t wq hbq hh K hK
      clear hh
      simp only [filled, filledN, upd, Have, is, any, row, pick, Act.put, List.setIfInBounds_toArray, List.set_cons_zero, List.set_cons_succ, Nat.reduceAdd, Nat.reduceEqDiff, reduceIte] at hK ⊢
      go_simp
      exact hK _ _ (Below.refl _ _) rfl
     ·intro t wq hbq hh K hK
      clear hh
      simp only [filled, filledN, upd, Have, is, any, row, pick, Act.put, List.setIfInBounds_toArray, List.set_cons_zero, List.set_cons_succ, Nat.reduceAdd, Nat.reduceEqDiff, reduceIte] at hK ⊢
      go_simp
      exact hK _ _ (Below.refl _ _) rfl
     ·intro t wq hbq hh K hK
      have e1 := hh.2.1
      simp only [pick] at e1
      replace e1 : t 1 = (.string X) := e1
      have e2 := hh.2.2.1
      simp only [pick] at e2
      replace e2 : t 2 = (.int .i64 (mx : Int)) := e2
      have e3 := hh.2.2.2.1
      simp only [pick] at e3
      replace e3 : t 3 = (.int .i64 (mx : Int)) := e3
      clear hh
      simp only [filled, filledN, upd, Have, is, any, row, pick, Act.put, List.setIfInBounds_toArray, List.set_cons_zero, List.set_cons_succ, Nat.reduceAdd, Nat.reduceEqDiff, reduceIte] at hK ⊢
      simp only [e1, e2, e3] at hK ⊢
      have hxs := HXS.out
      have hsm := HSM.out
      have hmn := HMN.out
      have q1 : mx ≤ X.size := by omega
      have q2 : (mx : Int) ≤ (X.size : Int) := by omega
      have q3 : (mx : Int) ≤ (mx : Int) := by omega
      have hxy := HXY.out
      go_simp
      exact hK _ _ (Below.refl _ _) (congrArg Value.string (by have h := HXY.out; simpa using h))
     ·intro t wq hbq hh K hK
      clear hh
      simp only [filled, filledN, upd, Have, is, any, row, pick, Act.put, List.setIfInBounds_toArray, List.set_cons_zero, List.set_cons_succ, Nat.reduceAdd, Nat.reduceEqDiff, reduceIte] at hK ⊢
      go_simp
      exact hK _ _ (Below.refl _ _) rfl
     ·intro t wq hbq hh K hK
      have e5 := hh.1
      simp only [pick] at e5
      replace e5 : t 5 = (.string s) := e5
      clear hh
      simp only [filled, filledN, upd, Have, is, any, row, pick, Act.put, List.setIfInBounds_toArray, List.set_cons_zero, List.set_cons_succ, Nat.reduceAdd, Nat.reduceEqDiff, reduceIte] at hK ⊢
      simp only [e5] at hK ⊢
      go_simp
      refine (refKind_any s _ HS.out).mono ?_
      rintro e w9 ⟨rfl, hb9⟩
      exact hK _ _ hb9 rfl
     ·intro t wq hbq hh K hK
      have e4 := hh.2.2.2.2.1
      simp only [pick] at e4
      replace e4 : t 4 = (.string Y) := e4
      have e6 := hh.2.2.2.2.2.2.1
      simp only [pick] at e6
      replace e6 : t 6 = (.string (strOf (kd s.data.toList))) := e6
      clear hh
      simp only [filled, filledN, upd, Have, is, any, row, pick, Act.put, List.setIfInBounds_toArray, List.set_cons_zero, List.set_cons_succ, Nat.reduceAdd, Nat.reduceEqDiff, reduceIte] at hK ⊢
      simp only [e4, e6] at hK ⊢
      go_simp
      exact hK _ _ (Below.refl _ _) rfl
    ·intro t wq hbq hh
     have f7 := have_get hh 7 (by decide)
     simp only [pick] at f7
     replace f7 : t 7 = (.agg #[.string Y, .string (strOf (kd s.data.toList))]) := f7
     clear hh
     simp only [filled, filledN, upd, Have, is, any, row, pick, Act.put, List.setIfInBounds_toArray, List.set_cons_zero, List.set_cons_succ, Nat.reduceAdd, Nat.reduceEqDiff, reduceIte]
     simp only [f7]
     have HBq := hid (bel HB3.out hbq)
     have XRq := hid (XR3.out.below hbq)
     clear hbq
     refine store_bx XRq.out #[.string Y, .string (strOf (kd s.data.toList))] rfl rfl (by simp [Value.oneCell']) (.tmp 8) (.tmp 41) rfl rfl rfl rfl ?_
     go_wp2
     try simp only [Exit.inBlock, Exit.then]
     exact bodyPost_ret (w := World.setRow wq (w.heap.size + 1) #[.string Y, .string (strOf (kd s.data.toList))]) (resx rfl (XRq.out.row _) rfl _ rfl) rfl ⟨rfl, below_setRow HBq.out (Nat.le_succ _) _⟩
end Go.Proofs.YtegpfgccaminkaaGreatDoor.BlobR
namespace Go.Proofs.YtegpfgccaminkaaGreatDoor.SpnY
open Go.RowKit Base Base2 UtfA SpnP SpnA
theorem sp_has (c : UInt8) : sp.contains c = decide ((c.toNat : Int) = 32 ∨ (c.toNat : Int) = 9) := by
 have H : ∀ n : Fin 256, sp.contains (UInt8.ofNat n.val) = decide (((UInt8.ofNat n.val).toNat : Int) = 32 ∨ ((UInt8.ofNat n.val).toNat : Int) = 9) := by decide +kernel
 have := H ⟨c.toNat, c.toNat_lt⟩
 simpa using this
theorem dd (u : Nat) : Lib.decDigits u = if u < 10 then [UInt8.ofNat (48 + u)] else Lib.decDigits (u / 10) ++ [UInt8.ofNat (48 + u % 10)] := by
 rw [Lib.decDigits]
 split <;> rfl
theorem of_nat (d : Nat) (h : d < 10) : ((UInt8.ofNat (48 + d)).toNat : Int) = 48 + (d : Int) := by simp; omega
theorem is_digit (d : Nat) (h : d < 10) : digit ((UInt8.ofNat (48 + d)).toNat : Int) = true := by
 rw [of_nat d h]
 unfold digit
 rw [decide_eq_true_iff]
 omega
theorem num_dec : ∀ (k u : Nat), u < k → u ≤ 4611686018427387904 → ∀ t, num 0 (Lib.decDigits u ++ t) = num (u : Int) t
 | 0, _, h, _, _ => absurd h (by omega)
 | k + 1, u, h, hm, t => by
  rw [dd]
  by_cases h10 : u < 10
  ·rw [if_pos h10, List.singleton_append, num, if_pos (is_digit u h10)]
   congr 1
   unfold nstep
   rw [of_nat u h10, if_neg (by omega), if_neg (by omega)]
   omega
  ·rw [if_neg h10, List.append_assoc, num_dec k (u / 10) (by omega) (by omega), List.singleton_append, num, if_pos (is_digit (u % 10) (by omega))]
   congr 1
   unfold nstep
   rw [of_nat (u % 10) (by omega), if_neg (by omega), if_neg (by omega)]
   omega
theorem dd_head (u : Nat) : ∃ c t, Lib.decDigits u = c :: t ∧ digit c.toNat = true := by
 have H : ∀ k u : Nat, u < k → ∃ c t, Lib.decDigits u = c :: t ∧ digit c.toNat = true := by
  intro k
  induction k with
  | zero => intro u h; omega
  | succ k ih =>
   intro u h
   rw [dd]
   split
   ·rename_i h10
    exact ⟨_, [], rfl, is_digit u h10⟩
   ·obtain ⟨c, t, e, hc⟩ := ih (u / 10) (by omega)
    exact ⟨c, t ++ [UInt8.ofNat (48 + u % 10)], by rw [e]; rfl, hc⟩
 exact H (u + 1) u (by omega)
def dg (h : Bool) (n : Nat) : List UInt8 := if h = true then Lib.decDigits n else []
def prt (F T : Nat) (hf ht : Bool) : List UInt8 := [98, 121, 116, 101, 115, 61] ++ dg hf F ++ [45] ++ dg ht T
theorem num_stop' (z : Int) (t : List UInt8) : num z (45 :: t) = (z, 45 :: t) := by rw [num, if_neg (by decide)]
theorem pass_dig (c : UInt8) (t : List UInt8) (h : digit c.toNat = true) : pass (c :: t) = c :: t := by
 obtain ⟨h1, h2⟩ := digit_range c h
 rw [pass_cons, if_neg]
 rw [sp_has]
 simp
 omega
theorem pass_dg (h : Bool) (n : Nat) (t : List UInt8) (ht : pass t = t) : pass (dg h n ++ t) = dg h n ++ t := by
 unfold dg
 split
 ·obtain ⟨c, u, e, hc⟩ := dd_head n
  rw [e]
  exact pass_dig c _ hc
 ·exact ht
theorem num_dg (h : Bool) (n : Nat) (hn : n ≤ 4611686018427387904) (t : List UInt8) (h0 : h = false → n = 0) : num 0 (dg h n ++ t) = num (n : Int) t := by
 unfold dg
 split
 ·exact num_dec (n + 1) n (by omega) hn t
 ·rename_i h'
  rw [h0 (by simpa using h')]
  rfl
theorem has_dg (h : Bool) (n : Nat) (t : List UInt8) (e : (num 0 (dg h n ++ t)).2 = t) : hasNum (dg h n ++ t) = h := by
 unfold hasNum
 rw [e]
 unfold dg
 cases h
 ·simp
 ·obtain ⟨c, u, e', _⟩ := dd_head n
  simp [e']
  omega
theorem says_prt (F T : Nat) (hf ht : Bool) (hF : F ≤ 4611686018427387904) (hT : T ≤ 4611686018427387904) (h0 : hf = false → F = 0) (h1 : ht = false → T = 0) (h2 : hf = true ∨ ht = true) (h3 : hf = true → ht = true → F ≤ T) :
  says (prt F T hf ht) = ((F : Int), (T : Int), hf, ht, true) := by
 have p45 : ∀ t, pass (45 :: t) = 45 :: t := fun t => by rw [pass_cons, if_neg (by decide)]
 have e0 : pass ((prt F T hf ht).drop 5) = 61 :: (dg hf F ++ (45 :: dg ht T)) := by
  have : (prt F T hf ht).drop 5 = 61 :: (dg hf F ++ (45 :: dg ht T)) := by simp [prt]
  rw [this, pass_cons, if_neg (by decide)]
 have ef : from_ (prt F T hf ht) = dg hf F ++ (45 :: dg ht T) := by
  unfold from_
  rw [e0, cut, if_pos rfl, pass_dg _ _ _ (p45 _)]
 have en : num 0 (from_ (prt F T hf ht)) = ((F : Int), 45 :: dg ht T) := by rw [ef, num_dg hf F hF _ h0, num_stop']
 have et : to_ (prt F T hf ht) = dg ht T := by
  unfold to_
  rw [en]
  show pass (cut 45 (pass (45 :: dg ht T))) = _
  rw [p45, cut, if_pos rfl]
  have := pass_dg ht T [] rfl
  simpa using this
 have em : num 0 (to_ (prt F T hf ht)) = ((T : Int), []) := by
  have := num_dg ht T hT [] h1
  rw [List.append_nil] at this
  rw [et, this]
  rfl
 have hhf : hasNum (from_ (prt F T hf ht)) = hf := by
  rw [ef]
  refine has_dg _ _ _ ?_
  rw [← ef, en]
 have hht : hasNum (to_ (prt F T hf ht)) = ht := by
  have := has_dg ht T [] (by rw [List.append_nil, ← et, em])
  rw [List.append_nil] at this
  rw [et]
  exact this
 have hok : okB (prt F T hf ht) = true := by
  unfold okB
  rw [e0, en, em, hhf, hht]
  have q1 : decide (5 ≤ (prt F T hf ht).length) = true := by simp [prt] <;> omega
  have q2 : decide (UtfL.lower ((prt F T hf ht).take 5) = bytesL) = true := by simp [prt]; rfl
  have q3 : is 61 (61 :: (dg hf F ++ (45 :: dg ht T))) = true := rfl
  have q4 : is 45 (pass (45 :: dg ht T)) = true := by rw [p45]; rfl
  rw [q1, q2, q3]
  show (true && true && true && is 45 (pass (45 :: dg ht T)) && _ && _ && _) = true
  rw [q4]
  simp
  refine ⟨h2, ?_⟩
  cases hf <;> cases ht <;> simp_all
 unfold says
 rw [if_pos hok, en, em, hhf, hht]
end Go.Proofs.YtegpfgccaminkaaGreatDoor.SpnY
namespace Go.Proofs.YtegpfgccaminkaaGreatDoor.Dgt
open Go.RowKit Base Base2 UrlP UrlC Regs
theorem u8_dig (n : Nat) : ((UInt8.ofNat (48 + n % 10)).toNat : Int) = 48 + (n : Int) % 10 := by simp; omega
theorem one_row (c : UInt8) (w : World) : Rds (w.alloc (.cells #[.int .u8 (c.toNat : Int)] 5)) (some ⟨w.heap.size, 0, none⟩) 1 (bcells [c]) := rds_const w [c] 5 (0, 0)
theorem dec_len (n : Nat) (h : n ≤ 18446744073709551615) : (Lib.decDigits n).length ≤ 20 := digits_len 19 n (by omega)
set_option maxHeartbeats 4000000 in
theorem digits_any : ∀ (N n : Nat), n < N → n ≤ 65535 → ∀ w : World, Calls Tryz.prog 27 #[.int .u16 (n : Int)] w fun e w' => e = .returned (.string (strOf (Lib.decDigits n))) ∧ Below w.heap.size w w'
 | 0, n, h, _, w => absurd h (by omega)
 | N + 1, n, hN, hn, w => by
  obtain ⟨c, hc⟩ : ∃ c : UInt8, c = UInt8.ofNat (48 + n % 10) := ⟨_, rfl⟩
  have hcn : (c.toNat : Int) = 48 + (n : Int) % 10 := by rw [hc]; exact u8_dig n
  have q1 : (n : Int).tmod 10 = (n : Int) % 10 := Int.tmod_eq_emod_of_nonneg (by omega)
  have q2 : IntKind.u8.wrap ((n : Int) % 10) = (n : Int) % 10 := by rw [IntKind.wrap_u8]; omega
  have q3 : IntKind.u8.wrap (48 + (n : Int) % 10) = (c.toNat : Int) := by rw [IntKind.wrap_u8, hcn]; omega
  have q4 : 48 + (n : Int) % 10 = (c.toNat : Int) := hcn.symm
  have hst := fun w : World => run_string_of (P := Tryz.prog) (w := w.alloc (.cells #[.int .u8 (c.toNat : Int)] 5)) 39 9 5 Tryz.underlying39 Tryz.underlying5 Tryz.underlying9 [c] 1 (one_row c w)
  by_cases h9 : n < 10
  ·have HD : Hid (Lib.decDigits n = [c]) := by rw [Lib.decDigits, dif_pos h9, hc, Nat.mod_eq_of_lt h9]; rfl
   have h9' : (n : Int) ≤ 9 := by omega
   clear hc hcn
   go_enter Tryz.func27, Tryz.ntmps27
   go_wp2
   go_ret
   exact ⟨by rw [HD.out]; rfl, (Below.refl _ _).alloc (Nat.le_refl _) _⟩
  ·have h9' : 9 < (n : Int) := by omega
   obtain ⟨m, hm⟩ : ∃ m, m = n / 10 := ⟨_, rfl⟩
   have HD : Hid (Lib.decDigits n = Lib.decDigits m ++ [c]) := by rw [Lib.decDigits, dif_neg h9, hc, hm]; rfl
   have q5 : (n : Int) / 10 = (m : Int) := by omega
   have q6 : (n : Int).tdiv 10 = (m : Int) := by rw [Int.tdiv_eq_ediv_of_nonneg (by omega)]; exact q5
   have hml := dec_len m (by omega)
   have HML := hid hml
   have ih := digits_any N m (by omega) (by omega)
   have HIH := hid ih
   have a1 : ∀ w : World, (Op.stringOp .add (strOf (Lib.decDigits m)) (strOf [c])).run Tryz.prog w = .ok (.string (strOf (Lib.decDigits m ++ [c]))) w := fun w => str_add _ _ w (by have := HML.out; simp; omega)
   clear hc hcn hm hml ih
   go_enter Tryz.func27, Tryz.ntmps27
   go_wp2_with fail
   refine (HIH.out _).mono ?_
   rintro e w2 ⟨rfl, hb2⟩
   go_wp2
   go_ret
   exact ⟨by rw [HD.out]; rfl, bel ((Below.refl _ _).alloc (Nat.le_refl _) _) hb2⟩
end Go.Proofs.YtegpfgccaminkaaGreatDoor.Dgt
