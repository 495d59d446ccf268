/- Texts that belong together: Pg, aj3, StoI, ajr, WV, FetC, StkF, sW, yu, Sls. -/
import Derived.Test.YtmpeaoacaecgpaaGreatDoorWAN
import Derived.Test.YtmpeaoacaecgpaaGreatDoorWAE
import Derived.Test.YtmpeaoacaecgpaaGreatDoorWAA
import Derived.Deep.DeepCutAuto
import Derived.Test.YtmpeaoacaecgpaaGreatDoorWAM
import Derived.Test.YtmpeaoacaecgpaaGreatDoorWAH
import Derived.BigQuiet
import Derived.Deep.QuietTactic
import Derived.Deep.WholeRow
import Derived.Test.YtmpeaoacaecgpaaGreatDoorWAD
import Derived.Lib.SlTrimSet
import Derived.Test.YtmpeaoacaecgpaaGreatDoorShelf
import Derived.Laws.Rows
import Derived.Test.YtmpeaoacaecgpaaGreatDoorWAJ
import Derived.Defers
import Derived.Recover
import Derived.Test.YtmpeaoacaecgpaaGreatDoorWAF
import Derived.Test.YtmpeaoacaecgpaaGreatDoorWAC
set_option linter.unusedSimpArgs false
set_option linter.unusedVariables false
set_option maxRecDepth 100000
set_option maxHeartbeats 64000000
namespace Go.Proofs.YtmpeaoacaecgpaaGreatDoor.Pg
open Go.RowKit Base Base2 aZ Wx UrlB Regs
def Box (w : World) (b : Nat) (c : Array Value) : Prop := w.heap[b]? = some (.cells c 25 (0, 0))
theorem Box.cell {w : World} {b : Nat} {c : Array Value} (h : Box w b c) (i : Nat) : w.cell? ⟨b, i, none⟩ = c[i]? := cell_of_row w b i _ _ _ h
theorem Box.below {w w' : World} {B b : Nat} {c : Array Value} (h : Box w b c) (hb : Below B w w') (hB : b < B) : Box w' b c := (hb.block b hB).trans h
theorem kV {w : World} {b : Nat} {v0 v1 v2 v3 v4 v5 v6 v7 v8 v9 v10 v11 v12 : Value} (h : Box w b #[v0, v1, v2, v3, v4, v5, v6, v7, v8, v9, v10, v11, v12]) :
  w.cell? ⟨b, 0, none⟩ = some v0 ∧ w.cell? ⟨b, 1, none⟩ = some v1 ∧ w.cell? ⟨b, 2, none⟩ = some v2 ∧ w.cell? ⟨b, 3, none⟩ = some v3 ∧ w.cell? ⟨b, 4, none⟩ = some v4 ∧ w.cell? ⟨b, 5, none⟩ = some v5 ∧ w.cell? ⟨b, 6, none⟩ = some v6 ∧ w.cell? ⟨b, 7, none⟩ = some v7 ∧ w.cell? ⟨b, 8, none⟩ = some v8 ∧ w.cell? ⟨b, 9, none⟩ = some v9 ∧ w.cell? ⟨b, 10, none⟩ = some v10 ∧ w.cell? ⟨b, 11, none⟩ = some v11 ∧ w.cell? ⟨b, 12, none⟩ = some v12 :=
 ⟨(h.cell 0).trans rfl, (h.cell 1).trans rfl, (h.cell 2).trans rfl, (h.cell 3).trans rfl, (h.cell 4).trans rfl, (h.cell 5).trans rfl, (h.cell 6).trans rfl, (h.cell 7).trans rfl, (h.cell 8).trans rfl, (h.cell 9).trans rfl, (h.cell 10).trans rfl, (h.cell 11).trans rfl, (h.cell 12).trans rfl⟩
theorem amh (z : Int) (h0 : -9223372036854775808 ≤ z) (h1 : z ≤ 9223372036854775807) (w : World) (hT : Tab.Pow w) :
  Calls Tryz.prog 159 #[.int .i64 z] w fun e w' => e = .returned (.string (strOf (Lib.itoa z))) ∧ Below w.heap.size w w' :=
 (Tryz.strconv_Itoa z h0 h1 w hT).mono fun e w' ⟨he, k, os, hw⟩ => ⟨he, by rw [hw]; exact Tab.below_grow w k os⟩
theorem uX (k : Nat) : ∀ n, n < 10 ^ (k + 1) → (Lib.decDigits n).length ≤ k + 1 := by
 induction k with
 | zero => intro n h; rw [Lib.decDigits, dif_pos (by omega)]; simp
 | succ k ih =>
  intro n h
  rw [Lib.decDigits]
  split
  ·simp
  ·have := ih (n / 10) (by rw [Nat.pow_succ] at h; omega)
   rw [List.length_append]
   simp
   omega
theorem aaI (z : Int) (h0 : -9223372036854775808 ≤ z) (h1 : z ≤ 9223372036854775807) : (Lib.itoa z).length ≤ 20 := by
 unfold Lib.itoa
 split
 ·have := uX 18 z.natAbs (by omega)
  simp
  omega
 ·have := uX 18 z.toNat (by omega)
  omega
theorem ZV (s1 s2 : ByteArray) (h1 : s1.size ≤ 1073741824) (h2 : s2.size ≤ 1073741824) : (lD s1 s2).length ≤ 2147483650 := by
 have hl1 : s1.data.toList.length = s1.size := Array.length_toList
 have hl2 : s2.data.toList.length = s2.size := Array.length_toList
 unfold lD
 split
 ·split
  ·simp
  ·rw [List.length_append]; simp; omega
 ·rw [List.length_append, List.length_append, List.length_append]; simp; omega
theorem Rf (z5 : Int) (h0 : -9223372036854775808 ≤ z5) (h1 : z5 ≤ 9223372036854775807) : (kK z5).length ≤ 21 := by
 have := aaI z5 h0 h1
 unfold kK
 split <;> simp <;> omega
theorem afR (s1 s2 s3 : ByteArray) (b4 : Bool) (z5 : Int) (b6 : Bool) (l : List ByteArray) (h1 : s1.size ≤ 1073741824) (h2 : s2.size ≤ 1073741824) (h3 : s3.size ≤ 1073741824) (h0 : -9223372036854775808 ≤ z5) (h5 : z5 ≤ 9223372036854775807) : (ug s1 s2 s3 b4 z5 b6 l).length ≤ 4294967296 := by
 have := ZV s1 s2 h1 h2
 have := Rf z5 h0 h5
 have hl3 : s3.data.toList.length = s3.size := Array.length_toList
 unfold ug
 split
 ·rw [List.length_append, List.length_append, List.length_append]; simp; omega
 ·split <;> simp
theorem gZ {B b : Nat} {l : List UInt8} {w w' : World} (h : lq B b l w) (hb : Below w.heap.size w w') : lq B b l w' := by
 rcases h with ⟨h1, v, h2, h3, h4⟩ | ⟨h1, v, h2, h3, h4⟩
 ·exact Or.inl ⟨h1, v, (hb.block _ (Array.getElem?_eq_some_iff.1 h2).1).trans h2, aP h3 hb, h4⟩
 ·exact Or.inr ⟨h1, v, (hb.block _ (Array.getElem?_eq_some_iff.1 h2).1).trans h2, aP h3 hb, h4⟩
theorem ZQ (s0 : ByteArray) (s1 : ByteArray) (s2 : ByteArray) (s3 : ByteArray) (b4 : Bool) (z5 : Int) (b6 : Bool) (s7 : ByteArray) (A : Option Addr) (n cap : Nat) (l : List ByteArray) (b9 : Bool) (b10 : Bool) (s11 : ByteArray) (s12 : ByteArray) (w : World) (hR : aY w A n (l.map Value.string)) (hnc : n ≤ cap) (hcm : cap ≤ maxLen) (hs0 : s0.size ≤ 1073741824) (hs1 : s1.size ≤ 1073741824) (hs2 : s2.size ≤ 1073741824) (hs3 : s3.size ≤ 1073741824) (hs7 : s7.size ≤ 1073741824) (hs11 : s11.size ≤ 1073741824) (hz : -9223372036854775808 ≤ z5) (hz' : z5 ≤ 9223372036854775807) (hl : (aO l).length ≤ 1073741824) (hT : Tab.Pow w) :
  Calls Tryz.prog 70 #[.agg #[.string s0, .string s1, .string s2, .string s3, .bool b4, .int .i64 z5, .bool b6, .string s7, .slice A n cap, .bool b9, .bool b10, .string s11, .string s12]] w fun e w' => e = .returned (.string (strOf (wH s0 s1 s2 s3 b4 z5 b6 s7 l b9 s11))) ∧ Below w.heap.size w w' := by
 have hl0 : s0.data.toList.length = s0.size := Array.length_toList
 have hl3 : s3.data.toList.length = s3.size := Array.length_toList
 have hl7 : s7.data.toList.length = s7.size := Array.length_toList
 have hl11 : s11.data.toList.length = s11.size := Array.length_toList
 have hn : l.length = n := by rw [← hR.1, List.length_map]
 have HN := hid hn
 have HCL := hid (ZV s1 s2 hs1 hs2)
 have HIT := hid (aaI z5 hz hz')
 have HML := hid (afR s1 s2 s3 b4 z5 b6 l hs1 hs2 hs3 hz hz')
 have Uy : Hid ((s0.data.toList ++ [58]).length ≤ 1073741825) := by show _ ≤ _; rw [List.length_append]; simp; omega
 obtain ⟨CA, hCA⟩ : ∃ X, X = [47, 47] ++ lD s1 s2 := ⟨_, rfl⟩
 obtain ⟨CB, hCB⟩ : ∃ X, X = CA ++ s3.data.toList := ⟨_, rfl⟩
 have hCAl : CA.length ≤ 2147483652 := by rw [hCA, List.length_append]; have := HCL.out; simp; omega
 have WE : Hid (CB.length ≤ 3221225476) := by show _ ≤ _; rw [hCB, List.length_append]; omega
 have a2 : ∀ w : World, (Op.stringOp .add ⟨#[47, 47]⟩ (strOf (lD s1 s2))).run Tryz.prog w = .ok (.string (strOf CA)) w := fun w => by rw [hCA]; exact dL ⟨#[47, 47]⟩ _ w (by rw [size_strOf]; have := HCL.out; show 2 + _ ≤ _; omega)
 have a3 : ∀ w : World, (Op.stringOp .add (strOf CA) s3).run Tryz.prog w = .ok (.string (strOf CB)) w := fun w => by rw [hCB]; exact dL _ s3 w (by rw [size_strOf]; omega)
 have HCB : Hid (CB = [47, 47] ++ lD s1 s2 ++ s3.data.toList) := by show _ = _; rw [hCB, hCA]
 clear hCA hCB hCAl
 have TB : Hid ((pF b6 s7 l).length ≤ 1073741824) := by show _ ≤ _; unfold pF; split <;> omega
 have a1 : ∀ w : World, (Op.stringOp .add s0 ⟨#[58]⟩).run Tryz.prog w = .ok (.string (strOf (s0.data.toList ++ [58]))) w := fun w => dL s0 ⟨#[58]⟩ w (by show s0.size + 1 ≤ _; omega)
 obtain ⟨QL, hQL⟩ : ∃ X, X = [63] ++ s11.data.toList := ⟨_, rfl⟩
 have a5 : ∀ w : World, (Op.stringOp .add ⟨#[63]⟩ s11).run Tryz.prog w = .ok (.string (strOf QL)) w := fun w => by rw [hQL]; exact dL ⟨#[63]⟩ s11 w (by show 1 + s11.size ≤ _; omega)
 have HQLL : Hid (QL.length ≤ 1073741825) := by show _ ≤ _; rw [hQL, List.length_append]; simp; omega
 have HQL := hid hQL
 clear hQL
 clear hl0 hl3 hl7 hl11 hn
 have HR := hid hR
 have Ci := hid hl
 have HT := hid hT
 clear hR hl hT
 unfold maxLen at hcm
 go_enter Tryz.func70, Tryz.ntmps70
 go_upto_region 1 with (fail)
 generalize hw1 : w.alloc _ = w1
 have hb1 : Below w.heap.size w w1 := by rw [← hw1]; exact (Below.refl _ _).alloc (Nat.le_refl _) _
 have hs1' : w1.heap.size = w.heap.size + 1 := by rw [← hw1]; simp
 have acy : Hid (Box w1 w.heap.size #[.string s0, .string s1, .string s2, .string s3, .bool b4, .int .i64 z5, .bool b6, .string s7, .slice A n cap, .bool b9, .bool b10, .string s11, .string s12]) := by
  show _ = _
  rw [← hw1]
  exact heap_alloc_new w _
 clear hw1
 go_upto_region 2 with (fail)
 have HB2 : Hid (lq (w.heap.size + 1) (w.heap.size + 1) [] (w1.alloc (.cells #[.pointer none, .slice none 0 0] 147))) := by
  have h := Lib.fresh_isBuilder 147 5 w1
  rw [hs1'] at h
  exact h
 have XO : Below (w.heap.size + 1) w1 (w1.alloc (.cells #[.pointer none, .slice none 0 0] 147)) := (Below.refl _ _).alloc (by rw [hs1']; exact Nat.le_refl _) _
 have hs2' : (w1.alloc (.cells #[.pointer none, .slice none 0 0] 147)).heap.size = w.heap.size + 2 := by simp [hs1']
 generalize hw2 : w1.alloc _ = w2 at HB2 XO hs2' ⊢
 clear hw2
 have alR : Below w.heap.size w w2 := hb1.trans (XO.mono (by omega))
 have hbx := acy.out.below XO (by omega)
 have HBX2 := hid hbx
 obtain ⟨c0, c1, c2, c3, c4, c5, c6, c7, c8, c9, c10, c11, c12⟩ := kV hbx
 clear hbx
 have hsz2 : w.heap.size + 1 ≤ w2.heap.size := by omega
 clear hs1' hs2'
 go_wp2_with fail
 refine (write_any _ _ _ _ _ HB2.out (by rw [size_strOf]; have := Uy.out; simp at this ⊢; omega) hsz2).mono ?_
 rintro e w3 ⟨rfl, HB3', aau⟩
 have HB3 : Hid (lq (w.heap.size + 1) (w.heap.size + 1) (s0.data.toList ++ [58]) w3) := HB3'
 have hsz3 : w.heap.size + 1 ≤ w3.heap.size := by have := aau.size; omega
 have hbx := HBX2.out.below aau (by omega : w.heap.size < w.heap.size + 1)
 have HBX3 := hid hbx
 clear HB3' c0 c1 c2 c3 c4 c5 c6 c7 c8 c9 c10 c11 c12
 obtain ⟨c0, c1, c2, c3, c4, c5, c6, c7, c8, c9, c10, c11, c12⟩ := kV hbx
 clear hbx
 go_upto_if 9 with (fail)
 go_cut [] (fun wx => Hid (lq (w.heap.size + 1) (w.heap.size + 1) (s0.data.toList ++ [58] ++ ug s1 s2 s3 b4 z5 b6 l) wx) ∧ Hid (Below (w.heap.size + 1) w2 wx))
 case first =>
  cases b4 with
  | true =>
   go_wp2_with fail
   clear c0 c1 c2 c3 c4 c5 c6 c7 c8 c9 c10 c11 c12
   refine bC (by kernel_rfl) 6 [is (.agg #[.string s0, .string s1, .string s2, .string s3, .bool true, .int .i64 z5, .bool b6, .string s7, .slice A n cap, .bool b9, .bool b10, .string s11, .string s12]), is (.string (strOf (lD s1 s2))), is (.string (strOf CA)), is (.pointer (some ⟨w.heap.size, 3, none⟩)), is (.string s3), is (.string (strOf CB))] [[], [0], [0, 1], [], [3], [0, 1, 2, 3, 4], [0, 1, 2, 3, 4, 5]] (by kernel_rfl) ?_ ?_
   ·refine ⟨?_, ?_, ?_, ?_, ?_, ?_, trivial⟩
    all_goals (intro t wq hbq hh K hK; simp only [filled, aj, upd, Have, is, any, row, pick, Act.put, List.setIfInBounds_toArray, List.set_cons_zero, List.set_cons_succ, Nat.reduceAdd, Nat.reduceEqDiff, reduceIte, List.tail_cons, List.headD_cons] at hh hK ⊢; (try simp only [hh] at hK ⊢); try clear hh)
    ·have hbx := HBX3.out.below hbq (by omega); obtain ⟨c0, c1, c2, c3, c4, c5, c6, c7, c8, c9, c10, c11, c12⟩ := kV hbx; clear hbx; go_simp; exact hK _ _ (Below.refl _ _) rfl
    ·go_simp; refine (ak0 s0 s1 s2 s3 true z5 b6 s7 A n cap l b9 b10 s11 s12 _ hs1 hs2).mono ?_; rintro e w5 ⟨rfl, hb5⟩; exact hK _ _ hb5 rfl
    ·have hadd := a2 wq; go_simp; exact hK _ _ (Below.refl _ _) rfl
    ·go_simp; exact hK _ _ (Below.refl _ _) rfl
    ·have hbx := HBX3.out.below hbq (by omega); obtain ⟨c0, c1, c2, c3, c4, c5, c6, c7, c8, c9, c10, c11, c12⟩ := kV hbx; clear hbx; go_simp; exact hK _ _ (Below.refl _ _) rfl
    ·have hadd := a3 wq; go_simp; exact hK _ _ (Below.refl _ _) rfl
   ·intro t wq hbq hh
    have f5 := aB hh 5 (by decide)
    simp only [pick] at f5
    replace f5 : t 5 = (.string (strOf CB)) := f5
    clear hh
    simp only [filled, aj, upd, Have, is, any, row, pick, Act.put, List.setIfInBounds_toArray, List.set_cons_zero, List.set_cons_succ, Nat.reduceAdd, Nat.reduceEqDiff, reduceIte]
    simp only [f5]
    have HB4 := HB3.out
    go_wp2_with fail
    refine (write_any _ _ _ _ _ (gZ HB3.out hbq) (by rw [size_strOf]; have := Uy.out; have := WE.out; omega) (by have := hbq.size; omega)).mono ?_
    rintro e w5 ⟨rfl, iG, hb5⟩
    rw [kX] at iG
    have hb35 := aau.trans ((hbq.mono (by omega)).trans hb5)
    have hbx := HBX3.out.below ((hbq.mono (by omega)).trans hb5) (by omega : w.heap.size < w.heap.size + 1)
    have HBX5 := hid hbx
    obtain ⟨c0, c1, c2, c3, c4, c5, c6, c7, c8, c9, c10, c11, c12⟩ := kV hbx
    clear hbx HB4
    have hsz5 : w.heap.size + 1 ≤ w5.heap.size := by have := hb35.size; omega
    by_cases hp : z5 = -1
    ·have q1 : (z5 == -1) = true := by simpa using hp
     have q2 : (z5 != -1) = false := by simpa using hp
     have HP : Hid (kK z5 = []) := if_pos hp
     clear hp
     go_wp2
     go_meet
     refine ⟨?_, hb35⟩
     have e : s0.data.toList ++ [58] ++ ug s1 s2 s3 true z5 b6 l = s0.data.toList ++ [58] ++ CB := by unfold ug; rw [if_pos rfl, HP.out, List.append_nil, HCB.out]
     show lq _ _ _ _
     rw [e]
     exact iG
    ·have q1 : (z5 == -1) = false := by simpa using hp
     have q2 : (z5 != -1) = true := by simpa using hp
     have HP : Hid (kK z5 = 58 :: Lib.itoa z5) := if_neg hp
     clear hp
     obtain ⟨IT, hIT⟩ : ∃ X, X = [58] ++ Lib.itoa z5 := ⟨_, rfl⟩
     have a4 : ∀ w : World, (Op.stringOp .add ⟨#[58]⟩ (strOf (Lib.itoa z5))).run Tryz.prog w = .ok (.string (strOf IT)) w := fun w => by rw [hIT]; exact dL ⟨#[58]⟩ _ w (by rw [size_strOf]; have := HIT.out; show 1 + _ ≤ _; omega)
     have HITL : Hid (IT.length ≤ 21) := by show _ ≤ _; rw [hIT, List.length_append]; have := HIT.out; simp; omega
     have HITE := hid hIT
     clear hIT
     go_wp2_with fail
     refine (amh z5 hz hz' _ (HT.out.below (alR.trans (hb35.mono (by omega))))).mono ?_
     rintro e w6 ⟨rfl, hb6⟩
     go_wp2_with fail
     refine (write_any _ _ _ _ _ (gZ iG hb6) (by rw [size_strOf, List.length_append]; have := HITL.out; have := Uy.out; have := WE.out; omega) (by have := hb6.size; omega)).mono ?_
     rintro e w7 ⟨rfl, kZ, hb7⟩
     rw [kX] at kZ
     go_wp2
     go_meet
     refine ⟨?_, hb35.trans ((hb6.mono hsz5).trans hb7)⟩
     have e : s0.data.toList ++ [58] ++ ug s1 s2 s3 true z5 b6 l = s0.data.toList ++ [58] ++ CB ++ IT := by unfold ug; rw [if_pos rfl, HP.out, HCB.out, HITE.out]; simp
     show lq _ _ _ _
     rw [e]
     exact kZ
  | false =>
   cases b6 with
   | true =>
    go_wp2
    go_meet
    refine ⟨?_, aau⟩
    show lq _ _ (_ ++ []) _
    rw [List.append_nil]
    exact HB3.out
   | false =>
    by_cases h1n : 1 < n
    ·obtain ⟨x, y, r, hlx⟩ : ∃ x y r, l = x :: y :: r := by
      have := HN.out
      match l, this with
      | x :: y :: r, _ => exact ⟨x, y, r, rfl⟩
      | [_], h => simp at h; omega
      | [], h => simp at h; omega
     have hRr := HR.out.below (alR.trans (aau.mono (by omega)))
     obtain ⟨g, off, rfl, hg, hcell⟩ := hRr.spot (by omega)
     have hc := hcell 0 (by rw [List.length_map, HN.out]; omega)
     have e0 : (l.map Value.string)[0]'(by rw [List.length_map, HN.out]; omega) = .string x := by simp [hlx]
     rw [e0, Nat.add_zero] at hc
     have HD : Hid (dotted false l = decide (x.data.toList = [])) := by show _ = _; rw [hlx]; rfl
     clear hRr hcell e0 hlx
     by_cases hx : x.data.toList = []
     ·have q1 : x.toList = [] := by rw [tl]; exact hx
      have Td : Hid (dotted false l = true) := HD.out.trans (decide_eq_true hx)
      clear hx
      go_wp2_with fail
      refine (write_any _ _ _ _ _ HB3.out (by have := Uy.out; show _ + 2 ≤ _; omega) hsz3).mono ?_
      rintro e w5 ⟨rfl, iG, hb5⟩
      go_wp2
      go_meet
      refine ⟨?_, aau.trans hb5⟩
      have e : s0.data.toList ++ [58] ++ ug s1 s2 s3 false z5 false l = s0.data.toList ++ [58] ++ [47, 46] := by unfold ug; rw [if_neg (by decide), if_pos Td.out]
      show lq _ _ _ _
      rw [e]
      exact iG
     ·have q1 : (x.toList == []) = false := by rw [tl]; simpa using hx
      have q1' : x.toList.isEmpty = false := by rw [tl]; simpa using hx
      have Td : Hid (¬ dotted false l = true) := by show ¬ _; rw [HD.out]; simpa using hx
      clear hx
      go_wp2
      go_meet
      refine ⟨?_, aau⟩
      have e : s0.data.toList ++ [58] ++ ug s1 s2 s3 false z5 false l = s0.data.toList ++ [58] := by unfold ug; rw [if_neg (by decide), if_neg Td.out, List.append_nil]
      show lq _ _ _ _
      rw [e]
      exact HB3.out
    ·have Td : Hid (¬ dotted false l = true) := by
      have := HN.out
      match l, this with
      | x :: y :: r, h => simp at h; omega
      | [_], h => simp [dotted, Hid]
      | [], h => simp [dotted, Hid]
     go_wp2
     go_meet
     refine ⟨?_, aau⟩
     have e : s0.data.toList ++ [58] ++ ug s1 s2 s3 false z5 false l = s0.data.toList ++ [58] := by unfold ug; rw [if_neg (by decide), if_neg Td.out, List.append_nil]
     show lq _ _ _ _
     rw [e]
     exact HB3.out
 case rest =>
 obtain ⟨HB4, HB24⟩ := hcut
 clear c0 c1 c2 c3 c4 c5 c6 c7 c8 c9 c10 c11 c12
 have hbx := HBX2.out.below HB24.out (by omega : w.heap.size < w.heap.size + 1)
 have HBX4 := hid hbx
 obtain ⟨c0, c1, c2, c3, c4, c5, c6, c7, c8, c9, c10, c11, c12⟩ := kV hbx
 clear hbx
 have Ae : w.heap.size + 1 ≤ wc.heap.size := by have := HB24.out.size; omega
 go_wp2_with fail
 refine (DU s0 s1 s2 s3 b4 z5 b6 s7 A n cap l b9 b10 s11 s12 _ (HR.out.below (alR.trans (HB24.out.mono (by omega)))) hnc (by unfold maxLen; omega) hs7 Ci.out).mono ?_
 rintro e w5 ⟨rfl, hb5⟩
 go_wp2_with fail
 have hml := HML.out
 have hla := Uy.out
 have hpa := TB.out
 have HLC : Hid ((s0.data.toList ++ [58] ++ ug s1 s2 s3 b4 z5 b6 l).length ≤ 5368709121) := by show _ ≤ _; rw [List.length_append]; omega
 have Fg : Hid ((s0.data.toList ++ [58] ++ ug s1 s2 s3 b4 z5 b6 l ++ pF b6 s7 l).length ≤ 6442450945) := by show _ ≤ _; rw [List.length_append]; have := HLC.out; omega
 clear hml hla hpa
 refine (write_any _ _ _ _ _ (gZ HB4.out hb5) (by rw [size_strOf]; have := HLC.out; have := TB.out; omega) (by have := hb5.size; omega)).mono ?_
 rintro e w6 ⟨rfl, nN, hb6⟩
 rw [kX] at nN
 have hb26 := HB24.out.trans ((hb5.mono Ae).trans hb6)
 have hsz6 : w.heap.size + 1 ≤ w6.heap.size := by have := hb26.size; omega
 clear c0 c1 c2 c3 c4 c5 c6 c7 c8 c9 c10 c11 c12
 have hbx := HBX2.out.below hb26 (by omega : w.heap.size < w.heap.size + 1)
 obtain ⟨c0, c1, c2, c3, c4, c5, c6, c7, c8, c9, c10, c11, c12⟩ := kV hbx
 clear hbx
 have HB6' := hid nN
 clear nN
 cases b9 with
 | false =>
  go_wp2_with fail
  refine (qL _ _ _ _ HB6'.out hsz6).mono ?_
  rintro e w7 ⟨rfl, hb7⟩
  go_wp2
  go_ret
  refine ⟨?_, alR.trans ((hb26.trans hb7).mono (by omega))⟩
  have e : wH s0 s1 s2 s3 b4 z5 b6 s7 l false s11 = s0.data.toList ++ [58] ++ ug s1 s2 s3 b4 z5 b6 l ++ pF b6 s7 l := by unfold wH; rw [if_neg (by decide), List.append_nil]
  refine congrArg (fun X => Ending.returned (.string (strOf X))) ?_
  rw [e]
  simp
 | true =>
  go_wp2_with fail
  refine (write_any _ _ _ _ _ HB6'.out (by rw [size_strOf]; have := Fg.out; have := HQLL.out; omega) hsz6).mono ?_
  rintro e w7 ⟨rfl, kZ, hb7⟩
  rw [kX] at kZ
  go_wp2_with fail
  refine (qL _ _ _ _ kZ (by have := hb7.size; omega)).mono ?_
  rintro e w8 ⟨rfl, hb8⟩
  go_wp2
  go_ret
  refine ⟨?_, alR.trans (((hb26.trans hb7).trans hb8).mono (by omega))⟩
  have e : wH s0 s1 s2 s3 b4 z5 b6 s7 l true s11 = s0.data.toList ++ [58] ++ ug s1 s2 s3 b4 z5 b6 l ++ pF b6 s7 l ++ QL := by unfold wH; rw [if_pos rfl, HQL.out]; rfl
  refine congrArg (fun X => Ending.returned (.string (strOf X))) ?_
  rw [e]
  simp
theorem Ii (s0 : ByteArray) (s1 : ByteArray) (s2 : ByteArray) (s3 : ByteArray) (b4 : Bool) (z5 : Int) (b6 : Bool) (s7 : ByteArray) (A : Option Addr) (n cap : Nat) (l : List ByteArray) (b9 : Bool) (b10 : Bool) (s11 : ByteArray) (s12 : ByteArray) (w : World) (hR : aY w A n (l.map Value.string)) (hnc : n ≤ cap) (hcm : cap ≤ maxLen) (hs0 : s0.size ≤ 1073741824) (hs1 : s1.size ≤ 1073741824) (hs2 : s2.size ≤ 1073741824) (hs3 : s3.size ≤ 1073741824) (hs7 : s7.size ≤ 1073741824) (hs11 : s11.size ≤ 1073741824) (al2 : s12.size ≤ 1073741824) (hz : -9223372036854775808 ≤ z5) (hz' : z5 ≤ 9223372036854775807) (hl : (aO l).length ≤ 1073741824) (hT : Tab.Pow w) :
  Calls Tryz.prog 70 #[.agg #[.string s0, .string s1, .string s2, .string s3, .bool b4, .int .i64 z5, .bool b6, .string s7, .slice A n cap, .bool b9, .bool b10, .string s11, .string s12]] w fun e w' => e = .returned (.string (strOf (wH s0 s1 s2 s3 b4 z5 b6 s7 l b9 s11))) ∧ Below w.heap.size w w' :=
 ZQ s0 s1 s2 s3 b4 z5 b6 s7 A n cap l b9 b10 s11 s12 w hR hnc hcm hs0 hs1 hs2 hs3 hs7 hs11 hz hz' hl hT
theorem PI (s0 : ByteArray) (s1 : ByteArray) (s2 : ByteArray) (s3 : ByteArray) (b4 : Bool) (z5 : Int) (b6 : Bool) (s7 : ByteArray) (A : Option Addr) (n cap : Nat) (l : List ByteArray) (b9 : Bool) (b10 : Bool) (s11 : ByteArray) (s12 : ByteArray) (hs0 : s0.size ≤ 1073741824) (hs1 : s1.size ≤ 1073741824) (hs2 : s2.size ≤ 1073741824) (hs3 : s3.size ≤ 1073741824) (hs7 : s7.size ≤ 1073741824) (hs11 : s11.size ≤ 1073741824) (al2 : s12.size ≤ 1073741824) (hz : -9223372036854775808 ≤ z5) (hz' : z5 ≤ 9223372036854775807) (hl : (aO l).length ≤ 1073741824) : (wH s0 s1 s2 s3 b4 z5 b6 s7 l b9 s11).length ≤ 8589934592 := by
 have hl0 : s0.data.toList.length = s0.size := Array.length_toList
 have hl7 : s7.data.toList.length = s7.size := Array.length_toList
 have hl11 : s11.data.toList.length = s11.size := Array.length_toList
 have := afR s1 s2 s3 b4 z5 b6 l hs1 hs2 hs3 hz hz'
 unfold wH pF
 rw [List.length_append, List.length_append, List.length_append, List.length_append]
 split <;> split <;> simp <;> omega
theorem print_any (s0 : ByteArray) (s1 : ByteArray) (s2 : ByteArray) (s3 : ByteArray) (b4 : Bool) (z5 : Int) (b6 : Bool) (s7 : ByteArray) (A : Option Addr) (n cap : Nat) (l : List ByteArray) (b9 : Bool) (b10 : Bool) (s11 : ByteArray) (s12 : ByteArray) (w : World) (hR : aY w A n (l.map Value.string)) (hnc : n ≤ cap) (hcm : cap ≤ maxLen) (hs0 : s0.size ≤ 1073741824) (hs1 : s1.size ≤ 1073741824) (hs2 : s2.size ≤ 1073741824) (hs3 : s3.size ≤ 1073741824) (hs7 : s7.size ≤ 1073741824) (hs11 : s11.size ≤ 1073741824) (al2 : s12.size ≤ 1073741824) (hz : -9223372036854775808 ≤ z5) (hz' : z5 ≤ 9223372036854775807) (hl : (aO l).length ≤ 1073741824) (hT : Tab.Pow w) :
  Calls Tryz.prog 46 #[.agg #[.string s0, .string s1, .string s2, .string s3, .bool b4, .int .i64 z5, .bool b6, .string s7, .slice A n cap, .bool b9, .bool b10, .string s11, .string s12]] w fun e w' => e = .returned (.string (strOf (Ar s0 s1 s2 s3 b4 z5 b6 s7 l b9 b10 s11 s12))) ∧ Below w.heap.size w w' := by
 have hcm' := hcm
 unfold maxLen at hcm
 have hl12 : s12.data.toList.length = s12.size := Array.length_toList
 obtain ⟨BL, hBL⟩ : ∃ X, X = wH s0 s1 s2 s3 b4 z5 b6 s7 l b9 s11 := ⟨_, rfl⟩
 have hbl : BL.length ≤ 8589934592 := by rw [hBL]; exact PI s0 s1 s2 s3 b4 z5 b6 s7 A n cap l b9 b10 s11 s12 hs0 hs1 hs2 hs3 hs7 hs11 al2 hz hz' hl
 have HBL := hid hBL
 obtain ⟨BM, hBM⟩ : ∃ X, X = BL ++ [35] := ⟨_, rfl⟩
 obtain ⟨BN, hBN⟩ : ∃ X, X = BM ++ s12.data.toList := ⟨_, rfl⟩
 have a1 : ∀ w : World, (Op.stringOp .add (strOf BL) ⟨#[35]⟩).run Tryz.prog w = .ok (.string (strOf BM)) w := fun w => by rw [hBM]; exact dL _ ⟨#[35]⟩ w (by rw [size_strOf]; show _ + 1 ≤ _; omega)
 have a2 : ∀ w : World, (Op.stringOp .add (strOf BM) s12).run Tryz.prog w = .ok (.string (strOf BN)) w := fun w => by rw [hBN]; exact dL _ s12 w (by rw [size_strOf, hBM, List.length_append]; simp; omega)
 have HBN : Hid (BN = BL ++ [35] ++ s12.data.toList) := by show _ = _; rw [hBN, hBM]
 clear hBL hBM hBN hl12 hbl
 have HR := hid hR
 have Ci := hid hl
 have HT := hid hT
 clear hR hl hT
 cases b10 with
 | true =>
  go_enter Tryz.func46, Tryz.ntmps46
  go_upto_region 1 with (fail)
  generalize hw1 : w.alloc _ = w1
  have hb1 : Below w.heap.size w w1 := by rw [← hw1]; exact (Below.refl _ _).alloc (Nat.le_refl _) _
  have hlt1 : w.heap.size < w1.heap.size := by rw [← hw1]; simp
  have acy : Hid (Box w1 w.heap.size #[.string s0, .string s1, .string s2, .string s3, .bool b4, .int .i64 z5, .bool b6, .string s7, .slice A n cap, .bool b9, .bool true, .string s11, .string s12]) := by
   show _ = _
   rw [← hw1]
   exact heap_alloc_new w _
  clear hw1
  obtain ⟨c0, c1, c2, c3, c4, c5, c6, c7, c8, c9, c10, c11, c12⟩ := kV acy.out
  go_wp2_with fail
  clear c0 c1 c2 c3 c4 c5 c6 c7 c8 c9 c10 c11 c12
  refine aV (by kernel_rfl) [is (.agg #[.string s0, .string s1, .string s2, .string s3, .bool b4, .int .i64 z5, .bool b6, .string s7, .slice A n cap, .bool b9, .bool true, .string s11, .string s12]), is (.string (strOf BL)), is (.string (strOf BM)), is (.pointer (some ⟨w.heap.size, 12, none⟩)), is (.string s12), is (.string (strOf BN)), is (.string (strOf BN))] [[], [0], [1], [], [3], [2, 4], [5]] (by kernel_rfl) ?_ ?_
  ·refine ⟨?_, ?_, ?_, ?_, ?_, ?_, ?_, trivial⟩
   all_goals (intro t wq hbq hh K hK; simp only [filled, upd, Have, is, any, row, pick, Act.put, List.setIfInBounds_toArray, List.set_cons_zero, List.set_cons_succ, Nat.reduceAdd, Nat.reduceEqDiff, reduceIte, List.tail_cons, List.headD_cons] at hh hK ⊢; (try simp only [hh] at hK ⊢); try clear hh)
   ·have hbx := acy.out.below hbq hlt1; obtain ⟨c0, c1, c2, c3, c4, c5, c6, c7, c8, c9, c10, c11, c12⟩ := kV hbx; clear hbx; go_simp; exact hK _ _ (Below.refl _ _) rfl
   ·go_simp; refine (Ii s0 s1 s2 s3 b4 z5 b6 s7 A n cap l b9 true s11 s12 _ (HR.out.below (hb1.trans (hbq.mono (by omega)))) hnc hcm' hs0 hs1 hs2 hs3 hs7 hs11 al2 hz hz' Ci.out ((HT.out.below (hb1.trans (hbq.mono (by omega)))))).mono ?_; rintro e w5 ⟨rfl, hb5⟩; rw [← HBL.out]; exact hK _ _ hb5 rfl
   ·have hadd := a1 wq; go_simp; exact hK _ _ (Below.refl _ _) rfl
   ·go_simp; exact hK _ _ (Below.refl _ _) rfl
   ·have hbx := acy.out.below hbq hlt1; obtain ⟨c0, c1, c2, c3, c4, c5, c6, c7, c8, c9, c10, c11, c12⟩ := kV hbx; clear hbx; go_simp; exact hK _ _ (Below.refl _ _) rfl
   ·have hadd := a2 wq; go_simp; exact hK _ _ (Below.refl _ _) rfl
   ·go_simp; exact hK _ _ (Below.refl _ _) rfl
  ·intro t wq hbq hh
   have f6 := aB hh 6 (by decide)
   simp only [pick] at f6
   replace f6 : t 6 = (.string (strOf BN)) := f6
   clear hh
   simp only [filled, upd, Have, is, any, row, pick, Act.put, List.setIfInBounds_toArray, List.set_cons_zero, List.set_cons_succ, Nat.reduceAdd, Nat.reduceEqDiff, reduceIte]
   simp only [f6]
   go_wp2
   go_ret
   refine ⟨?_, hb1.trans (hbq.mono (by omega))⟩
   have e : Ar s0 s1 s2 s3 b4 z5 b6 s7 l b9 true s11 s12 = BN := by unfold Ar; rw [if_pos rfl, HBN.out, ← HBL.out]; simp
   exact congrArg (fun X => Ending.returned (.string (strOf X))) e.symm
 | false =>
  clear a1 a2
  go_enter Tryz.func46, Tryz.ntmps46
  go_upto_region 1 with (fail)
  generalize hw1 : w.alloc _ = w1
  have hb1 : Below w.heap.size w w1 := by rw [← hw1]; exact (Below.refl _ _).alloc (Nat.le_refl _) _
  have acy : Hid (Box w1 w.heap.size #[.string s0, .string s1, .string s2, .string s3, .bool b4, .int .i64 z5, .bool b6, .string s7, .slice A n cap, .bool b9, .bool false, .string s11, .string s12]) := by
   show _ = _
   rw [← hw1]
   exact heap_alloc_new w _
  clear hw1
  obtain ⟨c0, c1, c2, c3, c4, c5, c6, c7, c8, c9, c10, c11, c12⟩ := kV acy.out
  go_wp2_with fail
  refine (Ii s0 s1 s2 s3 b4 z5 b6 s7 A n cap l b9 false s11 s12 _ (HR.out.below hb1) hnc hcm' hs0 hs1 hs2 hs3 hs7 hs11 al2 hz hz' Ci.out (HT.out.below hb1)).mono ?_
  rintro e w5 ⟨rfl, hb5⟩
  go_wp2
  go_ret
  refine ⟨?_, bel hb1 hb5⟩
  have e : Ar s0 s1 s2 s3 b4 z5 b6 s7 l b9 false s11 s12 = wH s0 s1 s2 s3 b4 z5 b6 s7 l b9 s11 := by unfold Ar; rw [if_neg (by decide), List.append_nil]
  exact congrArg (fun X => Ending.returned (.string (strOf X))) e.symm
end Go.Proofs.YtmpeaoacaecgpaaGreatDoor.Pg
namespace Go.Proofs.YtmpeaoacaecgpaaGreatDoor.aj3
open Go.RowKit Base Base2 dI cO UrlA PrsP mW Pbx tK yx sU pO vZ WQ acK NJ wo aj6 OpqC
def uZ (c : UInt8) : Bool := decide (c ≠ 63) && (decide (c ≠ 35) && (decide (33 ≤ c.toNat) && decide (c.toNat ≤ 126)))
theorem nC {c : UInt8} (h : uZ c = true) : c ≠ 63 ∧ c ≠ 35 ∧ 33 ≤ c.toNat ∧ c.toNat ≤ 126 := by simpa [uZ] using h
structure Fine (S R : List UInt8) : Prop where
 au : S.all NT = true
 let0 : lI S = true
 low : cO.lower S = S
 fs : S.all uZ = true
 amA : ∀ c ∈ S, c ≠ 58
 file : S ≠ FILE
 spc : special S = false
 r : R.all uZ = true
 r0 : R ≠ []
 r47 : Lib.hasPrefix R [47] = false
theorem Ns {R : List UInt8} (h : R.all uZ = true) : Lib.hasSuffix R [32] = false := by
 rcases jC R with e | ⟨M, d, e⟩
 ·rw [e]; rfl
 ·rw [e, eP]
  rw [e, List.all_append, Bool.and_eq_true] at h
  have := nC (by simpa using h.2 : uZ d = true)
  rw [decide_eq_false_iff_not]
  rintro rfl
  exact absurd this.2.2.1 (by decide)
theorem ZK {S R F : List UInt8} (h : Fine S R) (hf : F.all uZ = true) : (∀ c ∈ S ++ 58 :: R ++ F, 33 ≤ c.toNat ∧ c.toNat ≤ 126) := by
 intro c hc
 simp only [List.mem_append, List.mem_cons] at hc
 rcases hc with (hc | rfl | hc) | hc
 ·have := nC (List.all_eq_true.1 h.fs c hc); exact this.2.2
 ·decide
 ·have := nC (List.all_eq_true.1 h.r c hc); exact this.2.2
 ·have := nC (List.all_eq_true.1 hf c hc); exact this.2.2
theorem PZ {T : List UInt8} (h0 : T ≠ []) (h : ∀ c ∈ T, 33 ≤ c.toNat ∧ c.toNat ≤ 126) : clean T = T := by
 refine Dc (fun c hc => ⟨by have := h c hc; omega, (h c hc).2⟩) ?_ ?_
 ·match T, h0, h with
  | c :: t, _, h =>
   refine ⟨c, t, rfl, ?_⟩
   have := h c (List.mem_cons_self ..)
   simp only [fO, decide_eq_false_iff_not]; omega
 ·rcases jC T with e | ⟨M, d, e⟩
  ·rw [e]; rfl
  ·rw [e, eP, decide_eq_false_iff_not]
   rintro rfl
   have := h 32 (by rw [e]; simp)
   exact absurd this.1 (by decide)
theorem ZO {S R : List UInt8} (h : Fine S R) : PrsP.apart (S ++ 58 :: R) = ⟨S, R, [], [], false, false⟩ := by
 have hall : ∀ d ∈ S ++ 58 :: R, d ≠ 63 ∧ d ≠ 35 := by
  intro d hd
  simp only [List.mem_append, List.mem_cons] at hd
  rcases hd with hd | rfl | hd
  ·have := nC (List.all_eq_true.1 h.fs d hd); exact ⟨this.1, this.2.1⟩
  ·decide
  ·have := nC (List.all_eq_true.1 h.r d hd); exact ⟨this.1, this.2.1⟩
 unfold PrsP.apart
 simp only
 rw [iP 35 _ fun d hd => (hall d hd).2]
 simp only
 rw [iP 63 _ fun d hd => (hall d hd).1]
 simp only
 rw [kW 58 S R h.amA]
 simp only
 rw [if_pos (by rw [h.let0]; rfl), h.low]
theorem EC {R : List UInt8} (h : R.all uZ = true) : EscE.enc 0 R = R := Hz.lV 0 _ fun d hd => by
 have := nC (List.all_eq_true.1 h d hd)
 exact in0 d (by omega) this.2.2.2
def opU (S R : List UInt8) : U := { U0 with au := S, port := -1, opq := true, txt := R }
structure Hy (w : World) : Prop where
 pow : Tab.Pow w
 max : Max w
 Hq : rD w
theorem Hy.below {w w' : World} (h : Hy w) (hb : Below w.heap.size w w') : Hy w' := ⟨bY h.pow hb, h.max.below hb, h.Hq.below hb⟩
theorem X8 {S R : List UInt8} (h : Fine S R) (hl : (S ++ 58 :: R).length ≤ 65536) (w : World) (E : Hy w) : Calls Tryz.prog 16 #[.string (strOf (S ++ 58 :: R)), .pointer none] w (xC w (some (opU S R))) := by
 have hp : PrsP.apart (clean (S ++ 58 :: R)) = ⟨S, R, [], [], false, false⟩ := by
  rw [PZ (by simp) fun c hc => ZK (F := []) h rfl c (by simpa using hc), ZO h]
 have hS : S ≠ [] := by rintro rfl; exact absurd h.let0 (by decide)
 have := VJ (S ++ 58 :: R) ⟨S, R, [], [], false, false⟩ w hp.symm hl h.file h.spc hS h.r47 (by show Lib.hasSuffix (EscE.enc 0 R) [32] = false; rw [EC h.r]; exact Ns h.r) E.max E.Hq
 have e : PrsP.finish { U0 with au := S, port := -1, opq := true, txt := EscE.enc 0 R } ⟨S, R, [], [], false, false⟩ = opU S R := by unfold PrsP.finish opU; simp [EC h.r]
 simp only at this
 rw [e] at this
 exact this
theorem Om {T : List UInt8} {u : U} {w : World} (h : Calls Tryz.prog 16 #[.string (strOf T), .pointer none] w (xC w (some u))) : Calls Tryz.prog 16 #[.string (strOf T), .pointer none] w fun e w' => ∃ A n c, e = .returned (.tuple #[.agg (cells u (.slice A n c)), .int .i64 0]) ∧ dR w' u A n c ∧ Below w.heap.size w w' :=
 h.mono fun e w' ⟨h1, A, n, c, h2, h3⟩ => ⟨A, n, c, h2, h3.aO, h1⟩
end Go.Proofs.YtmpeaoacaecgpaaGreatDoor.aj3
namespace Go.Proofs.YtmpeaoacaecgpaaGreatDoor.StoI
open Go.RowKit Base Base2 Base3 Regs uw xH Kq mW ES
set_option linter.unusedSimpArgs false
set_option linter.unusedVariables false
theorem nI {w : World} {g : Nat} {s h : ByteArray} {p n : Int} (x : OB w g s h p n) : (loadVar 38 ⟨g, 0, none⟩).run Tryz.prog w = .ok (.agg #[.string s, .string h, .int .i64 p, .int .i64 n]) w :=
 run_loadVar_row w g _ _ #[.string s, .string h, .int .i64 p, .int .i64 n] (0, 0) _ x Tryz.underlying38 rfl (by kernel_rfl)
end Go.Proofs.YtmpeaoacaecgpaaGreatDoor.StoI
namespace Go.Proofs.YtmpeaoacaecgpaaGreatDoor.ajr
open Go.RowKit Base Base2 Regs iH mW ES
set_option linter.unusedSimpArgs false
set_option linter.unusedVariables false
def AB (w : World) (g : Nat) (cs : Array Value) : Prop := w.heap[g]? = some (.cells cs 118 (0, 0))
section
variable {w w' : World} {g : Nat} {cs : Array Value}
theorem AB.lt (h : AB w g cs) : g < w.heap.size := (Array.getElem?_eq_some_iff.1 h).1
theorem AB.below (h : AB w g cs) (hb : Below w.heap.size w w') : AB w' g cs := (hb.block g h.lt).trans h
theorem AB.load (h : AB w g cs) (hs : cs.size = 6) : (loadVar 118 ⟨g, 0, none⟩).run Tryz.prog w = .ok (.agg cs) w :=
 run_loadVar_row w g _ _ cs (0, 0) _ h Tryz.underlying118 rfl (by rw [hs]; kernel_rfl)
theorem AB.set (h : AB w g cs) (i : Nat) (x : Value) : AB (w.setCell ⟨g, i, none⟩ x) g (cs.setIfInBounds i x) := heap_setCell_same w g i _ _ x h
theorem AB.Rx (h : AB w g cs) {k i : Nat} (x : Value) (hk : g ≠ k) : AB (w.setCell ⟨k, i, none⟩ x) g cs := (heap_setCell_other w ⟨k, i, none⟩ g x hk).trans h
theorem AB.row (h : AB w g cs) (ds : Array Value) : AB (w.setRow g ds) g ds := setRow_heap w g cs ds _ (0, 0) h
theorem AB.facts {a b c d e f : Value} (h : AB w g #[a, b, c, d, e, f]) : w.cell? ⟨g, 0, none⟩ = some a ∧ w.cell? ⟨g, 1, none⟩ = some b ∧ w.cell? ⟨g, 2, none⟩ = some c ∧ w.cell? ⟨g, 3, none⟩ = some d ∧ w.cell? ⟨g, 4, none⟩ = some e ∧ w.cell? ⟨g, 5, none⟩ = some f :=
 ⟨cell_of_row w g 0 _ _ _ h, cell_of_row w g 1 _ _ _ h, cell_of_row w g 2 _ _ _ h, cell_of_row w g 3 _ _ _ h, cell_of_row w g 4 _ _ _ h, cell_of_row w g 5 _ _ _ h⟩
theorem AB.thaw (h : AB w g cs) : w.frozen? ⟨g, 0, none⟩ = false ∧ w.frozen? ⟨g, 1, none⟩ = false ∧ w.frozen? ⟨g, 2, none⟩ = false ∧ w.frozen? ⟨g, 3, none⟩ = false ∧ w.frozen? ⟨g, 4, none⟩ = false ∧ w.frozen? ⟨g, 5, none⟩ = false :=
 ⟨frozen_of_row w g 0 _ _ h, frozen_of_row w g 1 _ _ h, frozen_of_row w g 2 _ _ h, frozen_of_row w g 3 _ _ h, frozen_of_row w g 4 _ _ h, frozen_of_row w g 5 _ _ h⟩
theorem sG {ops : Array Oper} {rest : List Oper} {o : Oper} {a : Act} {Q : Exit → Act → World → Prop} (hU : AB w g cs) (ds : Array Value) (hs : cs.size = 6) (hs2 : ds.size = 6) (h1 : ds.all (·.oneCell') = true) (x y : Operand) (ho : o.op = .store 118 x y) (hgd : o.guard = none)
  (hx : a.eval x = .pointer (some ⟨g, 0, none⟩)) (hy : a.eval y = .agg ds)
  (hh : wpList Tryz.prog ops Q rest (a.put o.dst undef) (w.setRow g ds)) : wpList Tryz.prog ops Q (o :: rest) a w :=
 wpList_store_row hgd 118 x y ho g ds hx hy 118 cs hU (by rw [hs2]; kernel_rfl) (by rw [hs, hs2]) h1 hh
theorem abo {fn : Func} {a : Tmp} (h : fn.results = #[.cell a 118]) (hU : AB w g cs) (hs : cs.size = 6) (tmps : Array Value) (h2 : tmps.getD a undef = .pointer (some ⟨g, 0, none⟩)) :
  (results fn tmps).run Tryz.prog w = .ok (.agg cs) w :=
 results_cell_row h tmps w g _ cs (0, 0) _ h2 hU Tryz.underlying118 rfl (by rw [hs]; kernel_rfl)
end
section
variable {z : Int} {n f l : Nat} {K : List UInt8} {w : World} {gf gl : Nat} {L : Nat → Bool} {t : Nat → Value} {wr wq : World} {x : Value}
end
end Go.Proofs.YtmpeaoacaecgpaaGreatDoor.ajr
namespace Go.Proofs.YtmpeaoacaecgpaaGreatDoor.WV
open Go.RowKit Base Base2 PrsP mW tK yx
def wG (o : Bool) (t : List UInt8) : Int := if o = true ∧ t = [98, 108, 97, 110, 107] then 3 else if o = true ∧ t = [115, 114, 99, 100, 111, 99] then 4 else 5
def qI (u : U) : Int := if u.au = [100, 97, 116, 97] then 0 else if u.au = [98, 108, 111, 98] then 1 else if u.au = [102, 105, 108, 101] then 2 else if u.au = [97, 98, 111, 117, 116] then wG u.opq u.txt else if u.au = [106, 97, 118, 97, 115, 99, 114, 105, 112, 116] then 6 else 7
theorem ag3 (u : U) (A : Option Addr) (n c : Nat) (w : World) : Calls Tryz.prog 110 #[.agg (cells u (.slice A n c))] w fun e w' => e = .returned (.int .i64 (wG u.opq u.txt)) ∧ Below w.heap.size w w' := by
 obtain ⟨z, hz⟩ : ∃ z, z = wG u.opq u.txt := ⟨_, rfl⟩
 rw [← hz]
 have HZ := hid hz
 clear hz
 cases ho : u.opq with
 | false =>
  have HE : Hid (z = 5) := by show _ = _; rw [HZ.out]; unfold wG; simp [ho]
  go_enter Tryz.func110, Tryz.ntmps110
  go_upto_region 1 with (fail)
  generalize hw : World.alloc w _ = w1
  have h1 : UB w1 w.heap.size u (.slice A n c) ∧ Below w.heap.size w w1 := by
   subst hw
   exact laid1 w _ _
  clear hw
  obtain ⟨d0, d1, d2, d3, d4, d5, d6, d7, d8, d9, d10, d11, d12⟩ := h1.1.facts
  have HB := hid h1.2
  clear h1
  rw [ho] at d6
  clear ho
  go_wp2
  go_ret
  exact ⟨by rw [HE.out]; first | done | rfl, HB.out⟩
 | true =>
  by_cases h0 : u.txt = [98, 108, 97, 110, 107]
  ·
   have Z9 : ((strOf u.txt).toList == [98, 108, 97, 110, 107]) = true := by rw [aK, h0]; first | done | rfl
   have aac : (strOf u.txt).toList = [98, 108, 97, 110, 107] := by rw [aK, h0]; first | done | rfl
   have HE : Hid (z = 3) := by show _ = _; rw [HZ.out]; unfold wG; simp [ho, h0]
   clear h0
   go_enter Tryz.func110, Tryz.ntmps110
   go_upto_region 1 with (fail)
   generalize hw : World.alloc w _ = w1
   have h1 : UB w1 w.heap.size u (.slice A n c) ∧ Below w.heap.size w w1 := by
    subst hw
    exact laid1 w _ _
   clear hw
   obtain ⟨d0, d1, d2, d3, d4, d5, d6, d7, d8, d9, d10, d11, d12⟩ := h1.1.facts
   have HB := hid h1.2
   clear h1
   rw [ho] at d6
   clear ho
   go_wp2
   go_ret
   exact ⟨by rw [HE.out]; first | done | rfl, HB.out⟩
  ·
   have Z9 : ((strOf u.txt).toList == [98, 108, 97, 110, 107]) = false := by rw [aK, beq_eq_false_iff_ne]; exact h0
   have aac : ¬ (strOf u.txt).toList = [98, 108, 97, 110, 107] := by rw [aK]; exact h0
   by_cases h1 : u.txt = [115, 114, 99, 100, 111, 99]
   ·
    have e0h1 : ((strOf u.txt).toList == [115, 114, 99, 100, 111, 99]) = true := by rw [aK, h1]; first | done | rfl
    have e1h1 : (strOf u.txt).toList = [115, 114, 99, 100, 111, 99] := by rw [aK, h1]; first | done | rfl
    have HE : Hid (z = 4) := by show _ = _; rw [HZ.out]; unfold wG; simp [ho, h1]
    clear h0 h1
    go_enter Tryz.func110, Tryz.ntmps110
    go_upto_region 1 with (fail)
    generalize hw : World.alloc w _ = w1
    have h1 : UB w1 w.heap.size u (.slice A n c) ∧ Below w.heap.size w w1 := by
     subst hw
     exact laid1 w _ _
    clear hw
    obtain ⟨d0, d1, d2, d3, d4, d5, d6, d7, d8, d9, d10, d11, d12⟩ := h1.1.facts
    have HB := hid h1.2
    clear h1
    rw [ho] at d6
    clear ho
    go_wp2
    go_ret
    exact ⟨by rw [HE.out]; first | done | rfl, HB.out⟩
   ·
    have e0h1 : ((strOf u.txt).toList == [115, 114, 99, 100, 111, 99]) = false := by rw [aK, beq_eq_false_iff_ne]; exact h1
    have e1h1 : ¬ (strOf u.txt).toList = [115, 114, 99, 100, 111, 99] := by rw [aK]; exact h1
    have HE : Hid (z = 5) := by show _ = _; rw [HZ.out]; unfold wG; simp [ho, h0, h1]
    clear h0 h1
    go_enter Tryz.func110, Tryz.ntmps110
    go_upto_region 1 with (fail)
    generalize hw : World.alloc w _ = w1
    have h1 : UB w1 w.heap.size u (.slice A n c) ∧ Below w.heap.size w w1 := by
     subst hw
     exact laid1 w _ _
    clear hw
    obtain ⟨d0, d1, d2, d3, d4, d5, d6, d7, d8, d9, d10, d11, d12⟩ := h1.1.facts
    have HB := hid h1.2
    clear h1
    rw [ho] at d6
    clear ho
    go_wp2
    go_ret
    exact ⟨by rw [HE.out]; first | done | rfl, HB.out⟩
theorem KY (u : U) (A : Option Addr) (n c : Nat) (w : World) : Calls Tryz.prog 48 #[.agg (cells u (.slice A n c))] w fun e w' => e = .returned (.int .i64 (qI u)) ∧ Below w.heap.size w w' := by
 have HAB := hid (fun w => ag3 u A n c w)
 obtain ⟨z, hz⟩ : ∃ z, z = qI u := ⟨_, rfl⟩
 rw [← hz]
 have HZ := hid hz
 clear hz
 by_cases h0 : u.au = [100, 97, 116, 97]
 ·
  have Z9 : ((strOf u.au).toList == [100, 97, 116, 97]) = true := by rw [aK, h0]; first | done | rfl
  have aac : (strOf u.au).toList = [100, 97, 116, 97] := by rw [aK, h0]; first | done | rfl
  have HE : Hid (z = 0) := by show _ = _; rw [HZ.out]; unfold qI; simp [h0]
  clear h0
  go_enter Tryz.func48, Tryz.ntmps48
  go_upto_region 1 with (fail)
  generalize hw : World.alloc w _ = w1
  have h1 : UB w1 w.heap.size u (.slice A n c) ∧ Below w.heap.size w w1 := by
   subst hw
   exact laid1 w _ _
  clear hw
  obtain ⟨d0, d1, d2, d3, d4, d5, d6, d7, d8, d9, d10, d11, d12⟩ := h1.1.facts
  have HB := hid h1.2
  clear h1
  go_wp2
  go_ret
  exact ⟨by rw [HE.out]; first | done | rfl, HB.out⟩
 ·
  have Z9 : ((strOf u.au).toList == [100, 97, 116, 97]) = false := by rw [aK, beq_eq_false_iff_ne]; exact h0
  have aac : ¬ (strOf u.au).toList = [100, 97, 116, 97] := by rw [aK]; exact h0
  by_cases h1 : u.au = [98, 108, 111, 98]
  ·
   have e0h1 : ((strOf u.au).toList == [98, 108, 111, 98]) = true := by rw [aK, h1]; first | done | rfl
   have e1h1 : (strOf u.au).toList = [98, 108, 111, 98] := by rw [aK, h1]; first | done | rfl
   have HE : Hid (z = 1) := by show _ = _; rw [HZ.out]; unfold qI; simp [h0, h1]
   clear h0 h1
   go_enter Tryz.func48, Tryz.ntmps48
   go_upto_region 1 with (fail)
   generalize hw : World.alloc w _ = w1
   have h1 : UB w1 w.heap.size u (.slice A n c) ∧ Below w.heap.size w w1 := by
    subst hw
    exact laid1 w _ _
   clear hw
   obtain ⟨d0, d1, d2, d3, d4, d5, d6, d7, d8, d9, d10, d11, d12⟩ := h1.1.facts
   have HB := hid h1.2
   clear h1
   go_wp2
   go_ret
   exact ⟨by rw [HE.out]; first | done | rfl, HB.out⟩
  ·
   have e0h1 : ((strOf u.au).toList == [98, 108, 111, 98]) = false := by rw [aK, beq_eq_false_iff_ne]; exact h1
   have e1h1 : ¬ (strOf u.au).toList = [98, 108, 111, 98] := by rw [aK]; exact h1
   by_cases h2 : u.au = [102, 105, 108, 101]
   ·
        have e0h2 : ((strOf u.au).toList == [102, 105, 108, 101]) = true := by rw [aK, h2]; first | done | rfl
        have e1h2 : (strOf u.au).toList = [102, 105, 108, 101] := by rw [aK, h2]; first | done | rfl
        have HE : Hid (z = 2) := by show _ = _; rw [HZ.out]; unfold qI; simp [h0, h1, h2]
        clear h0 h1 h2
        go_enter Tryz.func48, Tryz.ntmps48
        go_upto_region 1 with (fail)
        generalize hw : World.alloc w _ = w1
        have h1 : UB w1 w.heap.size u (.slice A n c) ∧ Below w.heap.size w w1 := by
         subst hw
         exact laid1 w _ _
        clear hw
        obtain ⟨d0, d1, d2, d3, d4, d5, d6, d7, d8, d9, d10, d11, d12⟩ := h1.1.facts
        have HB := hid h1.2
        clear h1
        go_wp2
        go_ret
        exact ⟨by rw [HE.out]; first | done | rfl, HB.out⟩
   ·
        have e0h2 : ((strOf u.au).toList == [102, 105, 108, 101]) = false := by rw [aK, beq_eq_false_iff_ne]; exact h2
        have e1h2 : ¬ (strOf u.au).toList = [102, 105, 108, 101] := by rw [aK]; exact h2
        by_cases h3 : u.au = [97, 98, 111, 117, 116]
        ·
         have e0h3 : ((strOf u.au).toList == [97, 98, 111, 117, 116]) = true := by rw [aK, h3]; first | done | rfl
         have e1h3 : (strOf u.au).toList = [97, 98, 111, 117, 116] := by rw [aK, h3]; first | done | rfl
         have HE : Hid (z = wG u.opq u.txt) := by show _ = _; rw [HZ.out]; unfold qI; simp [h0, h1, h2, h3]
         clear h0 h1 h2 h3
         go_enter Tryz.func48, Tryz.ntmps48
         go_upto_region 1 with (fail)
         generalize hw : World.alloc w _ = w1
         have h1 : UB w1 w.heap.size u (.slice A n c) ∧ Below w.heap.size w w1 := by
          subst hw
          exact laid1 w _ _
         clear hw
         obtain ⟨d0, d1, d2, d3, d4, d5, d6, d7, d8, d9, d10, d11, d12⟩ := h1.1.facts
         have HB := hid h1.2
         clear h1
         go_wp2_with fail
         clear d0 d1 d2 d3 d4 d5 d6 d7 d8 d9 d10 d11 d12
         refine (HAB.out _).mono ?_
         rintro e w2 ⟨rfl, hb2⟩
         have HB2 := hid (bel HB.out hb2)
         clear hb2
         go_wp2
         go_ret
         exact ⟨by rw [HE.out]; first | done | rfl, HB2.out⟩
        ·
         have e0h3 : ((strOf u.au).toList == [97, 98, 111, 117, 116]) = false := by rw [aK, beq_eq_false_iff_ne]; exact h3
         have e1h3 : ¬ (strOf u.au).toList = [97, 98, 111, 117, 116] := by rw [aK]; exact h3
         by_cases h4 : u.au = [106, 97, 118, 97, 115, 99, 114, 105, 112, 116]
         ·
          have e0h4 : ((strOf u.au).toList == [106, 97, 118, 97, 115, 99, 114, 105, 112, 116]) = true := by rw [aK, h4]; first | done | rfl
          have e1h4 : (strOf u.au).toList = [106, 97, 118, 97, 115, 99, 114, 105, 112, 116] := by rw [aK, h4]; first | done | rfl
          have HE : Hid (z = 6) := by show _ = _; rw [HZ.out]; unfold qI; simp [h0, h1, h2, h3, h4]
          clear h0 h1 h2 h3 h4
          go_enter Tryz.func48, Tryz.ntmps48
          go_upto_region 1 with (fail)
          generalize hw : World.alloc w _ = w1
          have h1 : UB w1 w.heap.size u (.slice A n c) ∧ Below w.heap.size w w1 := by
           subst hw
           exact laid1 w _ _
          clear hw
          obtain ⟨d0, d1, d2, d3, d4, d5, d6, d7, d8, d9, d10, d11, d12⟩ := h1.1.facts
          have HB := hid h1.2
          clear h1
          go_wp2
          go_ret
          exact ⟨by rw [HE.out]; first | done | rfl, HB.out⟩
         ·
          have e0h4 : ((strOf u.au).toList == [106, 97, 118, 97, 115, 99, 114, 105, 112, 116]) = false := by rw [aK, beq_eq_false_iff_ne]; exact h4
          have e1h4 : ¬ (strOf u.au).toList = [106, 97, 118, 97, 115, 99, 114, 105, 112, 116] := by rw [aK]; exact h4
          have HE : Hid (z = 7) := by show _ = _; rw [HZ.out]; unfold qI; simp [h0, h1, h2, h3, h4]
          clear h0 h1 h2 h3 h4
          go_enter Tryz.func48, Tryz.ntmps48
          go_upto_region 1 with (fail)
          generalize hw : World.alloc w _ = w1
          have h1 : UB w1 w.heap.size u (.slice A n c) ∧ Below w.heap.size w w1 := by
           subst hw
           exact laid1 w _ _
          clear hw
          obtain ⟨d0, d1, d2, d3, d4, d5, d6, d7, d8, d9, d10, d11, d12⟩ := h1.1.facts
          have HB := hid h1.2
          clear h1
          go_wp2
          go_ret
          exact ⟨by rw [HE.out]; first | done | rfl, HB.out⟩
end Go.Proofs.YtmpeaoacaecgpaaGreatDoor.WV
namespace Go.Proofs.YtmpeaoacaecgpaaGreatDoor.FetC
open Go.RowKit Base Base2 Regs Kq mW PrsP ES uw xH WX ajr TL
set_option linter.unusedSimpArgs false
set_option linter.unusedVariables false
theorem aaj (li sp : Value) (T : List UInt8) (u : U) (s h : ByteArray) (p n : Int) (w : World)
  (HP : Hid (∀ w', Below w.heap.size w w' → Calls Tryz.prog 16 #[.string (strOf T), .pointer none] w' fun e w'' => ∃ A n' c, e = .returned (.tuple #[.agg (cells u (.slice A n' c)), .int .i64 0]) ∧ dR w'' u A n' c ∧ Below w'.heap.size w' w''))
  (hz : WV.qI u = 3) :
  Calls Tryz.prog 203 #[li, .string (strOf T), .agg #[.string s, .string h, .int .i64 p, .int .i64 n], sp] w fun e w' => e = .returned (.agg #[.int .i64 3, .int .i64 200, .int .i64 0, .int .i64 0, .string ⟨#[116, 101, 120, 116, 47, 104, 116, 109, 108, 59, 99, 104, 97, 114, 115, 101, 116, 61, 117, 116, 102, 45, 56]⟩, .slice none 0 0]) ∧ Below w.heap.size w w' := by
 have HZ := hid hz
 clear hz
 go_enter Tryz.func203, Tryz.ntmps203
 go_upto_region 1 with (fail)
 generalize bI : World.alloc (World.alloc w _) _ = v1
 have h1_ : OB v1 w.heap.size s h p n ∧ AB v1 (w.heap.size + 1) #[.int .i64 0, .int .i64 0, .int .i64 0, .int .i64 0, .string ⟨#[]⟩, .slice none 0 0] ∧ Below w.heap.size w v1 := by
  subst bI
  exact laid2 w _ _ _ _
 clear bI
 have ZE := hid h1_.1
 have Po := hid h1_.2.1
 have HB1 := hid h1_.2.2
 clear h1_
 go_wp2_with fail
 refine (HP.out _ HB1.out).mono ?_
 rintro e v2 ⟨A, n', c, rfl, hpt, hb2⟩
 have XO2 := hid (ZE.out.below hb2)
 have Pq := hid (Po.out.below hb2)
 have HB2 := hid (bel HB1.out hb2)
 have Zc := hid hpt
 clear ZE Po HB1 hb2 hpt
 rw [show Value.agg (cells u (.slice A n' c)) = .agg #[.string (strOf u.au), .string (strOf u.usr), .string (strOf u.pwd), .string (strOf u.hst), .bool u.hh, .int .i64 u.port, .bool u.opq, .string (strOf u.txt), .slice A n' c, .bool u.hq, .bool u.hf, .string (strOf u.dY), .string (strOf u.fB)] from rfl]
 go_upto_region 4 with (fail)
 generalize bI : World.alloc v2 _ = v3
 have h3_ : UB v3 v2.heap.size u (.slice A n' c) ∧ Below v2.heap.size v2 v3 := by
  subst bI
  exact laid1 v2 _ _
 clear bI
 have XO3 := hid (XO2.out.below h3_.2)
 have NZ := hid (Pq.out.below h3_.2)
 have HB3 := hid (bel HB2.out h3_.2)
 have Zd := hid (dR.below Zc.out h3_.2)
 have ZG := hid h3_.1
 clear h3_ XO2 Pq HB2 Zc
 have SA := hid ZG.out.load
 go_wp2_with (refine fJ SA.out (.tmp 9) rfl rfl rfl ?_)
 refine (WV.KY u A n' c _).mono ?_
 rw [HZ.out]
 rintro e v4 ⟨rfl, hb4⟩
 have XO4 := hid (XO3.out.below hb4)
 have Pv := hid (NZ.out.below hb4)
 have HB4 := hid (bel HB3.out hb4)
 have Ze := hid (dR.below Zd.out hb4)
 have XU4 := hid (ZG.out.below hb4)
 clear XO3 NZ HB3 Zd ZG SA hb4
 go_upto_region 5 with (fail)
 generalize bI : World.alloc v4 _ = v5
 have h5_ : AB v5 v4.heap.size #[.int .i64 3, .int .i64 0, .int .i64 0, .int .i64 0, .string ⟨#[]⟩, .slice none 0 0] ∧ Below v4.heap.size v4 v5 := by
  subst bI
  exact laid1 v4 _ _
 clear bI
 have XO5 := hid (XO4.out.below h5_.2)
 have ZF := hid (Pv.out.below h5_.2)
 have iG := hid (bel HB4.out h5_.2)
 have acF := hid (dR.below Ze.out h5_.2)
 have XU5 := hid (XU4.out.below h5_.2)
 have Xc := hid h5_.1
 have X7 : Hid (w.heap.size + 1 < v4.heap.size) := Pv.out.lt
 clear h5_ XO4 Pv HB4 Ze XU4
 obtain ⟨a0, a1, a2, a3, a4, a5⟩ := Xc.out.facts
 obtain ⟨f0, f1, f2, f3, f4, f5⟩ := Xc.out.thaw
 go_upto_region 14 with (fail)
 have hx : AB ((v5.setCell ⟨v4.heap.size, 1, none⟩ (.int .i64 200)).setCell ⟨v4.heap.size, 4, none⟩ (.string ⟨#[116, 101, 120, 116, 47, 104, 116, 109, 108, 59, 99, 104, 97, 114, 115, 101, 116, 61, 117, 116, 102, 45, 56]⟩)) v4.heap.size #[.int .i64 3, .int .i64 200, .int .i64 0, .int .i64 0, .string ⟨#[116, 101, 120, 116, 47, 104, 116, 109, 108, 59, 99, 104, 97, 114, 115, 101, 116, 61, 117, 116, 102, 45, 56]⟩, .slice none 0 0] := (Xc.out.set 1 _).set 4 _
 have hr : AB ((v5.setCell ⟨v4.heap.size, 1, none⟩ (.int .i64 200)).setCell ⟨v4.heap.size, 4, none⟩ (.string ⟨#[116, 101, 120, 116, 47, 104, 116, 109, 108, 59, 99, 104, 97, 114, 115, 101, 116, 61, 117, 116, 102, 45, 56]⟩)) (w.heap.size + 1) #[.int .i64 0, .int .i64 0, .int .i64 0, .int .i64 0, .string ⟨#[]⟩, .slice none 0 0] := (ZF.out.Rx _ (by have := X7.out; omega)).Rx _ (by have := X7.out; omega)
 have hb : Below w.heap.size w ((v5.setCell ⟨v4.heap.size, 1, none⟩ (.int .i64 200)).setCell ⟨v4.heap.size, 4, none⟩ (.string ⟨#[116, 101, 120, 116, 47, 104, 116, 109, 108, 59, 99, 104, 97, 114, 115, 101, 116, 61, 117, 116, 102, 45, 56]⟩)) := (iG.out.setCell (p := ⟨v4.heap.size, 1, none⟩) (by have := X7.out; show w.heap.size ≤ v4.heap.size; omega) _).setCell (p := ⟨v4.heap.size, 4, none⟩) (by have := X7.out; show w.heap.size ≤ v4.heap.size; omega) _
 generalize (v5.setCell _ _).setCell _ _ = v6 at hx hr hb ⊢
 have XA6 := hid hx
 have dB := hid hr
 have nN := hid hb
 clear hx hr hb Xc ZF iG XO5 XU5 acF a0 a1 a2 a3 a4 a5 f0 f1 f2 f3 f4 f5
 have Uy := hid (XA6.out.load rfl)
 go_wp2_with (first | refine fJ Uy.out (.tmp 11) rfl rfl rfl ?_ | refine sG dB.out #[.int .i64 3, .int .i64 200, .int .i64 0, .int .i64 0, .string ⟨#[116, 101, 120, 116, 47, 104, 116, 109, 108, 59, 99, 104, 97, 114, 115, 101, 116, 61, 117, 116, 102, 45, 56]⟩, .slice none 0 0] rfl rfl (by simp [Value.oneCell']) (.tmp 8) (.tmp 50) rfl rfl rfl rfl ?_)
 try simp only [Exit.inBlock, Exit.then]
 exact bodyPost_ret (w := World.setRow v6 (w.heap.size + 1) #[.int .i64 3, .int .i64 200, .int .i64 0, .int .i64 0, .string ⟨#[116, 101, 120, 116, 47, 104, 116, 109, 108, 59, 99, 104, 97, 114, 115, 101, 116, 61, 117, 116, 102, 45, 56]⟩, .slice none 0 0]) (abo rfl (AB.row dB.out _) rfl _ rfl) rfl ⟨rfl, below_setRow nN.out (Nat.le_succ w.heap.size) _⟩
end Go.Proofs.YtmpeaoacaecgpaaGreatDoor.FetC
namespace Go.Proofs.YtmpeaoacaecgpaaGreatDoor.StkF
open Go.RowKit Base Base2 Regs Kq mW PrsP ES StoI ajr FetC TL TK
set_option linter.unusedSimpArgs false
set_option linter.unusedVariables false
theorem Yu {w : World} (pv : Option Addr) (sp : Value) (T s h : ByteArray) (p n : Int) (Q : Array Value → World → Prop) (HQ : ∀ (cs : Array Value) (a : World) (g : Nat) (ds : Array Value), Q cs a → w.heap.size ≤ g → g < w.heap.size + 2 → Q cs (a.setRow g ds))
  (HF : Hid (∀ w', Below w.heap.size w w' → w.heap.size + 2 ≤ w'.heap.size → Calls Tryz.prog 203 #[.iface 103 (.pointer pv), .string T, .agg #[.string s, .string h, .int .i64 p, .int .i64 n], sp] w' fun e w'' => ∃ cs, e = .returned (.agg cs) ∧ cs.size = 6 ∧ cs.all (·.oneCell') = true ∧ Below w'.heap.size w' w'' ∧ Q cs w'')) :
  Calls Tryz.prog 98 #[.pointer pv, .string T, .agg #[.string s, .string h, .int .i64 p, .int .i64 n], sp] w fun e w' => ∃ cs, e = .returned (.agg cs) ∧ cs.size = 6 ∧ Below w.heap.size w w' ∧ Q cs w' := by
 go_enter Tryz.func98, Tryz.ntmps98
 go_upto_region 1 with (fail)
 generalize bI : World.alloc (World.alloc w _) _ = v1
 have h1_ : OB v1 w.heap.size s h p n ∧ AB v1 (w.heap.size + 1) #[.int .i64 0, .int .i64 0, .int .i64 0, .int .i64 0, .string ⟨#[]⟩, .slice none 0 0] ∧ Below w.heap.size w v1 := by
  subst bI
  exact laid2 w _ _ _ _
 clear bI
 have ZE := hid h1_.1
 have Po := hid h1_.2.1
 have HB1 := hid h1_.2.2
 have BD : Hid (w.heap.size + 2 ≤ v1.heap.size) := h1_.2.1.lt
 clear h1_
 have pY := hid (nI ZE.out)
 go_wp2_with (refine fJ pY.out (.tmp 6) rfl rfl rfl ?_)
 refine (HF.out _ HB1.out BD.out).mono ?_
 rintro e v2 ⟨cs, rfl, hcs, hone, hb2, hq⟩
 have Pq := hid (Po.out.below hb2)
 have HB2 := hid (bel HB1.out hb2)
 have HQ2 := hid hq
 have HC2 := hid hcs
 have xE := hid hone
 clear hb2 hq hcs hone ZE Po HB1 pY
 go_wp2_with (refine sG Pq.out cs rfl HC2.out xE.out (.tmp 8) (.tmp 14) rfl rfl rfl rfl ?_)
 try simp only [Exit.inBlock, Exit.then]
 exact bodyPost_ret (w := World.setRow v2 (w.heap.size + 1) cs) (abo rfl (AB.row Pq.out _) HC2.out _ rfl) rfl ⟨cs, rfl, HC2.out, below_setRow HB2.out (Nat.le_succ w.heap.size) _, HQ _ _ _ _ HQ2.out (Nat.le_succ _) (Nat.lt_succ_self _)⟩
end Go.Proofs.YtmpeaoacaecgpaaGreatDoor.StkF
namespace Go.Proofs.YtmpeaoacaecgpaaGreatDoor.sW
open Go.RowKit Base
def spl (b : UInt8) : List UInt8 → List (List UInt8)
 | [] => [[]]
 | c :: L => if c = b then [] :: spl b L else match spl b L with
  | [] => [[c]]
  | x :: r => (c :: x) :: r
theorem Ee (b : UInt8) : ∀ L : List UInt8, spl b L ≠ []
 | [] => by simp [spl]
 | c :: L => by
  unfold spl
  split
  ·simp
  ·split <;> simp
theorem RI (b : UInt8) (L : List UInt8) : spl b (b :: L) = [] :: spl b L := by rw [spl, if_pos rfl]
theorem JB (b c : UInt8) (L : List UInt8) (h : c ≠ b) : spl b (c :: L) = match spl b L with
  | [] => [[c]]
  | x :: r => (c :: x) :: r := by rw [spl, if_neg h]
theorem Np (b : UInt8) : ∀ L : List UInt8, spl b (L ++ [b]) = spl b L ++ [[]]
 | [] => by simp [spl]
 | c :: L => by
  rw [List.cons_append, spl, spl, Np b L]
  split
  ·rfl
  ·have := Ee b L
   cases h : spl b L with
   | nil => exact absurd h this
   | cons x r => rfl
theorem Ef (b d : UInt8) (hd : d ≠ b) : ∀ L : List UInt8, ∃ xs x, spl b L = xs ++ [x] ∧ spl b (L ++ [d]) = xs ++ [x ++ [d]]
 | [] => ⟨[], [], rfl, by simp [spl, hd]⟩
 | c :: L => by
  obtain ⟨xs, x, h1, h2⟩ := Ef b d hd L
  rw [List.cons_append, spl, spl, h1, h2]
  split
  ·exact ⟨[] :: xs, x, rfl, rfl⟩
  ·cases xs with
   | nil => exact ⟨[], c :: x, rfl, rfl⟩
   | cons y ys => exact ⟨(c :: y) :: ys, x, rfl, rfl⟩
theorem kD (b : UInt8) : ∀ L : List UInt8, (spl b L).length ≤ L.length + 1
 | [] => by simp [spl]
 | c :: L => by
  have ih := kD b L
  unfold spl
  split
  ·simp; omega
  ·split
   ·simp
   ·rename_i h
    rw [h] at ih
    simp at ih ⊢
    omega
theorem AO (b : UInt8) : ∀ (L : List UInt8), ∀ x ∈ spl b L, x.length ≤ L.length
 | [] => by simp [spl]
 | c :: L => by
  have ih := AO b L
  intro x hx
  unfold spl at hx
  split at hx
  ·rcases List.mem_cons.1 hx with rfl | hx
   ·simp
   ·have := ih x hx; simp; omega
  ·split at hx
   ·rename_i h
    simp at hx
    subst hx
    simp
   ·rename_i y r h
    rcases List.mem_cons.1 hx with rfl | hx
    ·have := ih y (by rw [h]; simp); simp; omega
    ·have := ih x (by rw [h]; simp [hx]); simp; omega
theorem OC (b : UInt8) : ∀ (L : List UInt8), ∀ x ∈ spl b L, ∀ d ∈ x, d ∈ L ∧ d ≠ b
 | [] => by simp [spl]
 | c :: L => by
  have ih := OC b L
  intro x hx d hd
  unfold spl at hx
  split at hx
  ·rcases List.mem_cons.1 hx with rfl | hx
   ·simp at hd
   ·have := ih x hx d hd; exact ⟨List.mem_cons_of_mem _ this.1, this.2⟩
  ·rename_i hc
   split at hx
   ·simp at hx
    subst hx
    simp at hd
    subst hd
    exact ⟨List.mem_cons_self, hc⟩
   ·rename_i y r h
    rcases List.mem_cons.1 hx with rfl | hx
    ·rcases List.mem_cons.1 hd with rfl | hd
     ·exact ⟨List.mem_cons_self, hc⟩
     ·have := ih y (by rw [h]; simp) d hd; exact ⟨List.mem_cons_of_mem _ this.1, this.2⟩
    ·have := ih x (by rw [h]; simp [hx]) d hd; exact ⟨List.mem_cons_of_mem _ this.1, this.2⟩
def glue (b : UInt8) (l : List (List UInt8)) : List UInt8 := l.flatMap fun x => b :: x
theorem yJ (b : UInt8) : ∀ L : List UInt8, glue b (spl b L) = b :: L
 | [] => by simp [spl, glue]
 | c :: L => by
  have ih := yJ b L
  unfold spl
  split
  ·rename_i h
   subst h
   rw [glue, List.flatMap_cons]
   show _ ++ glue c (spl c L) = _
   rw [ih]
   rfl
  ·split
   ·rename_i h
    exact absurd h (Ee b L)
   ·rename_i y r h
    rw [h] at ih
    simp only [glue, List.flatMap_cons, List.cons_append, List.cons.injEq, true_and] at ih ⊢
    rw [ih]
end Go.Proofs.YtmpeaoacaecgpaaGreatDoor.sW
namespace Go.Proofs.YtmpeaoacaecgpaaGreatDoor.yu
open Go.RowKit Base sW qh
def tH (x : List UInt8) (last : Bool) : Bool := decide (x ≠ [46]) && decide (x ≠ [46, 46]) && (decide (x ≠ []) || last)
def jO : List (List UInt8) → Bool
 | [] => true
 | x :: r => tH x r.isEmpty && jO r
def fine (L : List UInt8) : Bool := val L && decide (L.head? = some 47) && !L.contains 0 && jO (spl 47 (L.drop 1))
theorem aal (L : List UInt8) : fine L = true ↔ val L = true ∧ L.head? = some 47 ∧ L.contains 0 = false ∧ jO (spl 47 (L.drop 1)) = true := by
 unfold fine
 simp only [Bool.and_eq_true, decide_eq_true_eq, Bool.not_eq_true', and_assoc]
theorem QS : ∀ (l : List (List UInt8)) (k : Nat) (h : k < l.length), jO (l.drop k) = (tH l[k] (decide (k + 1 = l.length)) && jO (l.drop (k + 1))) := by
 intro l k h
 rw [List.drop_eq_getElem_cons h, jO]
 congr 2
 rw [Bool.eq_iff_iff]
 simp only [List.isEmpty_iff, List.drop_eq_nil_iff, decide_eq_true_eq]
 omega
theorem KZ : ∀ {l : List (List UInt8)}, jO l = true → ∀ x ∈ l, x ≠ [46] ∧ x ≠ [46, 46]
 | [], _ => by simp
 | y :: r, h => by
  simp only [jO, tH, Bool.and_eq_true, Bool.or_eq_true, decide_eq_true_eq] at h
  intro x hx
  rcases List.mem_cons.1 hx with rfl | hx
  ·exact h.1.1
  ·exact KZ h.2 x hx
end Go.Proofs.YtmpeaoacaecgpaaGreatDoor.yu
namespace Go.Proofs.YtmpeaoacaecgpaaGreatDoor.Sls
open Go.RowKit Base Base2 Base3 sW
open Go.Proofs.YtmpeaoacaecgpaaGreatDoor.pO (Max lZ)
theorem take_snoc {α : Type} (l : List α) (k : Nat) (h : k < l.length) : l.take (k + 1) = l.take k ++ [l[k]] := List.take_succ_eq_append_getElem h
theorem yO {c d : UInt8} (h : c ≠ d) : ((c.toNat : Int) == (d.toNat : Int)) = false := by
 have : c.toNat ≠ d.toNat := fun e => h (UInt8.toNat_inj.1 e)
 simp; omega
theorem pq : (Tryz.prog.info? 9).map (fun i => (i.zero, i.size, i.bytes)) = some (some (.string ByteArray.empty), 1, 16) := by kernel_rfl
theorem ext_mid (s : ByteArray) (a b : Nat) : s.extract a b = strOf ((s.data.toList.take b).drop a) := by
 apply ByteArray.ext
 apply Array.ext'
 rw [ByteArray.data_extract]
 simp only [strOf, Array.toList_extract, List.extract_eq_take_drop]
 rw [List.drop_take]
def Gj (w : World) (l : List (List UInt8)) (e : Ending) (w' : World) : Prop := ∃ v, e = .returned v ∧ w'.ownsRow w.heap.size 9 1 v l.length ((l.map strOf).map Value.string) ∧ Below w.heap.size w w'
theorem abH (s : ByteArray) (w : World) (hs : s.size ≤ 1073741824) (hM : Max w) : Calls Tryz.prog 105 #[.string s, .string ⟨#[47]⟩] w (pO.Read w (spl 47 s.data.toList)) :=
 lZ 47 (spl 47) rfl (RI 47) (JB 47) s w hs hM
theorem alO (b : UInt8) (L : List UInt8) : decide (0 ≤ Lib.indexByte L b) = L.contains b := by
 have hge := Lib.indexByte_ge L b
 by_cases h : Lib.indexByte L b = -1
 ·have hn := Lib.indexByte_none h
  rw [decide_eq_false (by omega)]
  cases e : L.contains b with
  | false => rfl
  | true =>
   have hm : b ∈ L := by simpa using e
   obtain ⟨j, hj, he⟩ := List.getElem_of_mem hm
   exact absurd (List.getElem?_eq_some_iff.2 ⟨hj, he⟩) (hn j)
 ·obtain ⟨o, ho⟩ : ∃ o : Nat, Lib.indexByte L b = o := ⟨(Lib.indexByte L b).toNat, by omega⟩
  have hs := (Lib.indexByte_some ho).1
  rw [decide_eq_true (by omega)]
  obtain ⟨hj, he⟩ := List.getElem?_eq_some_iff.1 hs
  symm
  simpa using (show b ∈ L by rw [← he]; exact List.getElem_mem _)
theorem FN (b : UInt8) (s : ByteArray) (w : World) : Calls Tryz.prog 104 #[.string s, .string ⟨#[b]⟩] w fun e w' => e = .returned (.bool (s.data.toList.contains b)) ∧ w = w' := by
 refine (Tryz.strings_Contains_one s b w).mono ?_
 rintro e w' ⟨rfl, rfl⟩
 exact ⟨ak (alO b _), rfl⟩
theorem vP (s : ByteArray) (w : World) (hs : s.size ≤ 900000) :
  Calls Tryz.prog 101 #[.string s, .int .u8 47] w (Gj w (spl 47 s.data.toList)) := by
 have hsl : s.data.toList.length = s.size := Array.length_toList
 obtain ⟨i0, hi, hz0, hz1, hz2⟩ := info_parts pq
 have HSL := hid hsl
 clear hsl
 obtain ⟨R, hR⟩ : ∃ R, R = spl 47 s.data.toList := ⟨_, rfl⟩
 have hrl : R.length ≤ s.size + 1 := by have := kD 47 s.data.toList; rw [← hR, HSL.out] at this; exact this
 rw [← hR]
 have HR := hid hR
 clear hR
 go_enter Tryz.func101, Tryz.ntmps101
 go_wp2
 go_loopw [5, 6, 7, 11] (fun vo vf _ vk wr => ∃ (k f : Nat) (xs : List (List UInt8)), k ≤ s.size + 1 ∧ f ≤ k ∧ xs.length ≤ k ∧ vk = .int .i64 (k : Int) ∧ vf = .int .i64 (f : Int) ∧ Hid (wr.ownsRow w.heap.size 9 1 vo xs.length ((xs.map strOf).map Value.string)) ∧ Hid (Below w.heap.size w wr) ∧ Hid (k ≤ s.size → spl 47 (s.data.toList.take k) = xs ++ [(s.data.toList.take k).drop f]) ∧ Hid (k = s.size + 1 → R = xs)) (fun _ _ _ vk _ => s.size + 1 - (intOf vk).toNat)
 case atStart => exact ⟨0, 0, [], Nat.zero_le _, Nat.le_refl _, Nat.le_refl _, rfl, rfl, World.ownsRow_nil _ _ _ _, Below.refl _ _, fun _ => rfl, fun h => absurd h (by omega)⟩
 case round =>
  obtain ⟨k, f, xs, hk1, hfk, hxk, rfl, rfl, HO, HB, HW, HE⟩ := hrel
  obtain ⟨m, hm⟩ : ∃ m, m = xs.length := ⟨_, rfl⟩
  rw [← hm] at hxk
  have HM := hid hm
  clear hm
  by_cases hlt : k < s.size + 1
  ·have HW2 : Hid (spl 47 (s.data.toList.take k) = xs ++ [(s.data.toList.take k).drop f]) := HW.out (by omega)
   clear HW HE
   obtain ⟨X, hX⟩ : ∃ X, X = s.extract f k := ⟨_, rfl⟩
   have hxe : s.extract f k = X := hX.symm
   have HX : Hid (X = strOf ((s.data.toList.take k).drop f)) := by show _ = _; rw [hX, ext_mid]
   have hfi : (f : Int) ≤ (k : Int) := by omega
   clear hX
   by_cases hks : k < s.size
   ·obtain ⟨c, hc⟩ : ∃ c, s[k] = c := ⟨_, rfl⟩
    have hkl : k < s.data.toList.length := by rw [HSL.out]; exact hks
    have hcl : s.data.toList[k] = c := hc
    have HS : Hid (s.data.toList.take (k + 1) = s.data.toList.take k ++ [c]) := by rw [← hcl]; exact take_snoc _ k hkl
    have HTL : Hid ((s.data.toList.take k).length = k) := by show _ = _; rw [List.length_take, HSL.out]; omega
    have q1 : ((k : Int) == (s.size : Int)) = false := by simp; omega
    have hki : (k : Int) ≤ (s.size : Int) := by omega
    clear hkl hcl
    by_cases h47 : c = 47
    ·have q2 : ((c.toNat : Int) == 47) = true := by rw [h47]; rfl
     have HN : Hid (spl 47 (s.data.toList.take (k + 1)) = (xs ++ [(s.data.toList.take k).drop f]) ++ [(s.data.toList.take (k + 1)).drop (k + 1)]) := by
      show _ = _
      rw [HS.out, h47, Np 47, HW2.out]
      congr 2
      rw [List.drop_eq_nil_of_le]
      rw [List.length_append, HTL.out]
      exact Nat.le_refl _
     have HFE : Hid (k + 1 = s.size + 1 → R = xs ++ [(s.data.toList.take k).drop f]) := fun h => absurd h (by omega)
     have hown := HO.out
     have hbel := HB.out
     rw [← HM.out] at hown
     clear h47
     go_wp2_with (at_builtin; refine aQ rfl _ _ 23 rfl w.heap.size 9 i0 (.string ByteArray.empty) 16 Tryz.underlying23 hi hz0 hz1 hz2 rfl _ m _ rfl hown hbel hbel.size [.string X] 1 rfl rfl (by intro u hu; simp at hu; subst hu; rfl) (by unfold maxLen; omega) (by omega) ?_)
     intro v7 w7 dU dA
     have Gg : Hid (w7.ownsRow w.heap.size 9 1 v7 (xs ++ [(s.data.toList.take k).drop f]).length (((xs ++ [(s.data.toList.take k).drop f]).map strOf).map Value.string)) := by
      show World.ownsRow _ _ _ _ _ _ _
      rw [List.length_append, List.map_append, List.map_append, ← HM.out]
      show World.ownsRow _ _ _ _ _ (m + 1) (_ ++ [Value.string (strOf ((s.data.toList.take k).drop f))])
      rw [← HX.out]
      simpa using dU
     have HY := hid dA
     clear hown hbel dU dA
     go_wp2
     go_roundw
     case rel => exact ⟨k + 1, k + 1, xs ++ [(s.data.toList.take k).drop f], by omega, Nat.le_refl _, by rw [List.length_append, ← HM.out]; show m + 1 ≤ _; omega, by go_num, by go_num, Gg, HY, fun _ => HN.out, HFE⟩
     case measure => simp [intOf]; omega
    ·have q2 : ((c.toNat : Int) == 47) = false := yO (d := 47) h47
     have HN : Hid (spl 47 (s.data.toList.take (k + 1)) = xs ++ [(s.data.toList.take (k + 1)).drop f]) := by
      show _ = _
      obtain ⟨xs', x', e1, e2⟩ := Ef 47 c h47 (s.data.toList.take k)
      have h3 := HW2.out.symm.trans e1
      obtain ⟨h4, h5⟩ := List.append_inj' h3 rfl
      have h5 : (s.data.toList.take k).drop f = x' := by simpa using h5
      rw [HS.out, e2, ← h4, ← h5, List.drop_append_of_le_length (by rw [HTL.out]; exact hfk)]
     have HFE : Hid (k + 1 = s.size + 1 → R = xs) := fun h => absurd h (by omega)
     clear h47
     go_wp2
     go_roundw
     case rel => exact ⟨k + 1, f, xs, by omega, by omega, by rw [← HM.out]; omega, by go_num, rfl, HO, HB, fun _ => HN.out, HFE⟩
     case measure => simp [intOf]; omega
   ·have hke : k = s.size := by omega
    have q1 : ((k : Int) == (s.size : Int)) = true := by simp; omega
    have hki : (k : Int) ≤ (s.size : Int) := by omega
    have HFE : Hid (k + 1 = s.size + 1 → R = xs ++ [(s.data.toList.take k).drop f]) := by
     intro _
     rw [← HW2.out, HR.out, List.take_of_length_le (by rw [HSL.out, hke]; exact Nat.le_refl _)]
    have HFW : Hid (k + 1 ≤ s.size → spl 47 (s.data.toList.take (k + 1)) = (xs ++ [(s.data.toList.take k).drop f]) ++ [(s.data.toList.take (k + 1)).drop (k + 1)]) := fun h => absurd h (by omega)
    have hown := HO.out
    have hbel := HB.out
    rw [← HM.out] at hown
    clear hke
    go_wp2_with (at_builtin; refine aQ rfl _ _ 23 rfl w.heap.size 9 i0 (.string ByteArray.empty) 16 Tryz.underlying23 hi hz0 hz1 hz2 rfl _ m _ rfl hown hbel hbel.size [.string X] 1 rfl rfl (by intro u hu; simp at hu; subst hu; rfl) (by unfold maxLen; omega) (by omega) ?_)
    intro v7 w7 dU dA
    have Gg : Hid (w7.ownsRow w.heap.size 9 1 v7 (xs ++ [(s.data.toList.take k).drop f]).length (((xs ++ [(s.data.toList.take k).drop f]).map strOf).map Value.string)) := by
     show World.ownsRow _ _ _ _ _ _ _
     rw [List.length_append, List.map_append, List.map_append, ← HM.out]
     show World.ownsRow _ _ _ _ _ (m + 1) (_ ++ [Value.string (strOf ((s.data.toList.take k).drop f))])
     rw [← HX.out]
     simpa using dU
    have HY := hid dA
    clear hown hbel dU dA
    go_wp2
    go_roundw
    case rel => exact ⟨k + 1, k + 1, xs ++ [(s.data.toList.take k).drop f], by omega, Nat.le_refl _, by rw [List.length_append, ← HM.out]; show m + 1 ≤ _; omega, by go_num, by go_num, Gg, HY, HFW, HFE⟩
    case measure => simp [intOf]; omega
  ·obtain rfl : k = s.size + 1 := by omega
   obtain ⟨vA, vc, rfl, _, _, _⟩ := aJ HO.out
   have HXX : Hid (Gj w R (.returned (.slice vA xs.length vc)) wr) := by
    rw [HE.out rfl]
    exact ⟨_, rfl, HO.out, HB.out⟩
   go_wp2
   go_ret
   exact HXX.out
end Go.Proofs.YtmpeaoacaecgpaaGreatDoor.Sls
