/- Texts that belong together: WinX. -/
import Derived.Test.YtmdofbccebkbiaaGreatDoorNG
import Derived.Test.YtmdofbccebkbiaaGreatDoorNE
import Derived.Test.YtmdofbccebkbiaaGreatDoorMO
set_option linter.unusedSimpArgs false
set_option linter.unusedVariables false
set_option maxRecDepth 100000
set_option maxHeartbeats 64000000
namespace Go.Proofs.YtmdofbccebkbiaaGreatDoor.WinX
open Go.RowKit Base aT eH rJ xJ zX Ox
open Go.Proofs.YtmdofbccebkbiaaGreatDoor.PosV (FIL tl)
open Go.Proofs.YtmdofbccebkbiaaGreatDoor.Rk (take_snoc)
open Go.Proofs.YtmdofbccebkbiaaGreatDoor.bQ (aF bP oC jD)
theorem F6 (D : List UInt8) : brk D = (D.contains 47 || D.contains 92) := by
 unfold brk
 induction D with
 | nil => rfl
 | cons c t ih =>
  rw [List.any_cons, ih, List.contains_cons, List.contains_cons]
  by_cases h1 : c = 92
  ·subst h1; simp
  ·by_cases h2 : c = 47
   ·subst h2; simp
   ·have e1 : ((47 : UInt8) == c) = false := by rw [beq_eq_false_iff_ne]; exact fun h => h2 h.symm
    have e2 : ((92 : UInt8) == c) = false := by rw [beq_eq_false_iff_ne]; exact fun h => h1 h.symm
    rw [decide_eq_false h1, decide_eq_false h2, e1, e2]
    rfl
theorem yJ (s0 s1 s2 s3 : ByteArray) (b4 : Bool) (z5 : Int) (b6 : Bool) (s7 : ByteArray) (A : Option Addr) (n cap : Nat) (l : List ByteArray) (b9 b10 : Bool) (s11 s12 : ByteArray) (w : World) (hR : bK w A n (l.map Value.string)) (hnc : n ≤ cap) (hcm : cap ≤ maxLen) (hl : (aF l).length + s3.size ≤ 800000) :
  Calls Tryz.prog 35 #[.agg #[.string s0, .string s1, .string s2, .string s3, .bool b4, .int .i64 z5, .bool b6, .string s7, .slice A n cap, .bool b9, .bool b10, .string s11, .string s12]] w fun e w' => e = .returned (.tuple #[.string (strOf (lQ s0.data.toList s3.data.toList b6 l).1), .int .i64 (lQ s0.data.toList s3.data.toList b6 l).2]) ∧ Below w.heap.size w w' := by
 have hn : l.length = n := by rw [← hR.1, List.length_map]
 have hpl := bP l
 have h3l : s3.data.toList.length = s3.size := Array.length_toList
 unfold maxLen at hcm
 obtain ⟨V, hV⟩ : ∃ V, V = lQ s0.data.toList s3.data.toList b6 l := ⟨_, rfl⟩
 rw [← hV]
 by_cases e0 : s0.data.toList = FIL
 ·have q0 : (s0.toList == [102, 105, 108, 101]) = true := by rw [tl, e0]; rfl
  cases b6 with
  | true =>
   have HV : Hid (V = ([], 2)) := by show _ = _; rw [hV]; unfold lQ; rw [if_pos (.inr rfl)]
   clear hn hpl hR hl hV e0 h3l
   go_enter Tryz.func35, Tryz.ntmps35
   go_wp2
   go_ret2
   exact ⟨by rw [HV.out]; first | done | rfl, (Below.refl _ _).alloc (Nat.le_refl _) _⟩
  | false =>
   obtain ⟨BS, hBS⟩ : ∃ b, b = headW s3.data.toList l := ⟨_, rfl⟩
   obtain ⟨R, hRR⟩ : ∃ r, r = nR s3.data.toList l := ⟨_, rfl⟩
   have HVN : Hid (jf R = false → V = ([], 2)) := fun h => by rw [hV]; unfold lQ nI; rw [if_neg (by rintro (h | h); exact h e0; cases h), ← hRR, h, if_neg (by rintro ⟨h, _⟩; cases h)]; rfl
   have XC : Hid (jf R = true → V = if jc (BS ++ gQ R) = true then (BS ++ gQ R, 0) else ([], 2)) := fun h => by
    rw [hV]; unfold lQ nI; rw [if_neg (by rintro (h | h); exact h e0; cases h), ← hRR, ← hBS, h]
    cases jc (BS ++ gQ R) with
    | true => rw [if_pos ⟨rfl, rfl⟩, if_pos rfl]; rfl
    | false => rw [if_neg (by rintro ⟨_, h⟩; cases h), if_neg (by decide)]; rfl
   obtain ⟨B2, hB2⟩ : ∃ b : List UInt8, b = 92 :: 92 :: s3.data.toList := ⟨_, rfl⟩
   have a0 : ∀ w : World, (Op.stringOp .add ⟨#[92, 92]⟩ s3).run Tryz.prog w = .ok (.string (strOf B2)) w := fun w => by
    have h := dP (P := Tryz.prog) ⟨#[92, 92]⟩ s3 w (by show 2 + s3.size ≤ _; omega)
    rw [h, hB2]
    rfl
   by_cases e3 : s3.data.toList = []
   ·have q3 : s3.toList = [] := by rw [tl]; exact e3
    have q3' : (s3.toList == []) = true := by rw [q3]; rfl
    have wW : R = l.drop 1 := by rw [hRR]; unfold nR; rw [if_neg (fun h => h e3)]
    by_cases hn1 : 0 < n
    ·have hnI : (0 : Int) < (n : Int) := by omega
     obtain ⟨g0, kS, rfl, hg0, hcell0⟩ := hR.spot hn1
     have hcut := hR.cut 1 (by omega)
     have hl0 : 0 < l.length := by omega
     have hc0 := hcell0 0 (by rw [List.length_map]; exact hl0)
     rw [List.getElem_map, Nat.add_zero] at hc0
     obtain ⟨a, ha⟩ : ∃ a, a = l[0] := ⟨_, rfl⟩
     rw [← ha] at hc0
     have hBa : BS = a.data.toList := by rw [hBS]; unfold headW; rw [if_neg (fun h => h e3), List.head?_eq_getElem?, List.getElem?_eq_getElem hl0, ha]; rfl
     obtain ⟨n2, hn2⟩ : ∃ n2, n2 = n - 1 := ⟨_, rfl⟩
     have HN : Hid (R.length = n2) := by show _ = _; rw [wW, List.length_drop, hn2, hn]
     have HRR : Hid (bK w (some ⟨g0, kS + 1, none⟩) n2 (R.map Value.string)) := by show bK _ _ _ _; rw [hn2, wW, List.map_drop]; exact hcut
     have wY := hid (bP R)
     have hal : a.data.toList.length = a.size := Array.length_toList
     have hbl : BS.length = a.size := by rw [hBa]; exact hal
     have hpc : (aF (l.drop 1)).length + a.size ≤ (aF l).length := by
      match l, hl0, ha with
      | x :: r, _, ha =>
       have ex : a = x := ha
       subst ex
       show (aF r).length + a.size ≤ ((47 :: a.data.toList) ++ aF r).length
       rw [List.length_append, List.length_cons, hal]
       omega
     have wP : Hid ((aF R).length + BS.length ≤ 800002) := by show _ ≤ _; rw [wW, hbl]; omega
     have AQ : Hid (BS.length ≤ 800002) := by show _ ≤ _; omega
     have hBe : strOf BS = a := by rw [hBa]; exact aS a
     have F5 := hid hBe
     have HN1 := hid hn2
     have HC0 := hid hc0
     have HG0 := hid hg0
     have hn9 : n ≤ 9223372036854775807 := by omega
     have hn29 : n2 ≤ 9223372036854775807 := by omega
     by_cases hcap : cap = 1
     ·obtain rfl : cap = 1 := hcap
      obtain rfl : n = 1 := by omega
      obtain rfl : n2 = 0 := by omega
      have hrn : R = [] := List.eq_nil_of_length_eq_zero HN.out
      have HRR : Hid (bK w (some ⟨g0, kS, none⟩) 0 (R.map Value.string)) := by show bK _ _ _ _; rw [hrn]; exact bK.nil _
      have h0J : (0 : Int) < ((1 : Nat) : Int) := by decide
      clear hrn hn hpl hR hl hV e0 h3l hBS hRR wW hBa hn2 e3 hcut hcell0 hal hbl hpc hBe ha hc0 hg0 hB2
      go_enter Tryz.func35, Tryz.ntmps35
      go_upto_region 1 with (fail)
      generalize hw1 : World.alloc w _ = w1
      have hX : w1.heap[w.heap.size]? = some (.cells #[.string s0, .string s1, .string s2, .string s3, .bool b4, .int .i64 z5, .bool false, .string s7, .slice (some ⟨g0, kS, none⟩) 1 1, .bool b9, .bool b10, .string s11, .string s12] 25 (0, 0)) := by rw [← hw1]; exact heap_alloc_new _ _
      have hb1 : Below w.heap.size w w1 := by rw [← hw1]; exact (Below.refl _ _).alloc (Nat.le_refl _) _
      clear hw1
      have HX := hid hX
      have GL : Hid (w.heap.size < w1.heap.size) := (Array.getElem?_eq_some_iff.1 hX).1
      have HB1 := hid hb1
      have hc0 : w1.cell? ⟨w.heap.size, 0, none⟩ = some (.string s0) := cell_of_row w1 _ 0 _ _ _ hX
      have hc6 : w1.cell? ⟨w.heap.size, 6, none⟩ = some (.bool false) := cell_of_row w1 _ 6 _ _ _ hX
      clear hX hb1
      go_upto_region 3 with (fail)
      clear hc0 hc6
      refine bW (by kernel_rfl) [is (.pointer (some ⟨w.heap.size, 3, none⟩)), is (.string s3), is (.string (strOf B2)), is (.pointer (some ⟨w.heap.size, 8, none⟩)), is (.slice (some ⟨g0, kS, none⟩) 1 1), is (.string (strOf B2)), is (.slice (some ⟨g0, kS, none⟩) 1 1)] [[], [0], [1], [], [3], [2], [4]] (by kernel_rfl) ?_ ?_
      ·refine ⟨?_, ?_, ?_, ?_, ?_, ?_, ?_, trivial⟩
       all_goals (intro t wq hbq hh K hK; simp only [filled, upd, Have, is, any, row, pick, Act.put, List.setIfInBounds_toArray, List.set_cons_zero, List.set_cons_succ, Nat.reduceAdd, Nat.reduceEqDiff, reduceIte, List.tail_cons, List.headD_cons] at hh hK ⊢; (try simp only [hh] at hK ⊢); try clear hh)
       ·go_simp; exact hK _ _ (Below.refl _ _) rfl
       ·have hcq : wq.cell? ⟨w.heap.size, 3, none⟩ = some (.string s3) := cell_of_row wq _ 3 _ _ _ ((hbq.block _ GL.out).trans HX.out); go_simp; exact hK _ _ (Below.refl _ _) rfl
       ·go_simp; first | exact hK _ _ (Below.refl _ _) rfl | exact hK _ _ (Below.refl _ _) (gV (by omega) (by omega))
       ·go_simp; exact hK _ _ (Below.refl _ _) rfl
       ·have hcq : wq.cell? ⟨w.heap.size, 8, none⟩ = some (.slice (some ⟨g0, kS, none⟩) 1 1) := cell_of_row wq _ 8 _ _ _ ((hbq.block _ GL.out).trans HX.out); go_simp; exact hK _ _ (Below.refl _ _) rfl
       iterate 2 · go_simp; exact hK _ _ (Below.refl _ _) rfl
      ·intro t wq hbq hh
       have f5 := aG hh 5 (by decide)
       simp only [pick] at f5
       replace f5 : t 5 = (.string (strOf B2)) := f5
       have f6 := aG hh 6 (by decide)
       simp only [pick] at f6
       replace f6 : t 6 = (.slice (some ⟨g0, kS, none⟩) 1 1) := f6
       clear hh
       simp only [filled, upd, Have, is, any, row, pick, Act.put, List.setIfInBounds_toArray, List.set_cons_zero, List.set_cons_succ, Nat.reduceAdd, Nat.reduceEqDiff, reduceIte]
       simp only [f5, f6]
       have xq := hid (bel HB1.out hbq)
       have hcq : wq.cell? ⟨w.heap.size, 3, none⟩ = some (.string s3) := cell_of_row wq _ 3 _ _ _ ((hbq.block _ GL.out).trans HX.out)
       clear hbq
       go_upto_region 7 with (fail)
       clear hcq
       try simp only [f5, f6]
       clear f5 f6
       refine aZ (by kernel_rfl) 6 [is (.slice (some ⟨g0, kS, none⟩) 1 1), is (.pointer (some ⟨g0, kS, none⟩)), is (.string a), is (.slice (some ⟨g0, kS, none⟩) 1 1), is (.slice (some ⟨g0, kS, none⟩) 0 0), is (.string a)] [[], [0], [0, 1], [], [3], [0, 1, 2], [0, 1, 2, 3, 4, 5]] (by kernel_rfl) ?_ ?_
       ·refine ⟨?_, ?_, ?_, ?_, ?_, ?_, trivial⟩
        all_goals (intro t wq hbq hh K hK; simp only [filled, aQ, upd, Have, is, any, row, pick, Act.put, List.setIfInBounds_toArray, List.set_cons_zero, List.set_cons_succ, Nat.reduceAdd, Nat.reduceEqDiff, reduceIte, List.tail_cons, List.headD_cons] at hh hK ⊢; (try simp only [hh] at hK ⊢); try clear hh)
        iterate 2 · go_simp; exact hK _ _ (Below.refl _ _) rfl
        ·have hc8 : wq.cell? ⟨g0, kS, none⟩ = some (.string a) := ((bel xq.out hbq).cell (p := ⟨g0, kS, none⟩) HG0.out).trans HC0.out; go_simp; exact hK _ _ (Below.refl _ _) rfl
        iterate 3 · go_simp; exact hK _ _ (Below.refl _ _) rfl
       ·intro t wq hbq hh
        have f4 := aG hh 4 (by decide)
        simp only [pick] at f4
        replace f4 : t 4 = (.slice (some ⟨g0, kS, none⟩) 0 0) := f4
        have f5 := aG hh 5 (by decide)
        simp only [pick] at f5
        replace f5 : t 5 = (.string a) := f5
        clear hh
        simp only [filled, aQ, upd, Have, is, any, row, pick, Act.put, List.setIfInBounds_toArray, List.set_cons_zero, List.set_cons_succ, Nat.reduceAdd, Nat.reduceEqDiff, reduceIte]
        simp only [f4, f5]
        replace xq := hid (bel xq.out hbq)
        clear hbq
        go_wp2
        rw [← F5.out]
        go_loopw [4, 6, 7, 33] (fun vo _ _ vk wr => ∃ (k : Nat) (X : List UInt8), k ≤ 0 ∧ vk = .int .i64 (k : Int) ∧ vo = .string (strOf X) ∧ Hid (X = BS ++ gQ (R.take k)) ∧ Hid (Below w.heap.size w wr) ∧ Hid (jf (R.take k) = true)) (fun _ _ _ vk _ => 0 - (intOf vk).toNat)
        case atStart => exact ⟨0, BS, Nat.zero_le _, rfl, rfl, (by show _ = _; rw [List.take_zero]; exact (List.append_nil _).symm), xq.out, rfl⟩
        case round =>
         clear xq
         obtain ⟨k, X, hk, rfl, rfl, LV, BX, HF⟩ := hrel
         by_cases hlt : k < 0
         ·exact absurd hlt (Nat.not_lt_zero _)
         ·obtain rfl : k = 0 := by omega
          have hT : R.take 0 = R := List.take_of_length_le (by rw [HN.out]; exact Nat.le_refl _)
          rw [hT] at LV HF
          have hol : X.length ≤ 900000 := by rw [LV.out, List.length_append]; have h1 := iO R; have h2 := wP.out; omega
          obtain ⟨f, hf⟩ : ∃ f, f = jc X := ⟨_, rfl⟩
          have FM : Hid (∀ w : World, Calls Tryz.prog 37 #[.string (strOf X)] w fun e w' => e = .returned (.bool f) ∧ Below w.heap.size w w') := fun w => by rw [hf]; exact Rn.uf (strOf X) w (by rw [ah]; omega)
          have GK : Hid (V = if f = true then (X, 0) else ([], 2)) := by show _ = _; rw [XC.out HF.out, ← LV.out, ← hf]
          clear hT hf hol
          go_wp2_with fail
          refine (FM.out _).mono ?_
          rintro e w4 ⟨rfl, hb4⟩
          have oP := hid (bel BX.out hb4)
          clear hb4
          cases f with
          | false =>
           have pO : Hid (V = ([], 2)) := by show _ = _; rw [GK.out]; rfl
           go_wp2
           go_ret2
           exact ⟨by rw [pO.out]; first | done | rfl, oP.out⟩
          | true =>
           have pO : Hid (V = (X, 0)) := by show _ = _; rw [GK.out]; rfl
           go_wp2
           go_ret2
           exact ⟨by rw [pO.out]; first | done | rfl, oP.out⟩
     ·have hcap2 : 2 ≤ cap := by omega
      have h1n : 1 ≤ n := hn1
      have h1I : (1 : Int) ≤ (n : Int) := by omega
      clear hn hpl hR hl hV e0 h3l hBS hRR wW hBa hn2 e3 hcut hcell0 hal hbl hpc hBe ha hc0 hg0 hB2
      go_enter Tryz.func35, Tryz.ntmps35
      go_upto_region 1 with (fail)
      generalize hw1 : World.alloc w _ = w1
      have hX : w1.heap[w.heap.size]? = some (.cells #[.string s0, .string s1, .string s2, .string s3, .bool b4, .int .i64 z5, .bool false, .string s7, .slice (some ⟨g0, kS, none⟩) n cap, .bool b9, .bool b10, .string s11, .string s12] 25 (0, 0)) := by rw [← hw1]; exact heap_alloc_new _ _
      have hb1 : Below w.heap.size w w1 := by rw [← hw1]; exact (Below.refl _ _).alloc (Nat.le_refl _) _
      clear hw1
      have HX := hid hX
      have GL : Hid (w.heap.size < w1.heap.size) := (Array.getElem?_eq_some_iff.1 hX).1
      have HB1 := hid hb1
      have hc0 : w1.cell? ⟨w.heap.size, 0, none⟩ = some (.string s0) := cell_of_row w1 _ 0 _ _ _ hX
      have hc6 : w1.cell? ⟨w.heap.size, 6, none⟩ = some (.bool false) := cell_of_row w1 _ 6 _ _ _ hX
      clear hX hb1
      go_upto_region 3 with (fail)
      clear hc0 hc6
      refine bW (by kernel_rfl) [is (.pointer (some ⟨w.heap.size, 3, none⟩)), is (.string s3), is (.string (strOf B2)), is (.pointer (some ⟨w.heap.size, 8, none⟩)), is (.slice (some ⟨g0, kS, none⟩) n cap), is (.string (strOf B2)), is (.slice (some ⟨g0, kS, none⟩) n cap)] [[], [0], [1], [], [3], [2], [4]] (by kernel_rfl) ?_ ?_
      ·refine ⟨?_, ?_, ?_, ?_, ?_, ?_, ?_, trivial⟩
       all_goals (intro t wq hbq hh K hK; simp only [filled, upd, Have, is, any, row, pick, Act.put, List.setIfInBounds_toArray, List.set_cons_zero, List.set_cons_succ, Nat.reduceAdd, Nat.reduceEqDiff, reduceIte, List.tail_cons, List.headD_cons] at hh hK ⊢; (try simp only [hh] at hK ⊢); try clear hh)
       ·go_simp; exact hK _ _ (Below.refl _ _) rfl
       ·have hcq : wq.cell? ⟨w.heap.size, 3, none⟩ = some (.string s3) := cell_of_row wq _ 3 _ _ _ ((hbq.block _ GL.out).trans HX.out); go_simp; exact hK _ _ (Below.refl _ _) rfl
       ·go_simp; first | exact hK _ _ (Below.refl _ _) rfl | exact hK _ _ (Below.refl _ _) (gV (by omega) (by omega))
       ·go_simp; exact hK _ _ (Below.refl _ _) rfl
       ·have hcq : wq.cell? ⟨w.heap.size, 8, none⟩ = some (.slice (some ⟨g0, kS, none⟩) n cap) := cell_of_row wq _ 8 _ _ _ ((hbq.block _ GL.out).trans HX.out); go_simp; exact hK _ _ (Below.refl _ _) rfl
       iterate 2 · go_simp; exact hK _ _ (Below.refl _ _) rfl
      ·intro t wq hbq hh
       have f5 := aG hh 5 (by decide)
       simp only [pick] at f5
       replace f5 : t 5 = (.string (strOf B2)) := f5
       have f6 := aG hh 6 (by decide)
       simp only [pick] at f6
       replace f6 : t 6 = (.slice (some ⟨g0, kS, none⟩) n cap) := f6
       clear hh
       simp only [filled, upd, Have, is, any, row, pick, Act.put, List.setIfInBounds_toArray, List.set_cons_zero, List.set_cons_succ, Nat.reduceAdd, Nat.reduceEqDiff, reduceIte]
       simp only [f5, f6]
       have xq := hid (bel HB1.out hbq)
       have hcq : wq.cell? ⟨w.heap.size, 3, none⟩ = some (.string s3) := cell_of_row wq _ 3 _ _ _ ((hbq.block _ GL.out).trans HX.out)
       clear hbq
       go_upto_region 7 with (fail)
       clear hcq
       try simp only [f5, f6]
       clear f5 f6
       refine aZ (by kernel_rfl) 6 [is (.slice (some ⟨g0, kS, none⟩) n cap), is (.pointer (some ⟨g0, kS, none⟩)), is (.string a), is (.slice (some ⟨g0, kS, none⟩) n cap), is (.slice (some ⟨g0, kS + 1, none⟩) (n - 1) (cap - 1)), is (.string a)] [[], [0], [0, 1], [], [3], [0, 1, 2], [0, 1, 2, 3, 4, 5]] (by kernel_rfl) ?_ ?_
       ·refine ⟨?_, ?_, ?_, ?_, ?_, ?_, trivial⟩
        all_goals (intro t wq hbq hh K hK; simp only [filled, aQ, upd, Have, is, any, row, pick, Act.put, List.setIfInBounds_toArray, List.set_cons_zero, List.set_cons_succ, Nat.reduceAdd, Nat.reduceEqDiff, reduceIte, List.tail_cons, List.headD_cons] at hh hK ⊢; (try simp only [hh] at hK ⊢); try clear hh)
        iterate 2 · go_simp; exact hK _ _ (Below.refl _ _) rfl
        ·have hc8 : wq.cell? ⟨g0, kS, none⟩ = some (.string a) := ((bel xq.out hbq).cell (p := ⟨g0, kS, none⟩) HG0.out).trans HC0.out; go_simp; exact hK _ _ (Below.refl _ _) rfl
        iterate 3 · go_simp; exact hK _ _ (Below.refl _ _) rfl
       ·intro t wq hbq hh
        have f4 := aG hh 4 (by decide)
        simp only [pick] at f4
        replace f4 : t 4 = (.slice (some ⟨g0, kS + 1, none⟩) (n - 1) (cap - 1)) := f4
        have f5 := aG hh 5 (by decide)
        simp only [pick] at f5
        replace f5 : t 5 = (.string a) := f5
        clear hh
        simp only [filled, aQ, upd, Have, is, any, row, pick, Act.put, List.setIfInBounds_toArray, List.set_cons_zero, List.set_cons_succ, Nat.reduceAdd, Nat.reduceEqDiff, reduceIte]
        simp only [f4, f5]
        replace xq := hid (bel xq.out hbq)
        clear hbq
        go_wp2
        rw [← F5.out, ← HN1.out]
        go_loopw [4, 6, 7, 33] (fun vo _ _ vk wr => ∃ (k : Nat) (X : List UInt8), k ≤ n2 ∧ vk = .int .i64 (k : Int) ∧ vo = .string (strOf X) ∧ Hid (X = BS ++ gQ (R.take k)) ∧ Hid (Below w.heap.size w wr) ∧ Hid (jf (R.take k) = true)) (fun _ _ _ vk _ => n2 - (intOf vk).toNat)
        case atStart => exact ⟨0, BS, Nat.zero_le _, rfl, rfl, (by show _ = _; rw [List.take_zero]; exact (List.append_nil _).symm), xq.out, rfl⟩
        case round =>
         clear xq
         obtain ⟨k, X, hk, rfl, rfl, LV, BX, HF⟩ := hrel
         by_cases hlt : k < n2
         ·have hkl : k < R.length := by rw [HN.out]; exact hlt
          have hRr := HRR.out.below BX.out
          obtain ⟨g, off, eA, hg, hcell⟩ := hRr.spot (by omega)
          cases eA
          have hc := hcell k (by rw [List.length_map]; exact hkl)
          rw [List.getElem_map] at hc
          obtain ⟨s, hs⟩ : ∃ s, s = R[k] := ⟨_, rfl⟩
          rw [← hs] at hc
          obtain ⟨D, hD⟩ : ∃ D, D = fA.dec s.data.toList := ⟨_, rfl⟩
          have hDl : D.length ≤ s.size := by rw [hD]; have := fA.iF s.data.toList; rwa [show s.data.toList.length = s.size from Array.length_toList] at this
          obtain ⟨Y, hY⟩ : ∃ Y, Y = X ++ [92] := ⟨_, rfl⟩
          obtain ⟨Z, hZ⟩ : ∃ Z, Z = Y ++ D := ⟨_, rfl⟩
          have HZO : Hid (Z = BS ++ gQ (R.take (k + 1))) := by show _ = _; rw [take_snoc R k hkl, uH, ← hs, ← hD, hZ, hY, LV.out]; simp
          have hsum := oC R k hkl
          have qR := jD R (k + 1)
          have hpk := iO (R.take k)
          rw [bP, List.length_take, Nat.min_eq_left (by omega)] at hpk
          have hxl : X.length = BS.length + (gQ (R.take k)).length := by rw [LV.out, List.length_append]
          have hpl := wY.out
          have hll := wP.out
          have hbsl := AQ.out
          rw [← hs] at hsum
          have hss : s.size ≤ 899999 := by omega
          have hYl : Y.length = X.length + 1 := by rw [hY]; simp
          have JA : Hid (∀ w : World, Calls Tryz.prog 63 #[.string s] w fun e w' => e = .returned (.string (strOf D)) ∧ Below w.heap.size w w') := fun w => by rw [hD]; exact EscF.Bh s w (by omega)
          obtain ⟨q, hq⟩ : ∃ q, q = D.contains 47 := ⟨_, rfl⟩
          obtain ⟨p, hp⟩ : ∃ p, p = D.contains 92 := ⟨_, rfl⟩
          have LQ : Hid (∀ w : World, Calls Tryz.prog 64 #[.string (strOf D), .int .u8 47] w fun e w' => e = .returned (.bool q) ∧ w = w') := fun w => by rw [hq]; exact Rl.zD (strOf D) 47 w (by rw [ah]; omega)
          have HCP : Hid (∀ w : World, Calls Tryz.prog 64 #[.string (strOf D), .int .u8 92] w fun e w' => e = .returned (.bool p) ∧ w = w') := fun w => by rw [hp]; exact Rl.zD (strOf D) 92 w (by rw [ah]; omega)
          have a1 : ∀ w : World, (Op.stringOp .add (strOf X) ⟨#[92]⟩).run Tryz.prog w = .ok (.string (strOf Y)) w := fun w => by
           have h := dP (P := Tryz.prog) (strOf X) ⟨#[92]⟩ w (by rw [ah]; show X.length + 1 ≤ _; omega)
           rw [h, hY]
           rfl
          have a2 : ∀ w : World, (Op.stringOp .add (strOf Y) (strOf D)).run Tryz.prog w = .ok (.string (strOf Z)) w := fun w => by rw [dX Y D w (by omega), hZ]
          have O8 : (q || p) = true → V = ([], 2) := fun h => HVN.out (yj k hkl (by rw [← hs, ← hD, F6, ← hq, ← hp]; exact h))
          have O9 : (q || p) = false → jf (R.take (k + 1)) = true := fun h => by rw [qN R k hkl, HF.out, ← hs, ← hD, F6, ← hq, ← hp, h]; rfl
          have VI := hid O8
          have XY := hid O9
          clear hs hD hq hp hsum qR hpk hpl hll hbsl hRr hcell hkl O8 O9 hDl hY hZ hYl hxl
          go_wp2_with fail
          refine (JA.out _).mono ?_
          rintro e w3 ⟨rfl, hb3⟩
          have QK := hid (bel BX.out hb3)
          clear hb3 hc
          go_wp2_with fail
          refine (LQ.out _).mono ?_
          rintro e w4 ⟨rfl, hw4⟩
          subst hw4
          cases q with
          | true =>
           have pO : Hid (V = ([], 2)) := VI.out rfl
           go_wp2
           go_ret2
           exact ⟨by rw [pO.out]; first | done | rfl, QK.out⟩
          | false =>
           go_wp2_with fail
           refine (HCP.out _).mono ?_
           rintro e w4 ⟨rfl, hw4⟩
           subst hw4
           cases p with
           | true =>
            have pO : Hid (V = ([], 2)) := VI.out rfl
            go_wp2
            go_ret2
            exact ⟨by rw [pO.out]; first | done | rfl, QK.out⟩
           | false =>
            have QS := hid (XY.out rfl)
            go_wp2
            go_roundw
            case rel => exact ⟨k + 1, Z, by omega, by go_num, rfl, HZO, QK, QS⟩
            case measure => simp [intOf]; omega
         ·obtain rfl : k = n2 := by omega
          have hT : R.take k = R := List.take_of_length_le (by rw [HN.out]; exact Nat.le_refl _)
          rw [hT] at LV HF
          have hol : X.length ≤ 900000 := by rw [LV.out, List.length_append]; have h1 := iO R; have h2 := wP.out; omega
          obtain ⟨f, hf⟩ : ∃ f, f = jc X := ⟨_, rfl⟩
          have FM : Hid (∀ w : World, Calls Tryz.prog 37 #[.string (strOf X)] w fun e w' => e = .returned (.bool f) ∧ Below w.heap.size w w') := fun w => by rw [hf]; exact Rn.uf (strOf X) w (by rw [ah]; omega)
          have GK : Hid (V = if f = true then (X, 0) else ([], 2)) := by show _ = _; rw [XC.out HF.out, ← LV.out, ← hf]
          clear hT hf hol
          go_wp2_with fail
          refine (FM.out _).mono ?_
          rintro e w4 ⟨rfl, hb4⟩
          have oP := hid (bel BX.out hb4)
          clear hb4
          cases f with
          | false =>
           have pO : Hid (V = ([], 2)) := by show _ = _; rw [GK.out]; rfl
           go_wp2
           go_ret2
           exact ⟨by rw [pO.out]; first | done | rfl, oP.out⟩
          | true =>
           have pO : Hid (V = (X, 0)) := by show _ = _; rw [GK.out]; rfl
           go_wp2
           go_ret2
           exact ⟨by rw [pO.out]; first | done | rfl, oP.out⟩
    ·obtain rfl : n = 0 := by omega
     have hl0 : l = [] := List.eq_nil_of_length_eq_zero hn
     have hBa : BS = [] := by rw [hBS, hl0]; unfold headW; rw [if_neg (fun h => h e3)]; rfl
     have hRe : R = [] := by rw [wW, hl0]; rfl
     have HN : Hid (R.length = 0) := by show _ = _; rw [hRe]; rfl
     have HRR : Hid (bK w A 0 (R.map Value.string)) := by show bK _ _ _ _; rw [hRe]; exact bK.nil _
     have wY := hid (bP R)
     have wP : Hid ((aF R).length + BS.length ≤ 800002) := by show _ ≤ _; rw [hRe, hBa]; decide
     have AQ : Hid (BS.length ≤ 800002) := by show _ ≤ _; rw [hBa]; decide
     have hBE : (⟨#[]⟩ : ByteArray) = strOf BS := by rw [hBa]; rfl
     have F5 := hid hBE
     clear hn hpl hR hl hV e0 h3l hBS hRR wW hBa hRe e3 hl0 hn1 hB2 hBE
     go_enter Tryz.func35, Tryz.ntmps35
     go_upto_region 1 with (fail)
     generalize hw1 : World.alloc w _ = w1
     have hX : w1.heap[w.heap.size]? = some (.cells #[.string s0, .string s1, .string s2, .string s3, .bool b4, .int .i64 z5, .bool false, .string s7, .slice A 0 cap, .bool b9, .bool b10, .string s11, .string s12] 25 (0, 0)) := by rw [← hw1]; exact heap_alloc_new _ _
     have hb1 : Below w.heap.size w w1 := by rw [← hw1]; exact (Below.refl _ _).alloc (Nat.le_refl _) _
     clear hw1
     have HX := hid hX
     have GL : Hid (w.heap.size < w1.heap.size) := (Array.getElem?_eq_some_iff.1 hX).1
     have HB1 := hid hb1
     have hc0 : w1.cell? ⟨w.heap.size, 0, none⟩ = some (.string s0) := cell_of_row w1 _ 0 _ _ _ hX
     have hc6 : w1.cell? ⟨w.heap.size, 6, none⟩ = some (.bool false) := cell_of_row w1 _ 6 _ _ _ hX
     clear hX hb1
     go_upto_region 3 with (fail)
     clear hc0 hc6
     refine bW (by kernel_rfl) [is (.pointer (some ⟨w.heap.size, 3, none⟩)), is (.string s3), is (.string (strOf B2)), is (.pointer (some ⟨w.heap.size, 8, none⟩)), is (.slice A 0 cap), is (.string (strOf B2)), is (.slice A 0 cap)] [[], [0], [1], [], [3], [2], [4]] (by kernel_rfl) ?_ ?_
     ·refine ⟨?_, ?_, ?_, ?_, ?_, ?_, ?_, trivial⟩
      all_goals (intro t wq hbq hh K hK; simp only [filled, upd, Have, is, any, row, pick, Act.put, List.setIfInBounds_toArray, List.set_cons_zero, List.set_cons_succ, Nat.reduceAdd, Nat.reduceEqDiff, reduceIte, List.tail_cons, List.headD_cons] at hh hK ⊢; (try simp only [hh] at hK ⊢); try clear hh)
      ·go_simp; exact hK _ _ (Below.refl _ _) rfl
      ·have hcq : wq.cell? ⟨w.heap.size, 3, none⟩ = some (.string s3) := cell_of_row wq _ 3 _ _ _ ((hbq.block _ GL.out).trans HX.out); go_simp; exact hK _ _ (Below.refl _ _) rfl
      ·go_simp; first | exact hK _ _ (Below.refl _ _) rfl | exact hK _ _ (Below.refl _ _) (gV (by omega) (by omega))
      ·go_simp; exact hK _ _ (Below.refl _ _) rfl
      ·have hcq : wq.cell? ⟨w.heap.size, 8, none⟩ = some (.slice A 0 cap) := cell_of_row wq _ 8 _ _ _ ((hbq.block _ GL.out).trans HX.out); go_simp; exact hK _ _ (Below.refl _ _) rfl
      iterate 2 · go_simp; exact hK _ _ (Below.refl _ _) rfl
     ·intro t wq hbq hh
      have f5 := aG hh 5 (by decide)
      simp only [pick] at f5
      replace f5 : t 5 = (.string (strOf B2)) := f5
      have f6 := aG hh 6 (by decide)
      simp only [pick] at f6
      replace f6 : t 6 = (.slice A 0 cap) := f6
      clear hh
      simp only [filled, upd, Have, is, any, row, pick, Act.put, List.setIfInBounds_toArray, List.set_cons_zero, List.set_cons_succ, Nat.reduceAdd, Nat.reduceEqDiff, reduceIte]
      simp only [f5, f6]
      have xq := hid (bel HB1.out hbq)
      have hcq : wq.cell? ⟨w.heap.size, 3, none⟩ = some (.string s3) := cell_of_row wq _ 3 _ _ _ ((hbq.block _ GL.out).trans HX.out)
      clear hbq
      go_wp2
      clear hcq
      rw [F5.out]
      go_loopw [4, 6, 7, 33] (fun vo _ _ vk wr => ∃ (k : Nat) (X : List UInt8), k ≤ 0 ∧ vk = .int .i64 (k : Int) ∧ vo = .string (strOf X) ∧ Hid (X = BS ++ gQ (R.take k)) ∧ Hid (Below w.heap.size w wr) ∧ Hid (jf (R.take k) = true)) (fun _ _ _ vk _ => 0 - (intOf vk).toNat)
      case atStart => exact ⟨0, BS, Nat.zero_le _, rfl, rfl, (by show _ = _; rw [List.take_zero]; exact (List.append_nil _).symm), xq.out, rfl⟩
      case round =>
       clear xq
       obtain ⟨k, X, hk, rfl, rfl, LV, BX, HF⟩ := hrel
       by_cases hlt : k < 0
       ·exact absurd hlt (Nat.not_lt_zero _)
       ·obtain rfl : k = 0 := by omega
        have hT : R.take 0 = R := List.take_of_length_le (by rw [HN.out]; exact Nat.le_refl _)
        rw [hT] at LV HF
        have hol : X.length ≤ 900000 := by rw [LV.out, List.length_append]; have h1 := iO R; have h2 := wP.out; omega
        obtain ⟨f, hf⟩ : ∃ f, f = jc X := ⟨_, rfl⟩
        have FM : Hid (∀ w : World, Calls Tryz.prog 37 #[.string (strOf X)] w fun e w' => e = .returned (.bool f) ∧ Below w.heap.size w w') := fun w => by rw [hf]; exact Rn.uf (strOf X) w (by rw [ah]; omega)
        have GK : Hid (V = if f = true then (X, 0) else ([], 2)) := by show _ = _; rw [XC.out HF.out, ← LV.out, ← hf]
        clear hT hf hol
        go_wp2_with fail
        refine (FM.out _).mono ?_
        rintro e w4 ⟨rfl, hb4⟩
        have oP := hid (bel BX.out hb4)
        clear hb4
        cases f with
        | false =>
         have pO : Hid (V = ([], 2)) := by show _ = _; rw [GK.out]; rfl
         go_wp2
         go_ret2
         exact ⟨by rw [pO.out]; first | done | rfl, oP.out⟩
        | true =>
         have pO : Hid (V = (X, 0)) := by show _ = _; rw [GK.out]; rfl
         go_wp2
         go_ret2
         exact ⟨by rw [pO.out]; first | done | rfl, oP.out⟩
   ·have q3 : (s3.toList == []) = false := by rw [tl, beq_eq_false_iff_ne]; exact e3
    have q3' : s3.toList.isEmpty = false := by rw [tl]; simpa using e3
    have wW : R = l := by rw [hRR]; unfold nR; rw [if_pos e3]
    have hBa : BS = B2 := by rw [hBS, hB2]; unfold headW; rw [if_pos e3]
    obtain rfl := hBa
    obtain ⟨n2, hn2⟩ : ∃ n2, n2 = n := ⟨_, rfl⟩
    have HN : Hid (R.length = n2) := by show _ = _; rw [wW, hn2, hn]
    have HRR : Hid (bK w A n2 (R.map Value.string)) := by show bK _ _ _ _; rw [hn2, wW]; exact hR
    have wY := hid (bP R)
    have hbl : BS.length = s3.size + 2 := by rw [hB2]; simp [h3l]
    have wP : Hid ((aF R).length + BS.length ≤ 800002) := by show _ ≤ _; rw [wW, hbl]; omega
    have AQ : Hid (BS.length ≤ 800002) := by show _ ≤ _; omega
    rw [← hn2]
    have hnc2 : n2 ≤ cap := by omega
    have hw3 : s3.size ≤ 800000 := by omega
    clear hn hpl hR hl hV e0 h3l hBS hRR wW hn2 e3 hbl hnc hB2
    go_enter Tryz.func35, Tryz.ntmps35
    go_upto_region 1 with (fail)
    generalize hw1 : World.alloc w _ = w1
    have hX : w1.heap[w.heap.size]? = some (.cells #[.string s0, .string s1, .string s2, .string s3, .bool b4, .int .i64 z5, .bool false, .string s7, .slice A n2 cap, .bool b9, .bool b10, .string s11, .string s12] 25 (0, 0)) := by rw [← hw1]; exact heap_alloc_new _ _
    have hb1 : Below w.heap.size w w1 := by rw [← hw1]; exact (Below.refl _ _).alloc (Nat.le_refl _) _
    clear hw1
    have HX := hid hX
    have GL : Hid (w.heap.size < w1.heap.size) := (Array.getElem?_eq_some_iff.1 hX).1
    have HB1 := hid hb1
    have hc0 : w1.cell? ⟨w.heap.size, 0, none⟩ = some (.string s0) := cell_of_row w1 _ 0 _ _ _ hX
    have hc6 : w1.cell? ⟨w.heap.size, 6, none⟩ = some (.bool false) := cell_of_row w1 _ 6 _ _ _ hX
    clear hX hb1
    go_upto_region 3 with (fail)
    clear hc0 hc6
    refine bW (by kernel_rfl) [is (.pointer (some ⟨w.heap.size, 3, none⟩)), is (.string s3), is (.string (strOf BS)), is (.pointer (some ⟨w.heap.size, 8, none⟩)), is (.slice A n2 cap), is (.string (strOf BS)), is (.slice A n2 cap)] [[], [0], [1], [], [3], [2], [4]] (by kernel_rfl) ?_ ?_
    ·refine ⟨?_, ?_, ?_, ?_, ?_, ?_, ?_, trivial⟩
     all_goals (intro t wq hbq hh K hK; simp only [filled, upd, Have, is, any, row, pick, Act.put, List.setIfInBounds_toArray, List.set_cons_zero, List.set_cons_succ, Nat.reduceAdd, Nat.reduceEqDiff, reduceIte, List.tail_cons, List.headD_cons] at hh hK ⊢; (try simp only [hh] at hK ⊢); try clear hh)
     ·go_simp; exact hK _ _ (Below.refl _ _) rfl
     ·have hcq : wq.cell? ⟨w.heap.size, 3, none⟩ = some (.string s3) := cell_of_row wq _ 3 _ _ _ ((hbq.block _ GL.out).trans HX.out); go_simp; exact hK _ _ (Below.refl _ _) rfl
     ·go_simp; first | exact hK _ _ (Below.refl _ _) rfl | exact hK _ _ (Below.refl _ _) (gV (by omega) (by omega))
     ·go_simp; exact hK _ _ (Below.refl _ _) rfl
     ·have hcq : wq.cell? ⟨w.heap.size, 8, none⟩ = some (.slice A n2 cap) := cell_of_row wq _ 8 _ _ _ ((hbq.block _ GL.out).trans HX.out); go_simp; exact hK _ _ (Below.refl _ _) rfl
     iterate 2 · go_simp; exact hK _ _ (Below.refl _ _) rfl
    ·intro t wq hbq hh
     have f5 := aG hh 5 (by decide)
     simp only [pick] at f5
     replace f5 : t 5 = (.string (strOf BS)) := f5
     have f6 := aG hh 6 (by decide)
     simp only [pick] at f6
     replace f6 : t 6 = (.slice A n2 cap) := f6
     clear hh
     simp only [filled, upd, Have, is, any, row, pick, Act.put, List.setIfInBounds_toArray, List.set_cons_zero, List.set_cons_succ, Nat.reduceAdd, Nat.reduceEqDiff, reduceIte]
     simp only [f5, f6]
     have xq := hid (bel HB1.out hbq)
     have hcq : wq.cell? ⟨w.heap.size, 3, none⟩ = some (.string s3) := cell_of_row wq _ 3 _ _ _ ((hbq.block _ GL.out).trans HX.out)
     clear hbq
     go_wp2
     clear hcq
     go_loopw [4, 6, 7, 33] (fun vo _ _ vk wr => ∃ (k : Nat) (X : List UInt8), k ≤ n2 ∧ vk = .int .i64 (k : Int) ∧ vo = .string (strOf X) ∧ Hid (X = BS ++ gQ (R.take k)) ∧ Hid (Below w.heap.size w wr) ∧ Hid (jf (R.take k) = true)) (fun _ _ _ vk _ => n2 - (intOf vk).toNat)
     case atStart => exact ⟨0, BS, Nat.zero_le _, rfl, rfl, (by show _ = _; rw [List.take_zero]; exact (List.append_nil _).symm), xq.out, rfl⟩
     case round =>
      clear xq
      obtain ⟨k, X, hk, rfl, rfl, LV, BX, HF⟩ := hrel
      by_cases hlt : k < n2
      ·have hkl : k < R.length := by rw [HN.out]; exact hlt
       have hRr := HRR.out.below BX.out
       obtain ⟨g, off, eA, hg, hcell⟩ := hRr.spot (by omega)
       cases eA
       have hc := hcell k (by rw [List.length_map]; exact hkl)
       rw [List.getElem_map] at hc
       obtain ⟨s, hs⟩ : ∃ s, s = R[k] := ⟨_, rfl⟩
       rw [← hs] at hc
       obtain ⟨D, hD⟩ : ∃ D, D = fA.dec s.data.toList := ⟨_, rfl⟩
       have hDl : D.length ≤ s.size := by rw [hD]; have := fA.iF s.data.toList; rwa [show s.data.toList.length = s.size from Array.length_toList] at this
       obtain ⟨Y, hY⟩ : ∃ Y, Y = X ++ [92] := ⟨_, rfl⟩
       obtain ⟨Z, hZ⟩ : ∃ Z, Z = Y ++ D := ⟨_, rfl⟩
       have HZO : Hid (Z = BS ++ gQ (R.take (k + 1))) := by show _ = _; rw [take_snoc R k hkl, uH, ← hs, ← hD, hZ, hY, LV.out]; simp
       have hsum := oC R k hkl
       have qR := jD R (k + 1)
       have hpk := iO (R.take k)
       rw [bP, List.length_take, Nat.min_eq_left (by omega)] at hpk
       have hxl : X.length = BS.length + (gQ (R.take k)).length := by rw [LV.out, List.length_append]
       have hpl := wY.out
       have hll := wP.out
       have hbsl := AQ.out
       rw [← hs] at hsum
       have hss : s.size ≤ 899999 := by omega
       have hYl : Y.length = X.length + 1 := by rw [hY]; simp
       have JA : Hid (∀ w : World, Calls Tryz.prog 63 #[.string s] w fun e w' => e = .returned (.string (strOf D)) ∧ Below w.heap.size w w') := fun w => by rw [hD]; exact EscF.Bh s w (by omega)
       obtain ⟨q, hq⟩ : ∃ q, q = D.contains 47 := ⟨_, rfl⟩
       obtain ⟨p, hp⟩ : ∃ p, p = D.contains 92 := ⟨_, rfl⟩
       have LQ : Hid (∀ w : World, Calls Tryz.prog 64 #[.string (strOf D), .int .u8 47] w fun e w' => e = .returned (.bool q) ∧ w = w') := fun w => by rw [hq]; exact Rl.zD (strOf D) 47 w (by rw [ah]; omega)
       have HCP : Hid (∀ w : World, Calls Tryz.prog 64 #[.string (strOf D), .int .u8 92] w fun e w' => e = .returned (.bool p) ∧ w = w') := fun w => by rw [hp]; exact Rl.zD (strOf D) 92 w (by rw [ah]; omega)
       have a1 : ∀ w : World, (Op.stringOp .add (strOf X) ⟨#[92]⟩).run Tryz.prog w = .ok (.string (strOf Y)) w := fun w => by
        have h := dP (P := Tryz.prog) (strOf X) ⟨#[92]⟩ w (by rw [ah]; show X.length + 1 ≤ _; omega)
        rw [h, hY]
        rfl
       have a2 : ∀ w : World, (Op.stringOp .add (strOf Y) (strOf D)).run Tryz.prog w = .ok (.string (strOf Z)) w := fun w => by rw [dX Y D w (by omega), hZ]
       have O8 : (q || p) = true → V = ([], 2) := fun h => HVN.out (yj k hkl (by rw [← hs, ← hD, F6, ← hq, ← hp]; exact h))
       have O9 : (q || p) = false → jf (R.take (k + 1)) = true := fun h => by rw [qN R k hkl, HF.out, ← hs, ← hD, F6, ← hq, ← hp, h]; rfl
       have VI := hid O8
       have XY := hid O9
       clear hs hD hq hp hsum qR hpk hpl hll hbsl hRr hcell hkl O8 O9 hDl hY hZ hYl hxl
       go_wp2_with fail
       refine (JA.out _).mono ?_
       rintro e w3 ⟨rfl, hb3⟩
       have QK := hid (bel BX.out hb3)
       clear hb3 hc
       go_wp2_with fail
       refine (LQ.out _).mono ?_
       rintro e w4 ⟨rfl, hw4⟩
       subst hw4
       cases q with
       | true =>
        have pO : Hid (V = ([], 2)) := VI.out rfl
        go_wp2
        go_ret2
        exact ⟨by rw [pO.out]; first | done | rfl, QK.out⟩
       | false =>
        go_wp2_with fail
        refine (HCP.out _).mono ?_
        rintro e w4 ⟨rfl, hw4⟩
        subst hw4
        cases p with
        | true =>
         have pO : Hid (V = ([], 2)) := VI.out rfl
         go_wp2
         go_ret2
         exact ⟨by rw [pO.out]; first | done | rfl, QK.out⟩
        | false =>
         have QS := hid (XY.out rfl)
         go_wp2
         go_roundw
         case rel => exact ⟨k + 1, Z, by omega, by go_num, rfl, HZO, QK, QS⟩
         case measure => simp [intOf]; omega
      ·obtain rfl : k = n2 := by omega
       have hT : R.take k = R := List.take_of_length_le (by rw [HN.out]; exact Nat.le_refl _)
       rw [hT] at LV HF
       have hol : X.length ≤ 900000 := by rw [LV.out, List.length_append]; have h1 := iO R; have h2 := wP.out; omega
       obtain ⟨f, hf⟩ : ∃ f, f = jc X := ⟨_, rfl⟩
       have FM : Hid (∀ w : World, Calls Tryz.prog 37 #[.string (strOf X)] w fun e w' => e = .returned (.bool f) ∧ Below w.heap.size w w') := fun w => by rw [hf]; exact Rn.uf (strOf X) w (by rw [ah]; omega)
       have GK : Hid (V = if f = true then (X, 0) else ([], 2)) := by show _ = _; rw [XC.out HF.out, ← LV.out, ← hf]
       clear hT hf hol
       go_wp2_with fail
       refine (FM.out _).mono ?_
       rintro e w4 ⟨rfl, hb4⟩
       have oP := hid (bel BX.out hb4)
       clear hb4
       cases f with
       | false =>
        have pO : Hid (V = ([], 2)) := by show _ = _; rw [GK.out]; rfl
        go_wp2
        go_ret2
        exact ⟨by rw [pO.out]; first | done | rfl, oP.out⟩
       | true =>
        have pO : Hid (V = (X, 0)) := by show _ = _; rw [GK.out]; rfl
        go_wp2
        go_ret2
        exact ⟨by rw [pO.out]; first | done | rfl, oP.out⟩
 ·have q0 : (s0.toList == [102, 105, 108, 101]) = false := by rw [tl, beq_eq_false_iff_ne]; exact e0
  have HV : Hid (V = ([], 2)) := by show _ = _; rw [hV]; unfold lQ; rw [if_pos (.inl e0)]
  clear hn hpl hR hl hV e0 h3l
  go_enter Tryz.func35, Tryz.ntmps35
  go_wp2
  go_ret2
  exact ⟨by rw [HV.out]; first | done | rfl, (Below.refl _ _).alloc (Nat.le_refl _) _⟩
end Go.Proofs.YtmdofbccebkbiaaGreatDoor.WinX
