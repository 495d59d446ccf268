/- Texts that belong together: OrgP, OrgA, OrgW, OrgX, OrgY. -/
import Derived.Test.YtmdofbccebkbiaaGreatDoorMR
import Derived.Test.YtmdofbccebkbiaaGreatDoorMG
import Derived.Test.YtmdofbccebkbiaaGreatDoorME
import Derived.Test.YtmdofbccebkbiaaGreatDoorMS
import Derived.Test.YtmdofbccebkbiaaGreatDoorMP
import Derived.Test.YtmdofbccebkbiaaGreatDoorMY
import Derived.Laws.StructEq
set_option linter.unusedSimpArgs false
set_option linter.unusedVariables false
namespace Go.Proofs.YtmdofbccebkbiaaGreatDoor.OrgP
open Go.RowKit Base UtfA UtfL UrlA HstQ PrsP PrsT PrsU PrsX PrsY EscI
theorem in0 (c : UInt8) (h1 : 32 ≤ c.toNat) (h2 : c.toNat ≤ 126) : inS 0 c.toNat = false := byteAll (p := fun c => 32 ≤ c.toNat → c.toNat ≤ 126 → inS 0 c.toNat = false) (by decide +kernel) c h1 h2
def BLOB : List UInt8 := [98, 108, 111, 98]
theorem bare_ok {u : U} (h : Ok u) : Ok (bareV u) := by
 obtain ⟨a1, a2, a3, a4, a5, a6, a7, a8, a9, a10, a11, _, _, _, _⟩ := h
 exact ⟨a1, a2, a3, a4, a5, a6, a7, a8, a9, a10, a11, fun c hc => (by cases hc), fun c hc => (by cases hc), fun _ => rfl, fun _ => rfl⟩
theorem print_bare (u : U) : printU (bareV u) = u.sch ++ 58 :: restB u := by
 rw [printU_eq, bareU_eq]
 show u.sch ++ [58] ++ midB u ++ UrlP.pathL u.opq (strOf u.txt) u.pth ++ [] ++ [] = _
 unfold restB
 simp
theorem bare_chars {u : U} (h : Ok u) : (∀ c ∈ printU (bareV u), c ≠ 63 ∧ c ≠ 35 ∧ 32 ≤ c.toNat ∧ c.toNat ≤ 126) ∧ Lib.hasSuffix (printU (bareV u)) [32] = false ∧ ∃ c t, printU (bareV u) = c :: t ∧ c ≠ 47 := by
 obtain ⟨hr, hrs⟩ := rest_chars h
 obtain ⟨⟨c, t, e, hc⟩, hs2⟩ := sch_chars h.sch
 rw [print_bare]
 refine ⟨fun d hd => ?_, ?_, c, t ++ 58 :: restB u, by rw [e]; rfl, ?_⟩
 ·simp only [List.mem_append, List.mem_cons] at hd
  rcases hd with hd | rfl | hd
  ·have := hs2 d hd
   exact ⟨this.2.1, this.2.2.1, by omega, this.2.2.2.2⟩
  ·decide
  ·exact hr d hd
 ·rcases snoc_cases (restB u) with e2 | ⟨M, d, e2⟩
  ·rw [e2, suffix_snoc]; decide
  ·rw [e2, suffix_snoc] at hrs
   rw [e2, show u.sch ++ 58 :: (M ++ [d]) = (u.sch ++ 58 :: M) ++ [d] from by simp, suffix_snoc]
   exact hrs
 ·rintro rfl
  have h1 := h.sch
  rw [e] at h1
  unfold isSch at h1
  rw [Bool.and_eq_true] at h1
  exact absurd h1.1 (by decide +kernel)
def blobU (T : List UInt8) : U := { U0 with sch := BLOB, port := -1, opq := true, txt := T }
theorem url_blob {u : U} (h : Ok u) : PrsP.url (BLOB ++ 58 :: printU (bareV u)) none = some (blobU (printU (bareV u))) := by
 obtain ⟨hc, hs, c, t, e, h47⟩ := bare_chars h
 generalize hT : printU (bareV u) = T at hc hs e
 have hall : ∀ d ∈ BLOB ++ 58 :: T, d ≠ 63 ∧ d ≠ 35 ∧ 32 ≤ d.toNat ∧ d.toNat ≤ 126 := by
  intro d hd
  simp only [List.mem_append, List.mem_cons] at hd
  rcases hd with hd | rfl | hd
  ·revert d; decide
  ·decide
  ·exact hc d hd
 have hsuf : Lib.hasSuffix (BLOB ++ 58 :: T) [32] = false := by
  rcases snoc_cases T with e2 | ⟨M, d, e2⟩
  ·rw [e2] at e; cases e
  ·rw [e2, suffix_snoc] at hs
   rw [e2, show BLOB ++ 58 :: (M ++ [d]) = (BLOB ++ 58 :: M) ++ [d] from by simp, suffix_snoc]
   exact hs
 have hcl : clean (BLOB ++ 58 :: T) = BLOB ++ 58 :: T := clean_plain (fun d hd => (hall d hd).2.2) ⟨98, [108, 111, 98] ++ 58 :: T, rfl, by decide⟩ hsuf
 have hap : PrsP.apart (BLOB ++ 58 :: T) = ⟨BLOB, T, [], [], false, false⟩ := by
  unfold PrsP.apart
  simp only
  rw [cutB_none 35 _ fun d hd => (hall d hd).2.1]
  simp only
  rw [cutB_none 63 _ fun d hd => (hall d hd).1]
  simp only
  rw [cutB_at 58 BLOB T (by decide)]
  simp only
  rw [if_pos (by decide +kernel)]
  congr 1
 have he0 : EscE.enc 0 T = T := EscP.enc_fix 0 _ fun d hd => by
  have := hc d hd
  exact in0 d this.2.2.1 this.2.2.2
 have hp : ∀ M : List UInt8, Lib.hasPrefix T (47 :: M) = false := fun M => by
  rw [e]
  show ((47 == c) && _) = false
  rw [beq_eq_false_iff_ne.2 (fun x => h47 x.symm)]
  rfl
 unfold PrsP.url
 rw [hcl, hap]
 unfold PrsP.resolve PrsP.plain
 simp only
 rw [if_neg (by decide), if_neg (by decide), if_pos (by decide), hp, if_neg (by decide), hp, if_neg (by decide)]
 have ho : PrsP.opq (false || false) T = T := by
  unfold PrsP.opq
  rw [he0, if_neg (fun x => by cases x.2)]
 rw [ho]
 rfl
theorem inner {u : U} (h : Ok u) : PrsP.url (printU (bareV u)) none = some (bareV u) := url_again (bare_ok h)
end Go.Proofs.YtmdofbccebkbiaaGreatDoor.OrgP
namespace Go.Proofs.YtmdofbccebkbiaaGreatDoor.OrgA
open Go.RowKit Base Base2 UrlP Ubx
set_option linter.unusedSimpArgs false
set_option linter.unusedVariables false
def OB (w : World) (g : Nat) (s h : ByteArray) (p n : Int) : Prop := w.heap[g]? = some (.cells #[.string s, .string h, .int .i64 p, .int .i64 n] 38 (0, 0))
section
variable {w w' : World} {g : Nat} {s h : ByteArray} {p n : Int}
theorem OB.lt (x : OB w g s h p n) : g < w.heap.size := (Array.getElem?_eq_some_iff.1 x).1
theorem OB.below (x : OB w g s h p n) (hb : Below w.heap.size w w') : OB w' g s h p n := (hb.block g x.lt).trans x
theorem OB.facts (x : OB w g s h p n) : w.cell? ⟨g, 0, none⟩ = some (.string s) ∧ w.cell? ⟨g, 1, none⟩ = some (.string h) ∧ w.cell? ⟨g, 2, none⟩ = some (.int .i64 p) ∧ w.cell? ⟨g, 3, none⟩ = some (.int .i64 n) :=
 ⟨cell_of_row w g 0 _ _ _ x, cell_of_row w g 1 _ _ _ x, cell_of_row w g 2 _ _ _ x, cell_of_row w g 3 _ _ _ x⟩
end
def sameO (s1 h1 : List UInt8) (p1 n1 : Int) (s2 h2 : List UInt8) (p2 n2 : Int) : Bool := if s1 = [] ∧ s2 = [] then decide (n1 = n2) else decide (s1 = s2) && (decide (h1 = h2) && decide (p1 = p2))
theorem sameO_refl (s h : List UInt8) (p n : Int) : sameO s h p n s h p n = true := by unfold sameO; split <;> simp
set_option maxRecDepth 100000 in
set_option maxHeartbeats 8000000 in
theorem tuple_any (s1 h1 : ByteArray) (p1 n1 : Int) (w : World) : Calls Tryz.prog 21 #[.agg #[.string s1, .string h1, .int .i64 p1, .int .i64 n1]] w fun e w' => e = .returned (.bool (decide (s1.data.toList ≠ []))) ∧ Below w.heap.size w w' := by
 obtain ⟨b, hb⟩ : ∃ b, b = decide (s1.data.toList ≠ []) := ⟨_, rfl⟩
 rw [← hb]
 by_cases hs : s1.data.toList = []
 ·have q0 : (s1.toList == []) = true := by rw [tl, hs]; rfl
  have q1 : s1.toList = [] := by rw [tl, hs]
  have HB : Hid (b = false) := by show _ = _; rw [hb, hs]; rfl
  clear hs hb
  go_enter Tryz.func21, Tryz.ntmps21
  go_wp2
  go_ret
  exact ⟨by rw [HB.out]; first | done | rfl, (Below.refl _ _).alloc (Nat.le_refl _) _⟩
 ·have q0 : (s1.toList == []) = false := by rw [tl, beq_eq_false_iff_ne]; exact hs
  have q1 : ¬ s1.toList = [] := by rw [tl]; exact hs
  have HB : Hid (b = true) := by show _ = _; rw [hb]; simpa using hs
  clear hs hb
  go_enter Tryz.func21, Tryz.ntmps21
  go_wp2
  go_ret
  exact ⟨by rw [HB.out]; first | done | rfl, (Below.refl _ _).alloc (Nat.le_refl _) _⟩
set_option maxRecDepth 100000 in
set_option maxHeartbeats 8000000 in
theorem same_any (s1 h1 : ByteArray) (p1 n1 : Int) (s2 h2 : ByteArray) (p2 n2 : Int) (w : World) : Calls Tryz.prog 23 #[.agg #[.string s1, .string h1, .int .i64 p1, .int .i64 n1], .agg #[.string s2, .string h2, .int .i64 p2, .int .i64 n2]] w fun e w' => e = .returned (.bool (sameO s1.data.toList h1.data.toList p1 n1 s2.data.toList h2.data.toList p2 n2)) ∧ Below w.heap.size w w' := by
 obtain ⟨b, hb⟩ : ∃ b, b = sameO s1.data.toList h1.data.toList p1 n1 s2.data.toList h2.data.toList p2 n2 := ⟨_, rfl⟩
 rw [← hb]
 by_cases a1 : s1.data.toList = []
 ·
  have qa0 : (s1.toList == []) = true := by rw [tl, a1]; simp
  have qa1 : s1.toList = [] := by rw [tl, a1]
  by_cases a2 : s2.data.toList = []
  ·
   have qb0 : (s2.toList == []) = true := by rw [tl, a2]; simp
   have qb1 : s2.toList = [] := by rw [tl, a2]
   have HT1 : Hid (∀ w : World, Calls Tryz.prog 21 #[.agg #[.string s1, .string h1, .int .i64 p1, .int .i64 n1]] w fun e w' => e = .returned (.bool false) ∧ Below w.heap.size w w') := fun w => by
    have h := tuple_any s1 h1 p1 n1 w
    rw [show decide (s1.data.toList ≠ []) = false from by simp [a1]] at h
    exact h
   have HT2 : Hid (∀ w : World, Calls Tryz.prog 21 #[.agg #[.string s2, .string h2, .int .i64 p2, .int .i64 n2]] w fun e w' => e = .returned (.bool false) ∧ Below w.heap.size w w') := fun w => by
    have h := tuple_any s2 h2 p2 n2 w
    rw [show decide (s2.data.toList ≠ []) = false from by simp [a2]] at h
    exact h
   have HB : Hid (b = (n1 == n2)) := by show _ = _; rw [hb]; unfold sameO; rw [if_pos ⟨a1, a2⟩]; rw [Bool.eq_iff_iff]; simp
   clear hb a1 a2
   go_enter Tryz.func23, Tryz.ntmps23
   go_upto_region 1 with (fail)
   generalize hwa : World.alloc (World.alloc w _) _ = v1
   have h1_ : OB v1 w.heap.size s1 h1 p1 n1 ∧ OB v1 (w.heap.size + 1) s2 h2 p2 n2 ∧ Below w.heap.size w v1 := by
    subst hwa
    exact laid2 w _ _ _ _
   clear hwa
   have X1 := hid h1_.1
   have X2 := hid h1_.2.1
   have hb := h1_.2.2
   clear h1_
   have HB1 := hid hb
   clear hb
   obtain ⟨o0, o1, o2, o3⟩ := X1.out.facts
   go_wp2_with fail
   clear o0 o1 o2 o3
   refine (HT1.out _).mono ?_
   rintro e w2 ⟨rfl, hb⟩
   have HB2 := hid (bel HB1.out hb)
   have X1_2 := hid (X1.out.below hb)
   have X2_2 := hid (X2.out.below hb)
   clear hb
   obtain ⟨o0, o1, o2, o3⟩ := X2_2.out.facts
   go_wp2_with fail
   clear o0 o1 o2 o3
   refine (HT2.out _).mono ?_
   rintro e w3 ⟨rfl, hb⟩
   have HB3 := hid (bel HB2.out hb)
   have X1_3 := hid (X1_2.out.below hb)
   have X2_3 := hid (X2_2.out.below hb)
   clear hb
   obtain ⟨o0, o1, o2, o3⟩ := X1_3.out.facts
   obtain ⟨r0, r1, r2, r3⟩ := X2_3.out.facts
   go_wp2
   go_ret
   exact ⟨by rw [HB.out]; first | done | rfl | simp, HB3.out⟩
  ·
   have qb0 : (s2.toList == []) = false := by rw [tl, beq_eq_false_iff_ne]; exact a2
   have qb1 : ¬ s2.toList = [] := by rw [tl]; exact a2
   have HT1 : Hid (∀ w : World, Calls Tryz.prog 21 #[.agg #[.string s1, .string h1, .int .i64 p1, .int .i64 n1]] w fun e w' => e = .returned (.bool false) ∧ Below w.heap.size w w') := fun w => by
    have h := tuple_any s1 h1 p1 n1 w
    rw [show decide (s1.data.toList ≠ []) = false from by simp [a1]] at h
    exact h
   have HT2 : Hid (∀ w : World, Calls Tryz.prog 21 #[.agg #[.string s2, .string h2, .int .i64 p2, .int .i64 n2]] w fun e w' => e = .returned (.bool true) ∧ Below w.heap.size w w') := fun w => by
    have h := tuple_any s2 h2 p2 n2 w
    rw [show decide (s2.data.toList ≠ []) = true from by simp [a2]] at h
    exact h
   have b1 : ¬ s1.data.toList = s2.data.toList := fun e => a2 (by rw [← e]; exact a1)
   have qc0 : (s1.toList == s2.toList) = false := by rw [tl, tl, beq_eq_false_iff_ne]; exact b1
   have qc1 : ¬ s1.toList = s2.toList := by rw [tl, tl]; exact b1
   have HB : Hid (b = false) := by show _ = _; rw [hb]; unfold sameO; simp [a1, a2, Ne.symm a2]
   clear hb a1 a2 b1
   go_enter Tryz.func23, Tryz.ntmps23
   go_upto_region 1 with (fail)
   generalize hwa : World.alloc (World.alloc w _) _ = v1
   have h1_ : OB v1 w.heap.size s1 h1 p1 n1 ∧ OB v1 (w.heap.size + 1) s2 h2 p2 n2 ∧ Below w.heap.size w v1 := by
    subst hwa
    exact laid2 w _ _ _ _
   clear hwa
   have X1 := hid h1_.1
   have X2 := hid h1_.2.1
   have hb := h1_.2.2
   clear h1_
   have HB1 := hid hb
   clear hb
   obtain ⟨o0, o1, o2, o3⟩ := X1.out.facts
   go_wp2_with fail
   clear o0 o1 o2 o3
   refine (HT1.out _).mono ?_
   rintro e w2 ⟨rfl, hb⟩
   have HB2 := hid (bel HB1.out hb)
   have X1_2 := hid (X1.out.below hb)
   have X2_2 := hid (X2.out.below hb)
   clear hb
   obtain ⟨o0, o1, o2, o3⟩ := X2_2.out.facts
   go_wp2_with fail
   clear o0 o1 o2 o3
   refine (HT2.out _).mono ?_
   rintro e w3 ⟨rfl, hb⟩
   have HB3 := hid (bel HB2.out hb)
   have X1_3 := hid (X1_2.out.below hb)
   have X2_3 := hid (X2_2.out.below hb)
   clear hb
   obtain ⟨o0, o1, o2, o3⟩ := X1_3.out.facts
   obtain ⟨r0, r1, r2, r3⟩ := X2_3.out.facts
   go_wp2
   go_ret
   exact ⟨by rw [HB.out]; first | done | rfl | simp, HB3.out⟩
 ·
  have qa0 : (s1.toList == []) = false := by rw [tl, beq_eq_false_iff_ne]; exact a1
  have qa1 : ¬ s1.toList = [] := by rw [tl]; exact a1
  have a2 : True := trivial
  have HT1 : Hid (∀ w : World, Calls Tryz.prog 21 #[.agg #[.string s1, .string h1, .int .i64 p1, .int .i64 n1]] w fun e w' => e = .returned (.bool true) ∧ Below w.heap.size w w') := fun w => by
   have h := tuple_any s1 h1 p1 n1 w
   rw [show decide (s1.data.toList ≠ []) = true from by simp [a1]] at h
   exact h
  by_cases b1 : s1.data.toList = s2.data.toList
  rotate_left
  ·
   have qc0 : (s1.toList == s2.toList) = false := by rw [tl, tl, beq_eq_false_iff_ne]; exact b1
   have qc1 : ¬ s1.toList = s2.toList := by rw [tl, tl]; exact b1
   have HB : Hid (b = false) := by show _ = _; rw [hb]; unfold sameO; simp [a1, b1]
   clear hb a1 a2 b1
   go_enter Tryz.func23, Tryz.ntmps23
   go_upto_region 1 with (fail)
   generalize hwa : World.alloc (World.alloc w _) _ = v1
   have h1_ : OB v1 w.heap.size s1 h1 p1 n1 ∧ OB v1 (w.heap.size + 1) s2 h2 p2 n2 ∧ Below w.heap.size w v1 := by
    subst hwa
    exact laid2 w _ _ _ _
   clear hwa
   have X1 := hid h1_.1
   have X2 := hid h1_.2.1
   have hb := h1_.2.2
   clear h1_
   have HB1 := hid hb
   clear hb
   obtain ⟨o0, o1, o2, o3⟩ := X1.out.facts
   go_wp2_with fail
   clear o0 o1 o2 o3
   refine (HT1.out _).mono ?_
   rintro e w2 ⟨rfl, hb⟩
   have HB2 := hid (bel HB1.out hb)
   have X1_2 := hid (X1.out.below hb)
   have X2_2 := hid (X2.out.below hb)
   clear hb
   obtain ⟨o0, o1, o2, o3⟩ := X1_2.out.facts
   obtain ⟨r0, r1, r2, r3⟩ := X2_2.out.facts
   go_wp2
   go_ret
   exact ⟨by rw [HB.out]; first | done | rfl | simp, HB2.out⟩
  have a3 : ¬ s2.data.toList = [] := by rw [← b1]; exact a1
  have qb0 : (s2.toList == []) = false := by rw [tl, beq_eq_false_iff_ne]; exact a3
  have qb1 : ¬ s2.toList = [] := by rw [tl]; exact a3
  clear a3
  have qc0 : (s1.toList == s2.toList) = true := by rw [tl, tl, b1]; simp
  have qc1 : s1.toList = s2.toList := by rw [tl, tl, b1]
  by_cases b2 : h1.data.toList = h2.data.toList
  rotate_left
  ·
   have qd0 : (h1.toList == h2.toList) = false := by rw [tl, tl, beq_eq_false_iff_ne]; exact b2
   have qd1 : ¬ h1.toList = h2.toList := by rw [tl, tl]; exact b2
   have HB : Hid (b = false) := by show _ = _; rw [hb]; unfold sameO; simp [a1, b2]
   clear hb a1 a2 b1 b2
   go_enter Tryz.func23, Tryz.ntmps23
   go_upto_region 1 with (fail)
   generalize hwa : World.alloc (World.alloc w _) _ = v1
   have h1_ : OB v1 w.heap.size s1 h1 p1 n1 ∧ OB v1 (w.heap.size + 1) s2 h2 p2 n2 ∧ Below w.heap.size w v1 := by
    subst hwa
    exact laid2 w _ _ _ _
   clear hwa
   have X1 := hid h1_.1
   have X2 := hid h1_.2.1
   have hb := h1_.2.2
   clear h1_
   have HB1 := hid hb
   clear hb
   obtain ⟨o0, o1, o2, o3⟩ := X1.out.facts
   go_wp2_with fail
   clear o0 o1 o2 o3
   refine (HT1.out _).mono ?_
   rintro e w2 ⟨rfl, hb⟩
   have HB2 := hid (bel HB1.out hb)
   have X1_2 := hid (X1.out.below hb)
   have X2_2 := hid (X2.out.below hb)
   clear hb
   obtain ⟨o0, o1, o2, o3⟩ := X1_2.out.facts
   obtain ⟨r0, r1, r2, r3⟩ := X2_2.out.facts
   go_wp2
   go_ret
   exact ⟨by rw [HB.out]; first | done | rfl | simp, HB2.out⟩
  have qd0 : (h1.toList == h2.toList) = true := by rw [tl, tl, b2]; simp
  have qd1 : h1.toList = h2.toList := by rw [tl, tl, b2]
  have HB : Hid (b = (p1 == p2)) := by show _ = _; rw [hb]; unfold sameO; rw [if_neg (by simp [a1]), decide_eq_true b1, decide_eq_true b2, Bool.true_and, Bool.true_and]; rw [Bool.eq_iff_iff]; simp
  clear hb a1 a2 b1 b2
  go_enter Tryz.func23, Tryz.ntmps23
  go_upto_region 1 with (fail)
  generalize hwa : World.alloc (World.alloc w _) _ = v1
  have h1_ : OB v1 w.heap.size s1 h1 p1 n1 ∧ OB v1 (w.heap.size + 1) s2 h2 p2 n2 ∧ Below w.heap.size w v1 := by
   subst hwa
   exact laid2 w _ _ _ _
  clear hwa
  have X1 := hid h1_.1
  have X2 := hid h1_.2.1
  have hb := h1_.2.2
  clear h1_
  have HB1 := hid hb
  clear hb
  obtain ⟨o0, o1, o2, o3⟩ := X1.out.facts
  go_wp2_with fail
  clear o0 o1 o2 o3
  refine (HT1.out _).mono ?_
  rintro e w2 ⟨rfl, hb⟩
  have HB2 := hid (bel HB1.out hb)
  have X1_2 := hid (X1.out.below hb)
  have X2_2 := hid (X2.out.below hb)
  clear hb
  obtain ⟨o0, o1, o2, o3⟩ := X1_2.out.facts
  obtain ⟨r0, r1, r2, r3⟩ := X2_2.out.facts
  go_wp2
  go_ret
  exact ⟨by rw [HB.out]; first | done | rfl | simp, HB2.out⟩
end Go.Proofs.YtmdofbccebkbiaaGreatDoor.OrgA
namespace Go.Proofs.YtmdofbccebkbiaaGreatDoor.OrgW
open Go.RowKit Base Base2 UtfL UrlA UrlC UrlF HstC PrsP Ubx PrsC PrsD SixG Spl PrsG PrsR PrsV PrsY Ulw OrgA Regs
set_option linter.unusedSimpArgs false
set_option linter.unusedVariables false
theorem OB.load {w : World} {g : Nat} {s h : ByteArray} {p n : Int} (x : OB w g s h p n) : (loadVar 38 ⟨g, 0, none⟩).run Tryz.prog w = .ok (.agg #[.string s, .string h, .int .i64 p, .int .i64 n]) w :=
 run_loadVar_row w g _ _ #[.string s, .string h, .int .i64 p, .int .i64 n] (0, 0) _ x Tryz.underlying38 rfl (by kernel_rfl)
theorem res2o {w : World} {g : Nat} {s h : ByteArray} {p n : Int} {fn : Func} {a b : Tmp} (hr : fn.results = #[.cell a 38, .tmp b]) (hU : OB w g s h p n) (ok : Bool) (tmps : Array Value) (h2 : tmps.getD a undef = .pointer (some ⟨g, 0, none⟩)) (h3 : tmps.getD b undef = .bool ok) :
  (results fn tmps).run Tryz.prog w = .ok (.tuple #[.agg #[.string s, .string h, .int .i64 p, .int .i64 n], .bool ok]) w := by
 have hp' : tmps[a]?.getD undef = .pointer (some ⟨g, 0, none⟩) := by simpa using h2
 have hq' : tmps[b]?.getD undef = .bool ok := by simpa using h3
 simp [results, hr, hp', hq', asAddr, OB.load hU]
theorem OB.row {w : World} {g : Nat} {s h : ByteArray} {p n : Int} (x : OB w g s h p n) (s' h' : ByteArray) (p' n' : Int) : OB (w.setRow g #[.string s', .string h', .int .i64 p', .int .i64 n']) g s' h' p' n' := setRow_heap w g _ _ _ (0, 0) x
theorem store_ob {w : World} {g : Nat} {s h : ByteArray} {p n : Int} {ops : Array Oper} {rest : List Oper} {o : Oper} {a : Act} {Q : Exit → Act → World → Prop} (hU : OB w g s h p n) (s' h' : ByteArray) (p' n' : Int) (x y : Operand) (ho : o.op = .store 38 x y) (hgd : o.guard = none)
  (hx : a.eval x = .pointer (some ⟨g, 0, none⟩)) (hy : a.eval y = .agg #[.string s', .string h', .int .i64 p', .int .i64 n'])
  (hh : wpList Tryz.prog ops Q rest (a.put o.dst undef) (w.setRow g #[.string s', .string h', .int .i64 p', .int .i64 n'])) : wpList Tryz.prog ops Q (o :: rest) a w :=
 wpList_store_row hgd 38 x y ho g #[.string s', .string h', .int .i64 p', .int .i64 n'] hx hy 38 #[.string s, .string h, .int .i64 p, .int .i64 n] hU (by kernel_rfl) rfl (by simp [Value.oneCell']) hh
set_option maxRecDepth 100000 in
set_option maxHeartbeats 8000000 in
theorem of_tuple (u : U) (A : Option Addr) (n c : Nat) (w : World) (hs : u.sch = [104, 116, 116, 112] ∨ u.sch = [104, 116, 116, 112, 115]) : Calls Tryz.prog 19 #[.agg #[.string (strOf u.sch), .string (strOf u.usr), .string (strOf u.pwd), .string (strOf u.hst), .bool u.hh, .int .i64 u.port, .bool u.opq, .string (strOf u.txt), .slice A n c, .bool u.hq, .bool u.hf, .string (strOf u.qry), .string (strOf u.frg)]] w fun e w' => e = .returned (.tuple #[.agg #[.string (strOf u.sch), .string (strOf u.hst), .int .i64 u.port, .int .i64 0], .bool true]) ∧ Below w.heap.size w w' := by
 rcases hs with hs | hs
 ·
  have nftp : ¬ u.sch = [102, 116, 112] := by rw [hs]; decide
  have e0nftp : ((strOf u.sch).toList == [102, 116, 112]) = false := by rw [str_tl, beq_eq_false_iff_ne]; exact nftp
  have e1nftp : ¬ (strOf u.sch).toList = [102, 116, 112] := by rw [str_tl]; exact nftp
  have e0hs : ((strOf u.sch).toList == [104, 116, 116, 112]) = true := by rw [str_tl, hs]; first | done | rfl
  have e1hs : (strOf u.sch).toList = [104, 116, 116, 112] := by rw [str_tl, hs]; first | done | rfl
  have HS := hid hs
  clear hs nftp
  go_enter Tryz.func19, Tryz.ntmps19
  go_upto_region 1 with (fail)
  generalize hwa : World.alloc (World.alloc w _) _ = v1
  have h1_ : UB v1 w.heap.size u (.slice A n c) ∧ OB v1 (w.heap.size + 1) ⟨#[]⟩ ⟨#[]⟩ 0 0 ∧ Below w.heap.size w v1 := by
   subst hwa
   exact laid2 w _ _ _ _
  clear hwa
  have X1 := hid h1_.1
  have X2 := hid h1_.2.1
  have hb := h1_.2.2
  clear h1_
  have HB1 := hid hb
  clear hb
  obtain ⟨d0, d1, d2, d3, d4, d5, d6, d7, d8, d9, d10, d11, d12⟩ := X1.out.facts
  go_wp2_with (refine store_ob X2.out (strOf u.sch) (strOf u.hst) u.port 0 (.tmp 2) (.tmp 20) rfl rfl rfl (by first | rfl | (simp [*]; done)) ?_)
  try simp only [Exit.inBlock, Exit.then]
  exact bodyPost_ret (w := World.setRow v1 (w.heap.size + 1) #[.string (strOf u.sch), .string (strOf u.hst), .int .i64 u.port, .int .i64 0]) (res2o rfl (OB.row X2.out _ _ _ _) true _ rfl rfl) rfl ⟨rfl, below_setRow HB1.out (Nat.le_succ _) _⟩
 ·
  have nftp : ¬ u.sch = [102, 116, 112] := by rw [hs]; decide
  have e0nftp : ((strOf u.sch).toList == [102, 116, 112]) = false := by rw [str_tl, beq_eq_false_iff_ne]; exact nftp
  have e1nftp : ¬ (strOf u.sch).toList = [102, 116, 112] := by rw [str_tl]; exact nftp
  have nhttp : ¬ u.sch = [104, 116, 116, 112] := by rw [hs]; decide
  have e0nhttp : ((strOf u.sch).toList == [104, 116, 116, 112]) = false := by rw [str_tl, beq_eq_false_iff_ne]; exact nhttp
  have e1nhttp : ¬ (strOf u.sch).toList = [104, 116, 116, 112] := by rw [str_tl]; exact nhttp
  have e0hs : ((strOf u.sch).toList == [104, 116, 116, 112, 115]) = true := by rw [str_tl, hs]; first | done | rfl
  have e1hs : (strOf u.sch).toList = [104, 116, 116, 112, 115] := by rw [str_tl, hs]; first | done | rfl
  have HS := hid hs
  clear hs nftp nhttp
  go_enter Tryz.func19, Tryz.ntmps19
  go_upto_region 1 with (fail)
  generalize hwa : World.alloc (World.alloc w _) _ = v1
  have h1_ : UB v1 w.heap.size u (.slice A n c) ∧ OB v1 (w.heap.size + 1) ⟨#[]⟩ ⟨#[]⟩ 0 0 ∧ Below w.heap.size w v1 := by
   subst hwa
   exact laid2 w _ _ _ _
  clear hwa
  have X1 := hid h1_.1
  have X2 := hid h1_.2.1
  have hb := h1_.2.2
  clear h1_
  have HB1 := hid hb
  clear hb
  obtain ⟨d0, d1, d2, d3, d4, d5, d6, d7, d8, d9, d10, d11, d12⟩ := X1.out.facts
  go_wp2_with (refine store_ob X2.out (strOf u.sch) (strOf u.hst) u.port 0 (.tmp 2) (.tmp 20) rfl rfl rfl (by first | rfl | (simp [*]; done)) ?_)
  try simp only [Exit.inBlock, Exit.then]
  exact bodyPost_ret (w := World.setRow v1 (w.heap.size + 1) #[.string (strOf u.sch), .string (strOf u.hst), .int .i64 u.port, .int .i64 0]) (res2o rfl (OB.row X2.out _ _ _ _) true _ rfl rfl) rfl ⟨rfl, below_setRow HB1.out (Nat.le_succ _) _⟩
set_option maxRecDepth 100000 in
set_option maxHeartbeats 8000000 in
theorem of_blob (u v : U) (T : ByteArray) (A : Option Addr) (n c : Nat) (w : World) (hs : u.sch = [98, 108, 111, 98]) (HPA : Hid (∀ w : World, Pt w u A n c → Calls Tryz.prog 55 #[.agg #[.string (strOf u.sch), .string (strOf u.usr), .string (strOf u.pwd), .string (strOf u.hst), .bool u.hh, .int .i64 u.port, .bool u.opq, .string (strOf u.txt), .slice A n c, .bool u.hq, .bool u.hf, .string (strOf u.qry), .string (strOf u.frg)]] w fun e w' => e = .returned (.string T) ∧ Below w.heap.size w w')) (HP : Hid (∀ w, Env w → Calls Tryz.prog 12 #[.string T, .pointer none] w fun e w' => ∃ A' n' c', e = .returned (.tuple #[.agg #[.string (strOf v.sch), .string (strOf v.usr), .string (strOf v.pwd), .string (strOf v.hst), .bool v.hh, .int .i64 v.port, .bool v.opq, .string (strOf v.txt), .slice A' n' c', .bool v.hq, .bool v.hf, .string (strOf v.qry), .string (strOf v.frg)], .int .i64 0]) ∧ Pt w' v A' n' c' ∧ Below w.heap.size w w')) (hv : v.sch = [104, 116, 116, 112, 115]) (hE : Env w) (hP : Pt w u A n c) : Calls Tryz.prog 19 #[.agg #[.string (strOf u.sch), .string (strOf u.usr), .string (strOf u.pwd), .string (strOf u.hst), .bool u.hh, .int .i64 u.port, .bool u.opq, .string (strOf u.txt), .slice A n c, .bool u.hq, .bool u.hf, .string (strOf u.qry), .string (strOf u.frg)]] w fun e w' => e = .returned (.tuple #[.agg #[.string (strOf v.sch), .string (strOf v.hst), .int .i64 v.port, .int .i64 0], .bool true]) ∧ Below w.heap.size w w' := by
 have nftp : ¬ u.sch = [102, 116, 112] := by rw [hs]; decide
 have e0nftp : ((strOf u.sch).toList == [102, 116, 112]) = false := by rw [str_tl, beq_eq_false_iff_ne]; exact nftp
 have e1nftp : ¬ (strOf u.sch).toList = [102, 116, 112] := by rw [str_tl]; exact nftp
 have nhttp : ¬ u.sch = [104, 116, 116, 112] := by rw [hs]; decide
 have e0nhttp : ((strOf u.sch).toList == [104, 116, 116, 112]) = false := by rw [str_tl, beq_eq_false_iff_ne]; exact nhttp
 have e1nhttp : ¬ (strOf u.sch).toList = [104, 116, 116, 112] := by rw [str_tl]; exact nhttp
 have nhttps : ¬ u.sch = [104, 116, 116, 112, 115] := by rw [hs]; decide
 have e0nhttps : ((strOf u.sch).toList == [104, 116, 116, 112, 115]) = false := by rw [str_tl, beq_eq_false_iff_ne]; exact nhttps
 have e1nhttps : ¬ (strOf u.sch).toList = [104, 116, 116, 112, 115] := by rw [str_tl]; exact nhttps
 have nws : ¬ u.sch = [119, 115] := by rw [hs]; decide
 have e0nws : ((strOf u.sch).toList == [119, 115]) = false := by rw [str_tl, beq_eq_false_iff_ne]; exact nws
 have e1nws : ¬ (strOf u.sch).toList = [119, 115] := by rw [str_tl]; exact nws
 have nwss : ¬ u.sch = [119, 115, 115] := by rw [hs]; decide
 have e0nwss : ((strOf u.sch).toList == [119, 115, 115]) = false := by rw [str_tl, beq_eq_false_iff_ne]; exact nwss
 have e1nwss : ¬ (strOf u.sch).toList = [119, 115, 115] := by rw [str_tl]; exact nwss
 have e0hs : ((strOf u.sch).toList == [98, 108, 111, 98]) = true := by rw [str_tl, hs]; first | done | rfl
 have e1hs : (strOf u.sch).toList = [98, 108, 111, 98] := by rw [str_tl, hs]; first | done | rfl
 have nh : ¬ v.sch = [104, 116, 116, 112] := by rw [hv]; decide
 have e0nh : ((strOf v.sch).toList == [104, 116, 116, 112]) = false := by rw [str_tl, beq_eq_false_iff_ne]; exact nh
 have e1nh : ¬ (strOf v.sch).toList = [104, 116, 116, 112] := by rw [str_tl]; exact nh
 have e0hv : ((strOf v.sch).toList == [104, 116, 116, 112, 115]) = true := by rw [str_tl, hv]; first | done | rfl
 have e1hv : (strOf v.sch).toList = [104, 116, 116, 112, 115] := by rw [str_tl, hv]; first | done | rfl
 have HOT : Hid (∀ (A : Option Addr) (n c : Nat) (w : World), Calls Tryz.prog 19 #[.agg #[.string (strOf v.sch), .string (strOf v.usr), .string (strOf v.pwd), .string (strOf v.hst), .bool v.hh, .int .i64 v.port, .bool v.opq, .string (strOf v.txt), .slice A n c, .bool v.hq, .bool v.hf, .string (strOf v.qry), .string (strOf v.frg)]] w fun e w' => e = .returned (.tuple #[.agg #[.string (strOf v.sch), .string (strOf v.hst), .int .i64 v.port, .int .i64 0], .bool true]) ∧ Below w.heap.size w w') := fun A n c w => of_tuple v A n c w (.inr hv)
 have HE := hid hE
 have HPT := hid hP
 clear hs hv nh hE hP nftp nhttp nhttps nws nwss
 go_enter Tryz.func19, Tryz.ntmps19
 go_upto_region 1 with (fail)
 generalize hwa : World.alloc (World.alloc w _) _ = v1
 have h1_ : UB v1 w.heap.size u (.slice A n c) ∧ OB v1 (w.heap.size + 1) ⟨#[]⟩ ⟨#[]⟩ 0 0 ∧ Below w.heap.size w v1 := by
  subst hwa
  exact laid2 w _ _ _ _
 clear hwa
 have X1 := hid h1_.1
 have X2 := hid h1_.2.1
 have hb := h1_.2.2
 clear h1_
 have HB1 := hid hb
 clear hb
 have HE_1 := hid (HE.out.below HB1.out)
 have HT_1 := hid (HPT.out.below HB1.out)
 obtain ⟨d0, d1, d2, d3, d4, d5, d6, d7, d8, d9, d10, d11, d12⟩ := X1.out.facts
 go_wp2_with fail
 clear d0 d1 d2 d3 d4 d5 d6 d7 d8 d9 d10 d11 d12
 refine (HPA.out _ HT_1.out).mono ?_
 rintro e w2 ⟨rfl, hb⟩
 have HB2 := hid (bel HB1.out hb)
 have X1_2 := hid (X1.out.below hb)
 have X2_2 := hid (X2.out.below hb)
 have E_2 := hid (HE_1.out.below hb)
 have T1_2 := hid (HT_1.out.below hb)
 clear hb
 go_wp2_with fail
 refine (HP.out _ E_2.out).mono ?_
 rintro e w3 ⟨A2, n2, c2, rfl, hpt, hb⟩
 have HB3 := hid (bel HB2.out hb)
 have X1_3 := hid (X1_2.out.below hb)
 have X2_3 := hid (X2_2.out.below hb)
 have E_3 := hid (E_2.out.below hb)
 have T1_3 := hid (T1_2.out.below hb)
 clear hb
 clear hpt
 go_upto_region 10 with (fail)
 generalize hwa : World.alloc _ _ = v4
 have hxa : UB v4 (w3.heap.size) v (.slice A2 n2 c2) := by rw [← hwa]; exact heap_alloc_new _ _
 have hb : Below w3.heap.size w3 v4 := by rw [← hwa]; exact (Below.refl _ _).alloc (Nat.le_refl _) _
 have X3 := hid hxa
 clear hwa hxa
 have HB4 := hid (bel HB3.out hb)
 have X1_4 := hid (X1_3.out.below hb)
 have X2_4 := hid (X2_3.out.below hb)
 have E_4 := hid (E_3.out.below hb)
 have T1_4 := hid (T1_3.out.below hb)
 clear hb
 obtain ⟨d0, d1, d2, d3, d4, d5, d6, d7, d8, d9, d10, d11, d12⟩ := X3.out.facts
 go_wp2_with fail
 clear d0 d1 d2 d3 d4 d5 d6 d7 d8 d9 d10 d11 d12
 refine (HOT.out _ _ _ _).mono ?_
 rintro e w5 ⟨rfl, hb⟩
 have HB5 := hid (bel HB4.out hb)
 have X1_5 := hid (X1_4.out.below hb)
 have X2_5 := hid (X2_4.out.below hb)
 have E_5 := hid (E_4.out.below hb)
 have T1_5 := hid (T1_4.out.below hb)
 have X3_5 := hid (X3.out.below hb)
 clear hb
 go_wp2_with (refine store_ob X2_5.out (strOf v.sch) (strOf v.hst) v.port 0 (.tmp 2) (.tmp 43) rfl rfl rfl rfl ?_)
 try simp only [Exit.inBlock, Exit.then]
 exact bodyPost_ret (w := World.setRow w5 (w.heap.size + 1) #[.string (strOf v.sch), .string (strOf v.hst), .int .i64 v.port, .int .i64 0]) (res2o rfl (OB.row X2_5.out _ _ _ _) true _ rfl rfl) rfl ⟨rfl, below_setRow HB5.out (Nat.le_succ _) _⟩
set_option maxRecDepth 100000 in
set_option maxHeartbeats 8000000 in
theorem print_o (s h : List UInt8) (p n : Int) (w : World) (hs : s ≠ []) (hsl : s.length ≤ 1000) (hhl : h.length ≤ 100000) (h0 : 0 ≤ p) (h1 : p ≤ 65535) (hT : Tab.Pow w) : Calls Tryz.prog 54 #[.agg #[.string (strOf s), .string (strOf h), .int .i64 p, .int .i64 n]] w fun e w' => e = .returned (.string (strOf (s ++ [58, 47, 47] ++ h ++ [58] ++ Lib.itoa p))) ∧ Below w.heap.size w w' := by
 have hil := UrlC.itoa_len p (by omega) (by omega)
 have HTU : Hid (∀ w : World, Calls Tryz.prog 21 #[.agg #[.string (strOf s), .string (strOf h), .int .i64 p, .int .i64 n]] w fun e w' => e = .returned (.bool true) ∧ Below w.heap.size w w') := fun w => by
  have hh := tuple_any (strOf s) (strOf h) p n w
  rw [show decide ((strOf s).data.toList ≠ []) = true from decide_eq_true hs] at hh
  exact hh
 obtain ⟨I, hI⟩ : ∃ I, I = Lib.itoa p := ⟨_, rfl⟩
 have HIT : Hid (∀ w : World, Tab.Pow w → Calls Tryz.prog 128 #[.int .i64 p] w fun e w' => e = .returned (.string (strOf I)) ∧ Below w.heap.size w w') := fun w hT => by rw [hI]; exact UrlC.itoa_int p (by omega) (by omega) w hT
 rw [← hI]
 rw [← hI] at hil
 obtain ⟨M1, hM1⟩ : ∃ M, M = s ++ [58, 47, 47] := ⟨_, rfl⟩
 obtain ⟨M2, hM2⟩ : ∃ M, M = M1 ++ h := ⟨_, rfl⟩
 obtain ⟨M3, hM3⟩ : ∃ M, M = M2 ++ [58] := ⟨_, rfl⟩
 obtain ⟨M4, hM4⟩ : ∃ M, M = M3 ++ I := ⟨_, rfl⟩
 have hfin : s ++ [58, 47, 47] ++ h ++ [58] ++ I = M4 := by rw [hM4, hM3, hM2, hM1]
 rw [hfin]
 have l1 : M1.length ≤ 1003 := by rw [hM1, List.length_append]; simp only [List.length_cons, List.length_nil]; omega
 have l2 : M2.length ≤ 101003 := by rw [hM2, List.length_append]; omega
 have l3 : M3.length ≤ 101004 := by rw [hM3, List.length_append]; simp only [List.length_cons, List.length_nil]; omega
 have x1 : ∀ w, (Op.stringOp .add (strOf s) ⟨#[58, 47, 47]⟩).run Tryz.prog w = .ok (.string (strOf M1)) w := fun w => by rw [hM1]; exact str_add' _ ⟨#[58, 47, 47]⟩ w (by rw [size_strOf]; show _ + 3 ≤ _; omega)
 have x2 : ∀ w, (Op.stringOp .add (strOf M1) (strOf h)).run Tryz.prog w = .ok (.string (strOf M2)) w := fun w => by rw [hM2]; exact str_add' _ (strOf h) w (by rw [size_strOf, size_strOf]; omega)
 have x3 : ∀ w, (Op.stringOp .add (strOf M2) ⟨#[58]⟩).run Tryz.prog w = .ok (.string (strOf M3)) w := fun w => by rw [hM3]; exact str_add' _ ⟨#[58]⟩ w (by rw [size_strOf]; show _ + 1 ≤ _; omega)
 have x4 : ∀ w, (Op.stringOp .add (strOf M3) (strOf I)).run Tryz.prog w = .ok (.string (strOf M4)) w := fun w => by rw [hM4]; exact str_add' _ (strOf I) w (by rw [size_strOf, size_strOf]; omega)
 have HT := hid hT
 have hp1 : (p == -1) = false := beq_eq_false_iff_ne.2 (by omega)
 have hp2 : ¬ p = -1 := by omega
 clear hfin hM1 hM2 hM3 hM4 hI l1 l2 l3 hil hs hsl hhl h0 h1 hT
 go_enter Tryz.func54, Tryz.ntmps54
 go_upto_region 1 with (fail)
 generalize hwa : World.alloc _ _ = v1
 have hxa : OB v1 (w.heap.size) (strOf s) (strOf h) p n := by rw [← hwa]; exact heap_alloc_new _ _
 have hb : Below w.heap.size w v1 := by rw [← hwa]; exact (Below.refl _ _).alloc (Nat.le_refl _) _
 have X1 := hid hxa
 clear hwa hxa
 have HB1 := hid hb
 clear hb
 obtain ⟨o0, o1, o2, o3⟩ := X1.out.facts
 go_wp2_with fail
 clear o0 o1 o2 o3
 refine (HTU.out _).mono ?_
 rintro e w2 ⟨rfl, hb⟩
 have HB2 := hid (bel HB1.out hb)
 have X1_2 := hid (X1.out.below hb)
 clear hb
 obtain ⟨o0, o1, o2, o3⟩ := X1_2.out.facts
 go_upto_region 5 with (fail)
 clear o0 o1 o2 o3
 refine wp_region_rel (by kernel_rfl) [is (.pointer (some ⟨w.heap.size, 0, none⟩)), is (.string (strOf s)), is (.string (strOf M1)), is (.pointer (some ⟨w.heap.size, 1, none⟩)), is (.string (strOf h)), is (.string (strOf M2)), is (.string (strOf M3)), is (.pointer (some ⟨w.heap.size, 2, none⟩)), is (.int .i64 p), is (.string (strOf I)), is (.string (strOf M4)), is (.string (strOf M4))] [[], [0], [1], [], [3], [2, 4], [5], [], [7], [8], [6, 9], [10]] (by kernel_rfl) ?_ ?_
 ·refine ⟨?_, ?_, ?_, ?_, ?_, ?_, ?_, ?_, ?_, ?_, ?_, ?_, trivial⟩
  ·intro t wq hbq hh K hK
   clear hh
   simp only [filled, upd, Have, is, any, row, pick, Act.put, List.setIfInBounds_toArray, List.set_cons_zero, List.set_cons_succ, Nat.reduceAdd, Nat.reduceEqDiff, reduceIte] at hK ⊢
   go_simp
   exact hK _ _ (Below.refl _ _) rfl
  ·intro t wq hbq hh K hK
   have e0 := hh.1
   simp only [pick] at e0
   replace e0 : t 0 = (.pointer (some ⟨w.heap.size, 0, none⟩)) := e0
   clear hh
   simp only [filled, upd, Have, is, any, row, pick, Act.put, List.setIfInBounds_toArray, List.set_cons_zero, List.set_cons_succ, Nat.reduceAdd, Nat.reduceEqDiff, reduceIte] at hK ⊢
   simp only [e0] at hK ⊢
   obtain ⟨o0, o1, o2, o3⟩ := (X1_2.out.below hbq).facts
   go_simp
   exact hK _ _ (Below.refl _ _) rfl
  ·intro t wq hbq hh K hK
   have e1 := hh.1
   simp only [pick] at e1
   replace e1 : t 1 = (.string (strOf s)) := e1
   clear hh
   simp only [filled, upd, Have, is, any, row, pick, Act.put, List.setIfInBounds_toArray, List.set_cons_zero, List.set_cons_succ, Nat.reduceAdd, Nat.reduceEqDiff, reduceIte] at hK ⊢
   simp only [e1] at hK ⊢
   have hadd := x1 wq
   go_simp
   exact hK _ _ (Below.refl _ _) rfl
  ·intro t wq hbq hh K hK
   clear hh
   simp only [filled, upd, Have, is, any, row, pick, Act.put, List.setIfInBounds_toArray, List.set_cons_zero, List.set_cons_succ, Nat.reduceAdd, Nat.reduceEqDiff, reduceIte] at hK ⊢
   go_simp
   exact hK _ _ (Below.refl _ _) rfl
  ·intro t wq hbq hh K hK
   have e3 := hh.1
   simp only [pick] at e3
   replace e3 : t 3 = (.pointer (some ⟨w.heap.size, 1, none⟩)) := e3
   clear hh
   simp only [filled, upd, Have, is, any, row, pick, Act.put, List.setIfInBounds_toArray, List.set_cons_zero, List.set_cons_succ, Nat.reduceAdd, Nat.reduceEqDiff, reduceIte] at hK ⊢
   simp only [e3] at hK ⊢
   obtain ⟨o0, o1, o2, o3⟩ := (X1_2.out.below hbq).facts
   go_simp
   exact hK _ _ (Below.refl _ _) rfl
  ·intro t wq hbq hh K hK
   have e2 := hh.1
   simp only [pick] at e2
   replace e2 : t 2 = (.string (strOf M1)) := e2
   have e4 := hh.2.1
   simp only [pick] at e4
   replace e4 : t 4 = (.string (strOf h)) := e4
   clear hh
   simp only [filled, upd, Have, is, any, row, pick, Act.put, List.setIfInBounds_toArray, List.set_cons_zero, List.set_cons_succ, Nat.reduceAdd, Nat.reduceEqDiff, reduceIte] at hK ⊢
   simp only [e2, e4] at hK ⊢
   have hadd := x2 wq
   go_simp
   exact hK _ _ (Below.refl _ _) rfl
  ·intro t wq hbq hh K hK
   have e5 := hh.1
   simp only [pick] at e5
   replace e5 : t 5 = (.string (strOf M2)) := e5
   clear hh
   simp only [filled, upd, Have, is, any, row, pick, Act.put, List.setIfInBounds_toArray, List.set_cons_zero, List.set_cons_succ, Nat.reduceAdd, Nat.reduceEqDiff, reduceIte] at hK ⊢
   simp only [e5] at hK ⊢
   have hadd := x3 wq
   go_simp
   exact hK _ _ (Below.refl _ _) rfl
  ·intro t wq hbq hh K hK
   clear hh
   simp only [filled, upd, Have, is, any, row, pick, Act.put, List.setIfInBounds_toArray, List.set_cons_zero, List.set_cons_succ, Nat.reduceAdd, Nat.reduceEqDiff, reduceIte] at hK ⊢
   go_simp
   exact hK _ _ (Below.refl _ _) rfl
  ·intro t wq hbq hh K hK
   have e7 := hh.1
   simp only [pick] at e7
   replace e7 : t 7 = (.pointer (some ⟨w.heap.size, 2, none⟩)) := e7
   clear hh
   simp only [filled, upd, Have, is, any, row, pick, Act.put, List.setIfInBounds_toArray, List.set_cons_zero, List.set_cons_succ, Nat.reduceAdd, Nat.reduceEqDiff, reduceIte] at hK ⊢
   simp only [e7] at hK ⊢
   obtain ⟨o0, o1, o2, o3⟩ := (X1_2.out.below hbq).facts
   go_simp
   exact hK _ _ (Below.refl _ _) rfl
  ·intro t wq hbq hh K hK
   have e8 := hh.1
   simp only [pick] at e8
   replace e8 : t 8 = (.int .i64 p) := e8
   clear hh
   simp only [filled, upd, Have, is, any, row, pick, Act.put, List.setIfInBounds_toArray, List.set_cons_zero, List.set_cons_succ, Nat.reduceAdd, Nat.reduceEqDiff, reduceIte] at hK ⊢
   simp only [e8] at hK ⊢
   go_simp
   refine (HIT.out _ (pow_below HT.out (bel HB2.out hbq))).mono ?_
   rintro e w5 ⟨rfl, hb5⟩
   exact hK _ _ hb5 rfl
  ·intro t wq hbq hh K hK
   have e6 := hh.1
   simp only [pick] at e6
   replace e6 : t 6 = (.string (strOf M3)) := e6
   have e9 := hh.2.1
   simp only [pick] at e9
   replace e9 : t 9 = (.string (strOf I)) := e9
   clear hh
   simp only [filled, upd, Have, is, any, row, pick, Act.put, List.setIfInBounds_toArray, List.set_cons_zero, List.set_cons_succ, Nat.reduceAdd, Nat.reduceEqDiff, reduceIte] at hK ⊢
   simp only [e6, e9] at hK ⊢
   have hadd := x4 wq
   go_simp
   exact hK _ _ (Below.refl _ _) rfl
  ·intro t wq hbq hh K hK
   have e10 := hh.1
   simp only [pick] at e10
   replace e10 : t 10 = (.string (strOf M4)) := e10
   clear hh
   simp only [filled, upd, Have, is, any, row, pick, Act.put, List.setIfInBounds_toArray, List.set_cons_zero, List.set_cons_succ, Nat.reduceAdd, Nat.reduceEqDiff, reduceIte] at hK ⊢
   simp only [e10] at hK ⊢
   go_simp
   exact hK _ _ (Below.refl _ _) rfl
 ·intro t wq hbq hh
  have f11 := have_get hh 11 (by decide)
  simp only [pick] at f11
  replace f11 : t 11 = (.string (strOf M4)) := f11
  clear hh
  simp only [filled, upd, Have, is, any, row, pick, Act.put, List.setIfInBounds_toArray, List.set_cons_zero, List.set_cons_succ, Nat.reduceAdd, Nat.reduceEqDiff, reduceIte]
  simp only [f11]
  go_wp2
  go_ret
  exact ⟨rfl, bel HB2.out hbq⟩
def T13 : List UInt8 := [98, 108, 111, 98, 58, 104, 116, 116, 112, 115, 58, 47, 47, 97, 58, 56, 52, 52, 51, 47, 120]
def I13 : List UInt8 := [104, 116, 116, 112, 115, 58, 47, 47, 97, 58, 56, 52, 52, 51, 47, 120]
theorem demo13 : ((PrsP.url T13 none).map fun u => (u.sch, u.opq, u.txt)) = some ([98, 108, 111, 98], true, I13) ∧ ((PrsP.url I13 none).map fun v => (v.sch, v.hst, v.port)) = some ([104, 116, 116, 112, 115], [97], 8443) := by decide +kernel
theorem demo13b : ∃ u v, PrsP.url T13 none = some u ∧ u.sch = [98, 108, 111, 98] ∧ u.opq = true ∧ u.txt = I13 ∧ PrsP.url I13 none = some v ∧ v.sch = [104, 116, 116, 112, 115] ∧ v.hst = [97] ∧ v.port = 8443 := by
 obtain ⟨h1, h2⟩ := demo13
 obtain ⟨u, hu, e1⟩ := Option.map_eq_some_iff.1 h1
 obtain ⟨v, hv, e2⟩ := Option.map_eq_some_iff.1 h2
 simp only [Prod.mk.injEq] at e1 e2
 exact ⟨u, v, hu, e1.1, e1.2.1, e1.2.2, hv, e2.1, e2.2.1, e2.2.2⟩
theorem want13 : ([104, 116, 116, 112, 115] : List UInt8) ++ [58, 47, 47] ++ [97] ++ [58] ++ Lib.itoa 8443 = [104, 116, 116, 112, 115, 58, 47, 47, 97, 58, 56, 52, 52, 51] := by decide +kernel
set_option maxRecDepth 100000 in
set_option maxHeartbeats 8000000 in
theorem awake_any (w : World) (hE : Env w) : Calls Tryz.prog 18 #[] w fun e w' => e = .returned (.bool true) ∧ Below w.heap.size w w' := by
 obtain ⟨u, v, h1, h2, h3, h4, h5, h6, h7, h8⟩ := demo13b
 have HE := hid hE
 have f1 := url_fit (M := 0) h1 (fun _ e => by cases e)
 have HP1 : Hid (∀ w, Env w → Calls Tryz.prog 12 #[.string ⟨#[98, 108, 111, 98, 58, 104, 116, 116, 112, 115, 58, 47, 47, 97, 58, 56, 52, 52, 51, 47, 120]⟩, .pointer none] w fun e w' => ∃ A' n' c', e = .returned (.tuple #[.agg #[.string (strOf u.sch), .string (strOf u.usr), .string (strOf u.pwd), .string (strOf u.hst), .bool u.hh, .int .i64 u.port, .bool u.opq, .string (strOf u.txt), .slice A' n' c', .bool u.hq, .bool u.hf, .string (strOf u.qry), .string (strOf u.frg)], .int .i64 0]) ∧ Pt w' u A' n' c' ∧ Below w.heap.size w w') := fun w E => parse_some (T := ⟨#[98, 108, 111, 98, 58, 104, 116, 116, 112, 115, 58, 47, 47, 97, 58, 56, 52, 52, 51, 47, 120]⟩) h1 (by decide) w E
 have HOF : Hid (∀ (A : Option Addr) (n c : Nat) (w : World), Pt w u A n c → Env w → Calls Tryz.prog 19 #[.agg #[.string (strOf u.sch), .string (strOf u.usr), .string (strOf u.pwd), .string (strOf u.hst), .bool u.hh, .int .i64 u.port, .bool u.opq, .string (strOf u.txt), .slice A n c, .bool u.hq, .bool u.hf, .string (strOf u.qry), .string (strOf u.frg)]] w fun e w' => e = .returned (.tuple #[.agg #[.string (strOf [104, 116, 116, 112, 115]), .string (strOf [97]), .int .i64 8443, .int .i64 0], .bool true]) ∧ Below w.heap.size w w') := fun A n c w hP E => by
  have h := of_blob u v (strOf I13) A n c w h2 (fun w hP => by
   obtain ⟨k1, k2, k3, k4, k5, k6, k7, k8⟩ := fit_sizes f1 (by decide)
   have hh := UrlB.path_any (strOf u.sch) (strOf u.usr) (strOf u.pwd) (strOf u.hst) u.hh u.port u.opq (strOf u.txt) A n c u.pth u.hq u.hf (strOf u.qry) (strOf u.frg) w hP.pth.1 hP.pth.2.1 hP.pth.2.2 k5 k8
   rw [show UrlP.pathL u.opq (strOf u.txt) u.pth = I13 from by rw [h3, h4]; rfl] at hh
   exact hh) (fun w E => parse_some (T := strOf I13) h5 (by decide) w E) h6 E hP
  rw [h6, h7, h8] at h
  exact h
 have HPR : Hid (∀ w : World, Tab.Pow w → Calls Tryz.prog 54 #[.agg #[.string (strOf [104, 116, 116, 112, 115]), .string (strOf [97]), .int .i64 8443, .int .i64 0]] w fun e w' => e = .returned (.string (strOf [104, 116, 116, 112, 115, 58, 47, 47, 97, 58, 56, 52, 52, 51])) ∧ Below w.heap.size w w') := fun w hT => by
  have h := print_o [104, 116, 116, 112, 115] [97] 8443 0 w (by decide) (by decide) (by decide) (by decide) (by decide) hT
  rw [want13] at h
  exact h
 have HTU : Hid (∀ w : World, Calls Tryz.prog 21 #[.agg #[.string (strOf [104, 116, 116, 112, 115]), .string (strOf [97]), .int .i64 8443, .int .i64 0]] w fun e w' => e = .returned (.bool true) ∧ Below w.heap.size w w') := fun w => tuple_any (strOf [104, 116, 116, 112, 115]) (strOf [97]) 8443 0 w
 have q1 : (strOf [104, 116, 116, 112, 115, 58, 47, 47, 97, 58, 56, 52, 52, 51]).toList = [104, 116, 116, 112, 115, 58, 47, 47, 97, 58, 56, 52, 52, 51] := str_tl _
 clear h1 h2 h3 h4 h5 h6 h7 h8 f1 hE
 go_enter Tryz.func18, Tryz.ntmps18
 go_wp2_with fail
 refine (HP1.out _ HE.out).mono ?_
 rintro e w1 ⟨A1, n1, c1, rfl, hpt, hb⟩
 have HB1 := hid hb
 have E_1 := hid (HE.out.below hb)
 clear hb
 have T1 := hid (hpt)
 clear hpt
 go_upto_region 2 with (fail)
 generalize hwa : World.alloc _ _ = v2
 have hxa : UB v2 (w1.heap.size) u (.slice A1 n1 c1) := by rw [← hwa]; exact heap_alloc_new _ _
 have hb : Below w1.heap.size w1 v2 := by rw [← hwa]; exact (Below.refl _ _).alloc (Nat.le_refl _) _
 have X1 := hid hxa
 clear hwa hxa
 have HB2 := hid (bel HB1.out hb)
 have E_2 := hid (E_1.out.below hb)
 have T1_2 := hid (T1.out.below hb)
 clear hb
 obtain ⟨ka0, ka1, ka2, ka3, ka4, ka5, ka6, ka7, ka8, ka9, ka10, ka11, ka12⟩ := X1.out.facts
 go_wp2_with fail
 clear ka0 ka1 ka2 ka3 ka4 ka5 ka6 ka7 ka8 ka9 ka10 ka11 ka12
 refine (HOF.out _ _ _ _ T1_2.out E_2.out).mono ?_
 rintro e w3 ⟨rfl, hb⟩
 have HB3 := hid (bel HB2.out hb)
 have E_3 := hid (E_2.out.below hb)
 have T1_3 := hid (T1_2.out.below hb)
 have X1_3 := hid (X1.out.below hb)
 clear hb
 go_upto_region 3 with (fail)
 generalize hwa : World.alloc _ _ = v4
 have hxa : OB v4 (w3.heap.size) (strOf [104, 116, 116, 112, 115]) (strOf [97]) 8443 0 := by rw [← hwa]; exact heap_alloc_new _ _
 have hb : Below w3.heap.size w3 v4 := by rw [← hwa]; exact (Below.refl _ _).alloc (Nat.le_refl _) _
 have X2 := hid hxa
 clear hwa hxa
 have HB4 := hid (bel HB3.out hb)
 have E_4 := hid (E_3.out.below hb)
 have T1_4 := hid (T1_3.out.below hb)
 have X1_4 := hid (X1_3.out.below hb)
 clear hb
 obtain ⟨o0, o1, o2, o3⟩ := X2.out.facts
 go_wp2_with fail
 clear o0 o1 o2 o3
 refine (HPR.out _ E_4.out.pow).mono ?_
 rintro e w5 ⟨rfl, hb⟩
 have HB5 := hid (bel HB4.out hb)
 have E_5 := hid (E_4.out.below hb)
 have T1_5 := hid (T1_4.out.below hb)
 have X1_5 := hid (X1_4.out.below hb)
 have X2_5 := hid (X2.out.below hb)
 clear hb
 obtain ⟨o0, o1, o2, o3⟩ := X2_5.out.facts
 go_wp2_with fail
 clear o0 o1 o2 o3
 refine (HTU.out _).mono ?_
 rintro e w6 ⟨rfl, hb⟩
 have HB6 := hid (bel HB5.out hb)
 have E_6 := hid (E_5.out.below hb)
 have T1_6 := hid (T1_5.out.below hb)
 have X1_6 := hid (X1_5.out.below hb)
 have X2_6 := hid (X2_5.out.below hb)
 clear hb
 go_wp2
 go_ret
 exact ⟨rfl, HB6.out⟩
end Go.Proofs.YtmdofbccebkbiaaGreatDoor.OrgW
namespace Go.Proofs.YtmdofbccebkbiaaGreatDoor.OrgX
open Go.RowKit Base Base2 UtfL UrlA UrlC UrlF HstC PrsP Ubx PrsC PrsD SixG Spl PrsG PrsR PrsV PrsY Ulw OrgA OrgW
set_option linter.unusedSimpArgs false
set_option linter.unusedVariables false
def five (s : List UInt8) : Prop := s = [102, 116, 112] ∨ s = [104, 116, 116, 112] ∨ s = [104, 116, 116, 112, 115] ∨ s = [119, 115] ∨ s = [119, 115, 115]
set_option maxRecDepth 100000 in
set_option maxHeartbeats 8000000 in
theorem of_five (u : U) (A : Option Addr) (n c : Nat) (w : World) (hs : five u.sch) : Calls Tryz.prog 19 #[.agg #[.string (strOf u.sch), .string (strOf u.usr), .string (strOf u.pwd), .string (strOf u.hst), .bool u.hh, .int .i64 u.port, .bool u.opq, .string (strOf u.txt), .slice A n c, .bool u.hq, .bool u.hf, .string (strOf u.qry), .string (strOf u.frg)]] w fun e w' => e = .returned (.tuple #[.agg #[.string (strOf u.sch), .string (strOf u.hst), .int .i64 u.port, .int .i64 0], .bool true]) ∧ Below w.heap.size w w' := by
 unfold five at hs
 rcases hs with hs | hs | hs | hs | hs
 ·
  have e0hs : ((strOf u.sch).toList == [102, 116, 112]) = true := by rw [str_tl, hs]; first | done | rfl
  have e1hs : (strOf u.sch).toList = [102, 116, 112] := by rw [str_tl, hs]; first | done | rfl
  clear hs 
  go_enter Tryz.func19, Tryz.ntmps19
  go_upto_region 1 with (fail)
  generalize hwa : World.alloc (World.alloc w _) _ = v1
  have h1_ : UB v1 w.heap.size u (.slice A n c) ∧ OB v1 (w.heap.size + 1) ⟨#[]⟩ ⟨#[]⟩ 0 0 ∧ Below w.heap.size w v1 := by
   subst hwa
   exact laid2 w _ _ _ _
  clear hwa
  have X1 := hid h1_.1
  have X2 := hid h1_.2.1
  have hb := h1_.2.2
  clear h1_
  have HB1 := hid hb
  clear hb
  obtain ⟨d0, d1, d2, d3, d4, d5, d6, d7, d8, d9, d10, d11, d12⟩ := X1.out.facts
  go_wp2_with (refine store_ob X2.out (strOf u.sch) (strOf u.hst) u.port 0 (.tmp 2) (.tmp 20) rfl rfl rfl (by first | rfl | (simp [*]; done)) ?_)
  try simp only [Exit.inBlock, Exit.then]
  exact bodyPost_ret (w := World.setRow v1 (w.heap.size + 1) #[.string (strOf u.sch), .string (strOf u.hst), .int .i64 u.port, .int .i64 0]) (res2o rfl (OB.row X2.out _ _ _ _) true _ rfl rfl) rfl ⟨rfl, below_setRow HB1.out (Nat.le_succ _) _⟩
 ·
  have nftp : ¬ u.sch = [102, 116, 112] := by rw [hs]; decide
  have e0nftp : ((strOf u.sch).toList == [102, 116, 112]) = false := by rw [str_tl, beq_eq_false_iff_ne]; exact nftp
  have e1nftp : ¬ (strOf u.sch).toList = [102, 116, 112] := by rw [str_tl]; exact nftp
  have e0hs : ((strOf u.sch).toList == [104, 116, 116, 112]) = true := by rw [str_tl, hs]; first | done | rfl
  have e1hs : (strOf u.sch).toList = [104, 116, 116, 112] := by rw [str_tl, hs]; first | done | rfl
  clear hs nftp
  go_enter Tryz.func19, Tryz.ntmps19
  go_upto_region 1 with (fail)
  generalize hwa : World.alloc (World.alloc w _) _ = v1
  have h1_ : UB v1 w.heap.size u (.slice A n c) ∧ OB v1 (w.heap.size + 1) ⟨#[]⟩ ⟨#[]⟩ 0 0 ∧ Below w.heap.size w v1 := by
   subst hwa
   exact laid2 w _ _ _ _
  clear hwa
  have X1 := hid h1_.1
  have X2 := hid h1_.2.1
  have hb := h1_.2.2
  clear h1_
  have HB1 := hid hb
  clear hb
  obtain ⟨d0, d1, d2, d3, d4, d5, d6, d7, d8, d9, d10, d11, d12⟩ := X1.out.facts
  go_wp2_with (refine store_ob X2.out (strOf u.sch) (strOf u.hst) u.port 0 (.tmp 2) (.tmp 20) rfl rfl rfl (by first | rfl | (simp [*]; done)) ?_)
  try simp only [Exit.inBlock, Exit.then]
  exact bodyPost_ret (w := World.setRow v1 (w.heap.size + 1) #[.string (strOf u.sch), .string (strOf u.hst), .int .i64 u.port, .int .i64 0]) (res2o rfl (OB.row X2.out _ _ _ _) true _ rfl rfl) rfl ⟨rfl, below_setRow HB1.out (Nat.le_succ _) _⟩
 ·
  have nftp : ¬ u.sch = [102, 116, 112] := by rw [hs]; decide
  have e0nftp : ((strOf u.sch).toList == [102, 116, 112]) = false := by rw [str_tl, beq_eq_false_iff_ne]; exact nftp
  have e1nftp : ¬ (strOf u.sch).toList = [102, 116, 112] := by rw [str_tl]; exact nftp
  have nhttp : ¬ u.sch = [104, 116, 116, 112] := by rw [hs]; decide
  have e0nhttp : ((strOf u.sch).toList == [104, 116, 116, 112]) = false := by rw [str_tl, beq_eq_false_iff_ne]; exact nhttp
  have e1nhttp : ¬ (strOf u.sch).toList = [104, 116, 116, 112] := by rw [str_tl]; exact nhttp
  have e0hs : ((strOf u.sch).toList == [104, 116, 116, 112, 115]) = true := by rw [str_tl, hs]; first | done | rfl
  have e1hs : (strOf u.sch).toList = [104, 116, 116, 112, 115] := by rw [str_tl, hs]; first | done | rfl
  clear hs nftp nhttp
  go_enter Tryz.func19, Tryz.ntmps19
  go_upto_region 1 with (fail)
  generalize hwa : World.alloc (World.alloc w _) _ = v1
  have h1_ : UB v1 w.heap.size u (.slice A n c) ∧ OB v1 (w.heap.size + 1) ⟨#[]⟩ ⟨#[]⟩ 0 0 ∧ Below w.heap.size w v1 := by
   subst hwa
   exact laid2 w _ _ _ _
  clear hwa
  have X1 := hid h1_.1
  have X2 := hid h1_.2.1
  have hb := h1_.2.2
  clear h1_
  have HB1 := hid hb
  clear hb
  obtain ⟨d0, d1, d2, d3, d4, d5, d6, d7, d8, d9, d10, d11, d12⟩ := X1.out.facts
  go_wp2_with (refine store_ob X2.out (strOf u.sch) (strOf u.hst) u.port 0 (.tmp 2) (.tmp 20) rfl rfl rfl (by first | rfl | (simp [*]; done)) ?_)
  try simp only [Exit.inBlock, Exit.then]
  exact bodyPost_ret (w := World.setRow v1 (w.heap.size + 1) #[.string (strOf u.sch), .string (strOf u.hst), .int .i64 u.port, .int .i64 0]) (res2o rfl (OB.row X2.out _ _ _ _) true _ rfl rfl) rfl ⟨rfl, below_setRow HB1.out (Nat.le_succ _) _⟩
 ·
  have nftp : ¬ u.sch = [102, 116, 112] := by rw [hs]; decide
  have e0nftp : ((strOf u.sch).toList == [102, 116, 112]) = false := by rw [str_tl, beq_eq_false_iff_ne]; exact nftp
  have e1nftp : ¬ (strOf u.sch).toList = [102, 116, 112] := by rw [str_tl]; exact nftp
  have nhttp : ¬ u.sch = [104, 116, 116, 112] := by rw [hs]; decide
  have e0nhttp : ((strOf u.sch).toList == [104, 116, 116, 112]) = false := by rw [str_tl, beq_eq_false_iff_ne]; exact nhttp
  have e1nhttp : ¬ (strOf u.sch).toList = [104, 116, 116, 112] := by rw [str_tl]; exact nhttp
  have nhttps : ¬ u.sch = [104, 116, 116, 112, 115] := by rw [hs]; decide
  have e0nhttps : ((strOf u.sch).toList == [104, 116, 116, 112, 115]) = false := by rw [str_tl, beq_eq_false_iff_ne]; exact nhttps
  have e1nhttps : ¬ (strOf u.sch).toList = [104, 116, 116, 112, 115] := by rw [str_tl]; exact nhttps
  have e0hs : ((strOf u.sch).toList == [119, 115]) = true := by rw [str_tl, hs]; first | done | rfl
  have e1hs : (strOf u.sch).toList = [119, 115] := by rw [str_tl, hs]; first | done | rfl
  clear hs nftp nhttp nhttps
  go_enter Tryz.func19, Tryz.ntmps19
  go_upto_region 1 with (fail)
  generalize hwa : World.alloc (World.alloc w _) _ = v1
  have h1_ : UB v1 w.heap.size u (.slice A n c) ∧ OB v1 (w.heap.size + 1) ⟨#[]⟩ ⟨#[]⟩ 0 0 ∧ Below w.heap.size w v1 := by
   subst hwa
   exact laid2 w _ _ _ _
  clear hwa
  have X1 := hid h1_.1
  have X2 := hid h1_.2.1
  have hb := h1_.2.2
  clear h1_
  have HB1 := hid hb
  clear hb
  obtain ⟨d0, d1, d2, d3, d4, d5, d6, d7, d8, d9, d10, d11, d12⟩ := X1.out.facts
  go_wp2_with (refine store_ob X2.out (strOf u.sch) (strOf u.hst) u.port 0 (.tmp 2) (.tmp 20) rfl rfl rfl (by first | rfl | (simp [*]; done)) ?_)
  try simp only [Exit.inBlock, Exit.then]
  exact bodyPost_ret (w := World.setRow v1 (w.heap.size + 1) #[.string (strOf u.sch), .string (strOf u.hst), .int .i64 u.port, .int .i64 0]) (res2o rfl (OB.row X2.out _ _ _ _) true _ rfl rfl) rfl ⟨rfl, below_setRow HB1.out (Nat.le_succ _) _⟩
 ·
  have nftp : ¬ u.sch = [102, 116, 112] := by rw [hs]; decide
  have e0nftp : ((strOf u.sch).toList == [102, 116, 112]) = false := by rw [str_tl, beq_eq_false_iff_ne]; exact nftp
  have e1nftp : ¬ (strOf u.sch).toList = [102, 116, 112] := by rw [str_tl]; exact nftp
  have nhttp : ¬ u.sch = [104, 116, 116, 112] := by rw [hs]; decide
  have e0nhttp : ((strOf u.sch).toList == [104, 116, 116, 112]) = false := by rw [str_tl, beq_eq_false_iff_ne]; exact nhttp
  have e1nhttp : ¬ (strOf u.sch).toList = [104, 116, 116, 112] := by rw [str_tl]; exact nhttp
  have nhttps : ¬ u.sch = [104, 116, 116, 112, 115] := by rw [hs]; decide
  have e0nhttps : ((strOf u.sch).toList == [104, 116, 116, 112, 115]) = false := by rw [str_tl, beq_eq_false_iff_ne]; exact nhttps
  have e1nhttps : ¬ (strOf u.sch).toList = [104, 116, 116, 112, 115] := by rw [str_tl]; exact nhttps
  have nws : ¬ u.sch = [119, 115] := by rw [hs]; decide
  have e0nws : ((strOf u.sch).toList == [119, 115]) = false := by rw [str_tl, beq_eq_false_iff_ne]; exact nws
  have e1nws : ¬ (strOf u.sch).toList = [119, 115] := by rw [str_tl]; exact nws
  have e0hs : ((strOf u.sch).toList == [119, 115, 115]) = true := by rw [str_tl, hs]; first | done | rfl
  have e1hs : (strOf u.sch).toList = [119, 115, 115] := by rw [str_tl, hs]; first | done | rfl
  clear hs nftp nhttp nhttps nws
  go_enter Tryz.func19, Tryz.ntmps19
  go_upto_region 1 with (fail)
  generalize hwa : World.alloc (World.alloc w _) _ = v1
  have h1_ : UB v1 w.heap.size u (.slice A n c) ∧ OB v1 (w.heap.size + 1) ⟨#[]⟩ ⟨#[]⟩ 0 0 ∧ Below w.heap.size w v1 := by
   subst hwa
   exact laid2 w _ _ _ _
  clear hwa
  have X1 := hid h1_.1
  have X2 := hid h1_.2.1
  have hb := h1_.2.2
  clear h1_
  have HB1 := hid hb
  clear hb
  obtain ⟨d0, d1, d2, d3, d4, d5, d6, d7, d8, d9, d10, d11, d12⟩ := X1.out.facts
  go_wp2_with (refine store_ob X2.out (strOf u.sch) (strOf u.hst) u.port 0 (.tmp 2) (.tmp 20) rfl rfl rfl (by first | rfl | (simp [*]; done)) ?_)
  try simp only [Exit.inBlock, Exit.then]
  exact bodyPost_ret (w := World.setRow v1 (w.heap.size + 1) #[.string (strOf u.sch), .string (strOf u.hst), .int .i64 u.port, .int .i64 0]) (res2o rfl (OB.row X2.out _ _ _ _) true _ rfl rfl) rfl ⟨rfl, below_setRow HB1.out (Nat.le_succ _) _⟩
set_option maxRecDepth 100000 in
set_option maxHeartbeats 8000000 in
theorem of_none (u : U) (A : Option Addr) (n c : Nat) (w : World) (hs : ¬ five u.sch) (hb : u.sch ≠ [98, 108, 111, 98]) : Calls Tryz.prog 19 #[.agg #[.string (strOf u.sch), .string (strOf u.usr), .string (strOf u.pwd), .string (strOf u.hst), .bool u.hh, .int .i64 u.port, .bool u.opq, .string (strOf u.txt), .slice A n c, .bool u.hq, .bool u.hf, .string (strOf u.qry), .string (strOf u.frg)]] w fun e w' => e = .returned (.tuple #[.agg #[.string ⟨#[]⟩, .string ⟨#[]⟩, .int .i64 0, .int .i64 0], .bool false]) ∧ Below w.heap.size w w' := by
 unfold five at hs
 have nftp : ¬ u.sch = [102, 116, 112] := fun e => hs (.inl e)
 have e0nftp : ((strOf u.sch).toList == [102, 116, 112]) = false := by rw [str_tl, beq_eq_false_iff_ne]; exact nftp
 have e1nftp : ¬ (strOf u.sch).toList = [102, 116, 112] := by rw [str_tl]; exact nftp
 have nhttp : ¬ u.sch = [104, 116, 116, 112] := fun e => hs (.inr (.inl e))
 have e0nhttp : ((strOf u.sch).toList == [104, 116, 116, 112]) = false := by rw [str_tl, beq_eq_false_iff_ne]; exact nhttp
 have e1nhttp : ¬ (strOf u.sch).toList = [104, 116, 116, 112] := by rw [str_tl]; exact nhttp
 have nhttps : ¬ u.sch = [104, 116, 116, 112, 115] := fun e => hs (.inr (.inr (.inl e)))
 have e0nhttps : ((strOf u.sch).toList == [104, 116, 116, 112, 115]) = false := by rw [str_tl, beq_eq_false_iff_ne]; exact nhttps
 have e1nhttps : ¬ (strOf u.sch).toList = [104, 116, 116, 112, 115] := by rw [str_tl]; exact nhttps
 have nws : ¬ u.sch = [119, 115] := fun e => hs (.inr (.inr (.inr (.inl e))))
 have e0nws : ((strOf u.sch).toList == [119, 115]) = false := by rw [str_tl, beq_eq_false_iff_ne]; exact nws
 have e1nws : ¬ (strOf u.sch).toList = [119, 115] := by rw [str_tl]; exact nws
 have nwss : ¬ u.sch = [119, 115, 115] := fun e => hs (.inr (.inr (.inr (.inr (e)))))
 have e0nwss : ((strOf u.sch).toList == [119, 115, 115]) = false := by rw [str_tl, beq_eq_false_iff_ne]; exact nwss
 have e1nwss : ¬ (strOf u.sch).toList = [119, 115, 115] := by rw [str_tl]; exact nwss
 have e0hb : ((strOf u.sch).toList == [98, 108, 111, 98]) = false := by rw [str_tl, beq_eq_false_iff_ne]; exact hb
 have e1hb : ¬ (strOf u.sch).toList = [98, 108, 111, 98] := by rw [str_tl]; exact hb
 clear hs hb nftp nhttp nhttps nws nwss
 go_enter Tryz.func19, Tryz.ntmps19
 go_upto_region 1 with (fail)
 generalize hwa : World.alloc (World.alloc w _) _ = v1
 have h1_ : UB v1 w.heap.size u (.slice A n c) ∧ OB v1 (w.heap.size + 1) ⟨#[]⟩ ⟨#[]⟩ 0 0 ∧ Below w.heap.size w v1 := by
  subst hwa
  exact laid2 w _ _ _ _
 clear hwa
 have X1 := hid h1_.1
 have X2 := hid h1_.2.1
 have hb := h1_.2.2
 clear h1_
 have HB1 := hid hb
 clear hb
 obtain ⟨d0, d1, d2, d3, d4, d5, d6, d7, d8, d9, d10, d11, d12⟩ := X1.out.facts
 go_wp2_with (refine store_ob X2.out ⟨#[]⟩ ⟨#[]⟩ 0 0 (.tmp 2) (.tmp 45) rfl rfl rfl rfl ?_)
 try simp only [Exit.inBlock, Exit.then]
 exact bodyPost_ret (w := World.setRow v1 (w.heap.size + 1) #[.string ⟨#[]⟩, .string ⟨#[]⟩, .int .i64 0, .int .i64 0]) (res2o rfl (OB.row X2.out _ _ _ _) false _ rfl rfl) rfl ⟨rfl, below_setRow HB1.out (Nat.le_succ _) _⟩
set_option maxRecDepth 100000 in
set_option maxHeartbeats 8000000 in
theorem of_blob_none (u v : U) (T : ByteArray) (A : Option Addr) (n c : Nat) (w : World) (hs : u.sch = [98, 108, 111, 98]) (HPA : Hid (∀ w : World, Pt w u A n c → Calls Tryz.prog 55 #[.agg #[.string (strOf u.sch), .string (strOf u.usr), .string (strOf u.pwd), .string (strOf u.hst), .bool u.hh, .int .i64 u.port, .bool u.opq, .string (strOf u.txt), .slice A n c, .bool u.hq, .bool u.hf, .string (strOf u.qry), .string (strOf u.frg)]] w fun e w' => e = .returned (.string T) ∧ Below w.heap.size w w')) (HP : Hid (∀ w, Env w → Calls Tryz.prog 12 #[.string T, .pointer none] w fun e w' => ∃ A' n' c', e = .returned (.tuple #[.agg #[.string (strOf v.sch), .string (strOf v.usr), .string (strOf v.pwd), .string (strOf v.hst), .bool v.hh, .int .i64 v.port, .bool v.opq, .string (strOf v.txt), .slice A' n' c', .bool v.hq, .bool v.hf, .string (strOf v.qry), .string (strOf v.frg)], .int .i64 2]) ∧ Pt w' v A' n' c' ∧ Below w.heap.size w w')) (hE : Env w) (hP : Pt w u A n c) : Calls Tryz.prog 19 #[.agg #[.string (strOf u.sch), .string (strOf u.usr), .string (strOf u.pwd), .string (strOf u.hst), .bool u.hh, .int .i64 u.port, .bool u.opq, .string (strOf u.txt), .slice A n c, .bool u.hq, .bool u.hf, .string (strOf u.qry), .string (strOf u.frg)]] w fun e w' => e = .returned (.tuple #[.agg #[.string ⟨#[]⟩, .string ⟨#[]⟩, .int .i64 0, .int .i64 0], .bool false]) ∧ Below w.heap.size w w' := by
 have nftp : ¬ u.sch = [102, 116, 112] := by rw [hs]; decide
 have e0nftp : ((strOf u.sch).toList == [102, 116, 112]) = false := by rw [str_tl, beq_eq_false_iff_ne]; exact nftp
 have e1nftp : ¬ (strOf u.sch).toList = [102, 116, 112] := by rw [str_tl]; exact nftp
 have nhttp : ¬ u.sch = [104, 116, 116, 112] := by rw [hs]; decide
 have e0nhttp : ((strOf u.sch).toList == [104, 116, 116, 112]) = false := by rw [str_tl, beq_eq_false_iff_ne]; exact nhttp
 have e1nhttp : ¬ (strOf u.sch).toList = [104, 116, 116, 112] := by rw [str_tl]; exact nhttp
 have nhttps : ¬ u.sch = [104, 116, 116, 112, 115] := by rw [hs]; decide
 have e0nhttps : ((strOf u.sch).toList == [104, 116, 116, 112, 115]) = false := by rw [str_tl, beq_eq_false_iff_ne]; exact nhttps
 have e1nhttps : ¬ (strOf u.sch).toList = [104, 116, 116, 112, 115] := by rw [str_tl]; exact nhttps
 have nws : ¬ u.sch = [119, 115] := by rw [hs]; decide
 have e0nws : ((strOf u.sch).toList == [119, 115]) = false := by rw [str_tl, beq_eq_false_iff_ne]; exact nws
 have e1nws : ¬ (strOf u.sch).toList = [119, 115] := by rw [str_tl]; exact nws
 have nwss : ¬ u.sch = [119, 115, 115] := by rw [hs]; decide
 have e0nwss : ((strOf u.sch).toList == [119, 115, 115]) = false := by rw [str_tl, beq_eq_false_iff_ne]; exact nwss
 have e1nwss : ¬ (strOf u.sch).toList = [119, 115, 115] := by rw [str_tl]; exact nwss
 have e0hs : ((strOf u.sch).toList == [98, 108, 111, 98]) = true := by rw [str_tl, hs]; first | done | rfl
 have e1hs : (strOf u.sch).toList = [98, 108, 111, 98] := by rw [str_tl, hs]; first | done | rfl
 have HE := hid hE
 have HPT := hid hP
 clear hs hE hP nftp nhttp nhttps nws nwss
 go_enter Tryz.func19, Tryz.ntmps19
 go_upto_region 1 with (fail)
 generalize hwa : World.alloc (World.alloc w _) _ = v1
 have h1_ : UB v1 w.heap.size u (.slice A n c) ∧ OB v1 (w.heap.size + 1) ⟨#[]⟩ ⟨#[]⟩ 0 0 ∧ Below w.heap.size w v1 := by
  subst hwa
  exact laid2 w _ _ _ _
 clear hwa
 have X1 := hid h1_.1
 have X2 := hid h1_.2.1
 have hb := h1_.2.2
 clear h1_
 have HB1 := hid hb
 clear hb
 have HE_1 := hid (HE.out.below HB1.out)
 have HT_1 := hid (HPT.out.below HB1.out)
 obtain ⟨d0, d1, d2, d3, d4, d5, d6, d7, d8, d9, d10, d11, d12⟩ := X1.out.facts
 go_wp2_with fail
 clear d0 d1 d2 d3 d4 d5 d6 d7 d8 d9 d10 d11 d12
 refine (HPA.out _ HT_1.out).mono ?_
 rintro e w2 ⟨rfl, hb⟩
 have HB2 := hid (bel HB1.out hb)
 have X1_2 := hid (X1.out.below hb)
 have X2_2 := hid (X2.out.below hb)
 have E_2 := hid (HE_1.out.below hb)
 have T1_2 := hid (HT_1.out.below hb)
 clear hb
 go_wp2_with fail
 refine (HP.out _ E_2.out).mono ?_
 rintro e w3 ⟨A2, n2, c2, rfl, hpt, hb⟩
 have HB3 := hid (bel HB2.out hb)
 have X1_3 := hid (X1_2.out.below hb)
 have X2_3 := hid (X2_2.out.below hb)
 have E_3 := hid (E_2.out.below hb)
 have T1_3 := hid (T1_2.out.below hb)
 clear hb
 clear hpt
 go_upto_region 12 with (fail)
 generalize hwa : World.alloc _ _ = v4
 have hxa : UB v4 (w3.heap.size) v (.slice A2 n2 c2) := by rw [← hwa]; exact heap_alloc_new _ _
 have hb : Below w3.heap.size w3 v4 := by rw [← hwa]; exact (Below.refl _ _).alloc (Nat.le_refl _) _
 have X3 := hid hxa
 clear hwa hxa
 have HB4 := hid (bel HB3.out hb)
 have X1_4 := hid (X1_3.out.below hb)
 have X2_4 := hid (X2_3.out.below hb)
 have E_4 := hid (E_3.out.below hb)
 have T1_4 := hid (T1_3.out.below hb)
 clear hb
 go_wp2_with (refine store_ob X2_4.out ⟨#[]⟩ ⟨#[]⟩ 0 0 (.tmp 2) (.tmp 45) rfl rfl rfl rfl ?_)
 try simp only [Exit.inBlock, Exit.then]
 exact bodyPost_ret (w := World.setRow v4 (w.heap.size + 1) #[.string ⟨#[]⟩, .string ⟨#[]⟩, .int .i64 0, .int .i64 0]) (res2o rfl (OB.row X2_4.out _ _ _ _) false _ rfl rfl) rfl ⟨rfl, below_setRow HB4.out (Nat.le_succ _) _⟩
set_option maxRecDepth 100000 in
set_option maxHeartbeats 8000000 in
theorem of_blob_other (u v : U) (T : ByteArray) (A : Option Addr) (n c : Nat) (w : World) (hs : u.sch = [98, 108, 111, 98]) (HPA : Hid (∀ w : World, Pt w u A n c → Calls Tryz.prog 55 #[.agg #[.string (strOf u.sch), .string (strOf u.usr), .string (strOf u.pwd), .string (strOf u.hst), .bool u.hh, .int .i64 u.port, .bool u.opq, .string (strOf u.txt), .slice A n c, .bool u.hq, .bool u.hf, .string (strOf u.qry), .string (strOf u.frg)]] w fun e w' => e = .returned (.string T) ∧ Below w.heap.size w w')) (HP : Hid (∀ w, Env w → Calls Tryz.prog 12 #[.string T, .pointer none] w fun e w' => ∃ A' n' c', e = .returned (.tuple #[.agg #[.string (strOf v.sch), .string (strOf v.usr), .string (strOf v.pwd), .string (strOf v.hst), .bool v.hh, .int .i64 v.port, .bool v.opq, .string (strOf v.txt), .slice A' n' c', .bool v.hq, .bool v.hf, .string (strOf v.qry), .string (strOf v.frg)], .int .i64 0]) ∧ Pt w' v A' n' c' ∧ Below w.heap.size w w')) (hv : v.sch ≠ [104, 116, 116, 112] ∧ v.sch ≠ [104, 116, 116, 112, 115]) (hE : Env w) (hP : Pt w u A n c) : Calls Tryz.prog 19 #[.agg #[.string (strOf u.sch), .string (strOf u.usr), .string (strOf u.pwd), .string (strOf u.hst), .bool u.hh, .int .i64 u.port, .bool u.opq, .string (strOf u.txt), .slice A n c, .bool u.hq, .bool u.hf, .string (strOf u.qry), .string (strOf u.frg)]] w fun e w' => e = .returned (.tuple #[.agg #[.string ⟨#[]⟩, .string ⟨#[]⟩, .int .i64 0, .int .i64 0], .bool false]) ∧ Below w.heap.size w w' := by
 have nftp : ¬ u.sch = [102, 116, 112] := by rw [hs]; decide
 have e0nftp : ((strOf u.sch).toList == [102, 116, 112]) = false := by rw [str_tl, beq_eq_false_iff_ne]; exact nftp
 have e1nftp : ¬ (strOf u.sch).toList = [102, 116, 112] := by rw [str_tl]; exact nftp
 have nhttp : ¬ u.sch = [104, 116, 116, 112] := by rw [hs]; decide
 have e0nhttp : ((strOf u.sch).toList == [104, 116, 116, 112]) = false := by rw [str_tl, beq_eq_false_iff_ne]; exact nhttp
 have e1nhttp : ¬ (strOf u.sch).toList = [104, 116, 116, 112] := by rw [str_tl]; exact nhttp
 have nhttps : ¬ u.sch = [104, 116, 116, 112, 115] := by rw [hs]; decide
 have e0nhttps : ((strOf u.sch).toList == [104, 116, 116, 112, 115]) = false := by rw [str_tl, beq_eq_false_iff_ne]; exact nhttps
 have e1nhttps : ¬ (strOf u.sch).toList = [104, 116, 116, 112, 115] := by rw [str_tl]; exact nhttps
 have nws : ¬ u.sch = [119, 115] := by rw [hs]; decide
 have e0nws : ((strOf u.sch).toList == [119, 115]) = false := by rw [str_tl, beq_eq_false_iff_ne]; exact nws
 have e1nws : ¬ (strOf u.sch).toList = [119, 115] := by rw [str_tl]; exact nws
 have nwss : ¬ u.sch = [119, 115, 115] := by rw [hs]; decide
 have e0nwss : ((strOf u.sch).toList == [119, 115, 115]) = false := by rw [str_tl, beq_eq_false_iff_ne]; exact nwss
 have e1nwss : ¬ (strOf u.sch).toList = [119, 115, 115] := by rw [str_tl]; exact nwss
 have e0hs : ((strOf u.sch).toList == [98, 108, 111, 98]) = true := by rw [str_tl, hs]; first | done | rfl
 have e1hs : (strOf u.sch).toList = [98, 108, 111, 98] := by rw [str_tl, hs]; first | done | rfl
 obtain ⟨hv1, hv2⟩ := hv
 have e0hv1 : ((strOf v.sch).toList == [104, 116, 116, 112]) = false := by rw [str_tl, beq_eq_false_iff_ne]; exact hv1
 have e1hv1 : ¬ (strOf v.sch).toList = [104, 116, 116, 112] := by rw [str_tl]; exact hv1
 have e0hv2 : ((strOf v.sch).toList == [104, 116, 116, 112, 115]) = false := by rw [str_tl, beq_eq_false_iff_ne]; exact hv2
 have e1hv2 : ¬ (strOf v.sch).toList = [104, 116, 116, 112, 115] := by rw [str_tl]; exact hv2
 clear hv1 hv2
 have HE := hid hE
 have HPT := hid hP
 clear hs hE hP nftp nhttp nhttps nws nwss
 go_enter Tryz.func19, Tryz.ntmps19
 go_upto_region 1 with (fail)
 generalize hwa : World.alloc (World.alloc w _) _ = v1
 have h1_ : UB v1 w.heap.size u (.slice A n c) ∧ OB v1 (w.heap.size + 1) ⟨#[]⟩ ⟨#[]⟩ 0 0 ∧ Below w.heap.size w v1 := by
  subst hwa
  exact laid2 w _ _ _ _
 clear hwa
 have X1 := hid h1_.1
 have X2 := hid h1_.2.1
 have hb := h1_.2.2
 clear h1_
 have HB1 := hid hb
 clear hb
 have HE_1 := hid (HE.out.below HB1.out)
 have HT_1 := hid (HPT.out.below HB1.out)
 obtain ⟨d0, d1, d2, d3, d4, d5, d6, d7, d8, d9, d10, d11, d12⟩ := X1.out.facts
 go_wp2_with fail
 clear d0 d1 d2 d3 d4 d5 d6 d7 d8 d9 d10 d11 d12
 refine (HPA.out _ HT_1.out).mono ?_
 rintro e w2 ⟨rfl, hb⟩
 have HB2 := hid (bel HB1.out hb)
 have X1_2 := hid (X1.out.below hb)
 have X2_2 := hid (X2.out.below hb)
 have E_2 := hid (HE_1.out.below hb)
 have T1_2 := hid (HT_1.out.below hb)
 clear hb
 go_wp2_with fail
 refine (HP.out _ E_2.out).mono ?_
 rintro e w3 ⟨A2, n2, c2, rfl, hpt, hb⟩
 have HB3 := hid (bel HB2.out hb)
 have X1_3 := hid (X1_2.out.below hb)
 have X2_3 := hid (X2_2.out.below hb)
 have E_3 := hid (E_2.out.below hb)
 have T1_3 := hid (T1_2.out.below hb)
 clear hb
 clear hpt
 go_upto_region 12 with (fail)
 generalize hwa : World.alloc _ _ = v4
 have hxa : UB v4 (w3.heap.size) v (.slice A2 n2 c2) := by rw [← hwa]; exact heap_alloc_new _ _
 have hb : Below w3.heap.size w3 v4 := by rw [← hwa]; exact (Below.refl _ _).alloc (Nat.le_refl _) _
 have X3 := hid hxa
 clear hwa hxa
 have HB4 := hid (bel HB3.out hb)
 have X1_4 := hid (X1_3.out.below hb)
 have X2_4 := hid (X2_3.out.below hb)
 have E_4 := hid (E_3.out.below hb)
 have T1_4 := hid (T1_3.out.below hb)
 clear hb
 go_wp2_with (refine store_ob X2_4.out ⟨#[]⟩ ⟨#[]⟩ 0 0 (.tmp 2) (.tmp 45) rfl rfl rfl rfl ?_)
 try simp only [Exit.inBlock, Exit.then]
 exact bodyPost_ret (w := World.setRow v4 (w.heap.size + 1) #[.string ⟨#[]⟩, .string ⟨#[]⟩, .int .i64 0, .int .i64 0]) (res2o rfl (OB.row X2_4.out _ _ _ _) false _ rfl rfl) rfl ⟨rfl, below_setRow HB4.out (Nat.le_succ _) _⟩
set_option maxRecDepth 100000 in
set_option maxHeartbeats 8000000 in
theorem of_blob_http (u v : U) (T : ByteArray) (A : Option Addr) (n c : Nat) (w : World) (hs : u.sch = [98, 108, 111, 98]) (HPA : Hid (∀ w : World, Pt w u A n c → Calls Tryz.prog 55 #[.agg #[.string (strOf u.sch), .string (strOf u.usr), .string (strOf u.pwd), .string (strOf u.hst), .bool u.hh, .int .i64 u.port, .bool u.opq, .string (strOf u.txt), .slice A n c, .bool u.hq, .bool u.hf, .string (strOf u.qry), .string (strOf u.frg)]] w fun e w' => e = .returned (.string T) ∧ Below w.heap.size w w')) (HP : Hid (∀ w, Env w → Calls Tryz.prog 12 #[.string T, .pointer none] w fun e w' => ∃ A' n' c', e = .returned (.tuple #[.agg #[.string (strOf v.sch), .string (strOf v.usr), .string (strOf v.pwd), .string (strOf v.hst), .bool v.hh, .int .i64 v.port, .bool v.opq, .string (strOf v.txt), .slice A' n' c', .bool v.hq, .bool v.hf, .string (strOf v.qry), .string (strOf v.frg)], .int .i64 0]) ∧ Pt w' v A' n' c' ∧ Below w.heap.size w w')) (hv : v.sch = [104, 116, 116, 112]) (hE : Env w) (hP : Pt w u A n c) : Calls Tryz.prog 19 #[.agg #[.string (strOf u.sch), .string (strOf u.usr), .string (strOf u.pwd), .string (strOf u.hst), .bool u.hh, .int .i64 u.port, .bool u.opq, .string (strOf u.txt), .slice A n c, .bool u.hq, .bool u.hf, .string (strOf u.qry), .string (strOf u.frg)]] w fun e w' => e = .returned (.tuple #[.agg #[.string (strOf v.sch), .string (strOf v.hst), .int .i64 v.port, .int .i64 0], .bool true]) ∧ Below w.heap.size w w' := by
 have nftp : ¬ u.sch = [102, 116, 112] := by rw [hs]; decide
 have e0nftp : ((strOf u.sch).toList == [102, 116, 112]) = false := by rw [str_tl, beq_eq_false_iff_ne]; exact nftp
 have e1nftp : ¬ (strOf u.sch).toList = [102, 116, 112] := by rw [str_tl]; exact nftp
 have nhttp : ¬ u.sch = [104, 116, 116, 112] := by rw [hs]; decide
 have e0nhttp : ((strOf u.sch).toList == [104, 116, 116, 112]) = false := by rw [str_tl, beq_eq_false_iff_ne]; exact nhttp
 have e1nhttp : ¬ (strOf u.sch).toList = [104, 116, 116, 112] := by rw [str_tl]; exact nhttp
 have nhttps : ¬ u.sch = [104, 116, 116, 112, 115] := by rw [hs]; decide
 have e0nhttps : ((strOf u.sch).toList == [104, 116, 116, 112, 115]) = false := by rw [str_tl, beq_eq_false_iff_ne]; exact nhttps
 have e1nhttps : ¬ (strOf u.sch).toList = [104, 116, 116, 112, 115] := by rw [str_tl]; exact nhttps
 have nws : ¬ u.sch = [119, 115] := by rw [hs]; decide
 have e0nws : ((strOf u.sch).toList == [119, 115]) = false := by rw [str_tl, beq_eq_false_iff_ne]; exact nws
 have e1nws : ¬ (strOf u.sch).toList = [119, 115] := by rw [str_tl]; exact nws
 have nwss : ¬ u.sch = [119, 115, 115] := by rw [hs]; decide
 have e0nwss : ((strOf u.sch).toList == [119, 115, 115]) = false := by rw [str_tl, beq_eq_false_iff_ne]; exact nwss
 have e1nwss : ¬ (strOf u.sch).toList = [119, 115, 115] := by rw [str_tl]; exact nwss
 have e0hs : ((strOf u.sch).toList == [98, 108, 111, 98]) = true := by rw [str_tl, hs]; first | done | rfl
 have e1hs : (strOf u.sch).toList = [98, 108, 111, 98] := by rw [str_tl, hs]; first | done | rfl
 have e0hv : ((strOf v.sch).toList == [104, 116, 116, 112]) = true := by rw [str_tl, hv]; first | done | rfl
 have e1hv : (strOf v.sch).toList = [104, 116, 116, 112] := by rw [str_tl, hv]; first | done | rfl
 have HOT : Hid (∀ (A : Option Addr) (n c : Nat) (w : World), Calls Tryz.prog 19 #[.agg #[.string (strOf v.sch), .string (strOf v.usr), .string (strOf v.pwd), .string (strOf v.hst), .bool v.hh, .int .i64 v.port, .bool v.opq, .string (strOf v.txt), .slice A n c, .bool v.hq, .bool v.hf, .string (strOf v.qry), .string (strOf v.frg)]] w fun e w' => e = .returned (.tuple #[.agg #[.string (strOf v.sch), .string (strOf v.hst), .int .i64 v.port, .int .i64 0], .bool true]) ∧ Below w.heap.size w w') := fun A n c w => of_tuple v A n c w (.inl hv)
 have HE := hid hE
 have HPT := hid hP
 clear hs hv hE hP nftp nhttp nhttps nws nwss
 go_enter Tryz.func19, Tryz.ntmps19
 go_upto_region 1 with (fail)
 generalize hwa : World.alloc (World.alloc w _) _ = v1
 have h1_ : UB v1 w.heap.size u (.slice A n c) ∧ OB v1 (w.heap.size + 1) ⟨#[]⟩ ⟨#[]⟩ 0 0 ∧ Below w.heap.size w v1 := by
  subst hwa
  exact laid2 w _ _ _ _
 clear hwa
 have X1 := hid h1_.1
 have X2 := hid h1_.2.1
 have hb := h1_.2.2
 clear h1_
 have HB1 := hid hb
 clear hb
 have HE_1 := hid (HE.out.below HB1.out)
 have HT_1 := hid (HPT.out.below HB1.out)
 obtain ⟨d0, d1, d2, d3, d4, d5, d6, d7, d8, d9, d10, d11, d12⟩ := X1.out.facts
 go_wp2_with fail
 clear d0 d1 d2 d3 d4 d5 d6 d7 d8 d9 d10 d11 d12
 refine (HPA.out _ HT_1.out).mono ?_
 rintro e w2 ⟨rfl, hb⟩
 have HB2 := hid (bel HB1.out hb)
 have X1_2 := hid (X1.out.below hb)
 have X2_2 := hid (X2.out.below hb)
 have E_2 := hid (HE_1.out.below hb)
 have T1_2 := hid (HT_1.out.below hb)
 clear hb
 go_wp2_with fail
 refine (HP.out _ E_2.out).mono ?_
 rintro e w3 ⟨A2, n2, c2, rfl, hpt, hb⟩
 have HB3 := hid (bel HB2.out hb)
 have X1_3 := hid (X1_2.out.below hb)
 have X2_3 := hid (X2_2.out.below hb)
 have E_3 := hid (E_2.out.below hb)
 have T1_3 := hid (T1_2.out.below hb)
 clear hb
 clear hpt
 go_upto_region 10 with (fail)
 generalize hwa : World.alloc _ _ = v4
 have hxa : UB v4 (w3.heap.size) v (.slice A2 n2 c2) := by rw [← hwa]; exact heap_alloc_new _ _
 have hb : Below w3.heap.size w3 v4 := by rw [← hwa]; exact (Below.refl _ _).alloc (Nat.le_refl _) _
 have X3 := hid hxa
 clear hwa hxa
 have HB4 := hid (bel HB3.out hb)
 have X1_4 := hid (X1_3.out.below hb)
 have X2_4 := hid (X2_3.out.below hb)
 have E_4 := hid (E_3.out.below hb)
 have T1_4 := hid (T1_3.out.below hb)
 clear hb
 obtain ⟨d0, d1, d2, d3, d4, d5, d6, d7, d8, d9, d10, d11, d12⟩ := X3.out.facts
 go_wp2_with fail
 clear d0 d1 d2 d3 d4 d5 d6 d7 d8 d9 d10 d11 d12
 refine (HOT.out _ _ _ _).mono ?_
 rintro e w5 ⟨rfl, hb⟩
 have HB5 := hid (bel HB4.out hb)
 have X1_5 := hid (X1_4.out.below hb)
 have X2_5 := hid (X2_4.out.below hb)
 have E_5 := hid (E_4.out.below hb)
 have T1_5 := hid (T1_4.out.below hb)
 have X3_5 := hid (X3.out.below hb)
 clear hb
 go_wp2_with (refine store_ob X2_5.out (strOf v.sch) (strOf v.hst) v.port 0 (.tmp 2) (.tmp 43) rfl rfl rfl rfl ?_)
 try simp only [Exit.inBlock, Exit.then]
 exact bodyPost_ret (w := World.setRow w5 (w.heap.size + 1) #[.string (strOf v.sch), .string (strOf v.hst), .int .i64 v.port, .int .i64 0]) (res2o rfl (OB.row X2_5.out _ _ _ _) true _ rfl rfl) rfl ⟨rfl, below_setRow HB5.out (Nat.le_succ _) _⟩
end Go.Proofs.YtmdofbccebkbiaaGreatDoor.OrgX
namespace Go.Proofs.YtmdofbccebkbiaaGreatDoor.OrgY
open Go.RowKit Base Base2 UtfL UrlA UrlC UrlF UrlH HstC PrsP Ubx PrsC PrsD SixG Spl PrsG PrsR PrsV PrsX PrsY Ulw OrgA OrgP OrgW OrgX
def off (u : U) : U := { u with hq := false, hf := false }
theorem off_print (u : U) (A : Option Addr) (n c : Nat) : refL true (strOf u.sch) (strOf u.usr) (strOf u.pwd) (strOf u.hst) u.hh u.port u.opq (strOf u.txt) A n c u.pth false false (strOf u.qry) (strOf u.frg) = printU (bareV u) := rfl
theorem bare_fit {u : U} {N : Nat} (h : Fit u N) : Fit (bareV u) N := by
 have h1 := h.all
 refine ⟨?_, h.lo, h.hi⟩
 show u.sch.length + u.usr.length + u.pwd.length + u.hst.length + u.txt.length + 0 + 0 + pl u.pth ≤ N
 omega
theorem path_h (u : U) {N : Nat} (hF : Fit u N) (hN : N ≤ 1073741824) : Hid (∀ (w : World) (A : Option Addr) (n c : Nat), Pt w u A n c → Calls Tryz.prog 55 #[.agg #[.string (strOf u.sch), .string (strOf u.usr), .string (strOf u.pwd), .string (strOf u.hst), .bool u.hh, .int .i64 u.port, .bool u.opq, .string (strOf u.txt), .slice A n c, .bool u.hq, .bool u.hf, .string (strOf u.qry), .string (strOf u.frg)]] w fun e w' => e = .returned (.string (strOf (UrlP.pathL u.opq (strOf u.txt) u.pth))) ∧ Below w.heap.size w w') := fun w A n c hP => by
 obtain ⟨k1, k2, k3, k4, k5, k6, k7, k8⟩ := fit_sizes hF hN
 exact UrlB.path_any (strOf u.sch) (strOf u.usr) (strOf u.pwd) (strOf u.hst) u.hh u.port u.opq (strOf u.txt) A n c u.pth u.hq u.hf (strOf u.qry) (strOf u.frg) w hP.pth.1 hP.pth.2.1 hP.pth.2.2 k5 k8
theorem pathL_len {u : U} {N : Nat} (h : Fit u N) : (UrlP.pathL u.opq (strOf u.txt) u.pth).length ≤ N := by
 have h1 := h.all
 unfold UrlP.pathL
 split
 ·have : (strOf u.txt).data.toList.length = u.txt.length := by rw [show (strOf u.txt).data.toList.length = (strOf u.txt).size from Array.length_toList, size_strOf]
  omega
 ·have h2 : (UrlP.pth u.pth).length = pl u.pth := rfl
  omega
theorem of_total (u : U) {N : Nat} (hF : Fit u N) (hN : N ≤ 65536) : ∃ (s h : ByteArray) (p : Int) (b : Bool), Hid (∀ (A : Option Addr) (n c : Nat) (w : World), Pt w u A n c → Env w → Calls Tryz.prog 19 #[.agg #[.string (strOf u.sch), .string (strOf u.usr), .string (strOf u.pwd), .string (strOf u.hst), .bool u.hh, .int .i64 u.port, .bool u.opq, .string (strOf u.txt), .slice A n c, .bool u.hq, .bool u.hf, .string (strOf u.qry), .string (strOf u.frg)]] w fun e w' => e = .returned (.tuple #[.agg #[.string s, .string h, .int .i64 p, .int .i64 0], .bool b]) ∧ Below w.heap.size w w') := by
 by_cases h5 : five u.sch
 ·exact ⟨_, _, _, _, fun A n c w _ _ => of_five u A n c w h5⟩
 by_cases hb : u.sch = [98, 108, 111, 98]
 ·have HPA := path_h u hF (by omega)
  have hl := pathL_len hF
  obtain ⟨T, hT⟩ : ∃ T, T = strOf (UrlP.pathL u.opq (strOf u.txt) u.pth) := ⟨_, rfl⟩
  rw [← hT] at HPA
  have hTs : T.size ≤ 65536 := by rw [hT, size_strOf]; omega
  cases ho : PrsP.url T.data.toList none with
  | none => exact ⟨_, _, _, _, fun A n c w hP E => of_blob_none u U0 T A n c w hb (fun w hP => HPA.out w A n c hP) (fun w E => parse_none rfl ho hTs w E) E hP⟩
  | some v =>
   by_cases hv : v.sch = [104, 116, 116, 112]
   ·exact ⟨_, _, _, _, fun A n c w hP E => of_blob_http u v T A n c w hb (fun w hP => HPA.out w A n c hP) (fun w E => parse_some ho hTs w E) hv E hP⟩
   by_cases hv2 : v.sch = [104, 116, 116, 112, 115]
   ·exact ⟨_, _, _, _, fun A n c w hP E => of_blob u v T A n c w hb (fun w hP => HPA.out w A n c hP) (fun w E => parse_some ho hTs w E) hv2 E hP⟩
   exact ⟨_, _, _, _, fun A n c w hP E => of_blob_other u v T A n c w hb (fun w hP => HPA.out w A n c hP) (fun w E => parse_some ho hTs w E) ⟨hv, hv2⟩ E hP⟩
 ·exact ⟨_, _, _, _, fun A n c w _ _ => of_none u A n c w h5 hb⟩
theorem blobU_fit (T : List UInt8) : Fit (blobU T) (4 + T.length) := ⟨by
  show [98, 108, 111, 98].length + 0 + 0 + 0 + T.length + 0 + 0 + 0 ≤ _
  simp, by show (-1 : Int) ≤ -1; decide, by show (-1 : Int) ≤ 65535; decide⟩
theorem of_blobU {u : U} (h : Ok u) (hl : (printU (bareV u)).length ≤ 60000) (A : Option Addr) (n c : Nat) (w : World) (hP : Pt w (blobU (printU (bareV u))) A n c) (E : Env w) :
  (u.sch = [104, 116, 116, 112] ∨ u.sch = [104, 116, 116, 112, 115] → Calls Tryz.prog 19 #[.agg #[.string (strOf (blobU (printU (bareV u))).sch), .string (strOf (blobU (printU (bareV u))).usr), .string (strOf (blobU (printU (bareV u))).pwd), .string (strOf (blobU (printU (bareV u))).hst), .bool (blobU (printU (bareV u))).hh, .int .i64 (blobU (printU (bareV u))).port, .bool (blobU (printU (bareV u))).opq, .string (strOf (blobU (printU (bareV u))).txt), .slice A n c, .bool (blobU (printU (bareV u))).hq, .bool (blobU (printU (bareV u))).hf, .string (strOf (blobU (printU (bareV u))).qry), .string (strOf (blobU (printU (bareV u))).frg)]] w fun e w' => e = .returned (.tuple #[.agg #[.string (strOf u.sch), .string (strOf u.hst), .int .i64 u.port, .int .i64 0], .bool true]) ∧ Below w.heap.size w w') ∧
  (¬ (u.sch = [104, 116, 116, 112] ∨ u.sch = [104, 116, 116, 112, 115]) → Calls Tryz.prog 19 #[.agg #[.string (strOf (blobU (printU (bareV u))).sch), .string (strOf (blobU (printU (bareV u))).usr), .string (strOf (blobU (printU (bareV u))).pwd), .string (strOf (blobU (printU (bareV u))).hst), .bool (blobU (printU (bareV u))).hh, .int .i64 (blobU (printU (bareV u))).port, .bool (blobU (printU (bareV u))).opq, .string (strOf (blobU (printU (bareV u))).txt), .slice A n c, .bool (blobU (printU (bareV u))).hq, .bool (blobU (printU (bareV u))).hf, .string (strOf (blobU (printU (bareV u))).qry), .string (strOf (blobU (printU (bareV u))).frg)]] w fun e w' => e = .returned (.tuple #[.agg #[.string ⟨#[]⟩, .string ⟨#[]⟩, .int .i64 0, .int .i64 0], .bool false]) ∧ Below w.heap.size w w') := by
 obtain ⟨T, hT⟩ : ∃ T, T = printU (bareV u) := ⟨_, rfl⟩
 have hin := inner h
 rw [← hT] at hin hl hP ⊢
 have HPA := path_h (blobU T) (blobU_fit T) (by omega)
 rw [show UrlP.pathL (blobU T).opq (strOf (blobU T).txt) (blobU T).pth = T from rfl] at HPA
 have HPS : Hid (∀ w, Env w → Calls Tryz.prog 12 #[.string (strOf T), .pointer none] w fun e w' => ∃ A' n' c', e = .returned (.tuple #[.agg #[.string (strOf (bareV u).sch), .string (strOf (bareV u).usr), .string (strOf (bareV u).pwd), .string (strOf (bareV u).hst), .bool (bareV u).hh, .int .i64 (bareV u).port, .bool (bareV u).opq, .string (strOf (bareV u).txt), .slice A' n' c', .bool (bareV u).hq, .bool (bareV u).hf, .string (strOf (bareV u).qry), .string (strOf (bareV u).frg)], .int .i64 0]) ∧ Pt w' (bareV u) A' n' c' ∧ Below w.heap.size w w') := fun w E => parse_some (T := strOf T) hin (by rw [size_strOf]; omega) w E
 constructor
 ·rintro (hs | hs)
  ·exact of_blob_http (blobU T) (bareV u) (strOf T) A n c w rfl (fun w hP => HPA.out w A n c hP) HPS hs E hP
  ·exact of_blob (blobU T) (bareV u) (strOf T) A n c w rfl (fun w hP => HPA.out w A n c hP) HPS hs E hP
 ·intro hs
  exact of_blob_other (blobU T) (bareV u) (strOf T) A n c w rfl (fun w hP => HPA.out w A n c hP) HPS ⟨fun x => hs (.inl x), fun x => hs (.inr x)⟩ E hP
theorem ref_bare {u : U} {N : Nat} (hF : Fit u N) (hN : N ≤ 1000000) (A : Option Addr) (n c : Nat) (w : World) (hP : Pt w u A n c) (E : Env w) : Calls Tryz.prog 22 #[.agg #[.string (strOf (off u).sch), .string (strOf (off u).usr), .string (strOf (off u).pwd), .string (strOf (off u).hst), .bool (off u).hh, .int .i64 (off u).port, .bool (off u).opq, .string (strOf (off u).txt), .slice A n c, .bool (off u).hq, .bool (off u).hf, .string (strOf (off u).qry), .string (strOf (off u).frg)], .bool true] w fun e w' => e = .returned (.string (strOf (printU (bareV u)))) ∧ Below w.heap.size w w' := by
 obtain ⟨k1, k2, k3, k4, k5, k6, k7, k8⟩ := fit_sizes hF (by omega)
 have h := refPrint_any true (strOf u.sch) (strOf u.usr) (strOf u.pwd) (strOf u.hst) u.hh u.port u.opq (strOf u.txt) A n c u.pth false false (strOf u.qry) (strOf u.frg) w hP.pth.1 hP.pth.2.1 hP.pth.2.2 k1 k2 k3 k4 k5 k6 k7 (by have := hF.lo; omega) (by have := hF.hi; omega) k8
 rw [off_print] at h
 exact h
theorem eql_o (s h : ByteArray) (p n : Int) (w : World) : (binOp .eql 38 (.agg #[.string s, .string h, .int .i64 p, .int .i64 n]) (.agg #[.string s, .string h, .int .i64 p, .int .i64 n])).run Tryz.prog w = .ok (.bool true) w := by
 have u3 := Tryz.underlying3
 have u9 := Tryz.underlying9
 have a3 := Tryz.isAgg3
 have a9 := Tryz.isAgg9
 have z3 := Tryz.sizeOf3
 have z9 := Tryz.sizeOf9
 have hS : Tryz.prog.underlying 38 = some (.struct (Tryz.prog.fieldsOf 38)) := by kernel_rfl
 have hp : Tryz.prog.stoodInHeld 38 = false := by kernel_rfl
 rw [run_eql_struct, show (10000 : Nat) = 9999 + 1 from rfl, run_equalIn_agg w 9999 38 _ _ hS hp]
 simp only [Program.fieldsOf, Tryz.underlying38]
 go_simp
end Go.Proofs.YtmdofbccebkbiaaGreatDoor.OrgY
