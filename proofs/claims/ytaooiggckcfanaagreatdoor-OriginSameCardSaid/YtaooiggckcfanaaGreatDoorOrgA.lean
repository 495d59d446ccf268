/- Origins: Tuple, Same, the document's Same. -/
import Derived.Test.YtaooiggckcfanaaGreatDoorMG
import Derived.Test.YtaooiggckcfanaaGreatDoorME
namespace Go.Proofs.YtaooiggckcfanaaGreatDoor.OrgA
open Go.RowKit Go.Proofs.YtaooiggckcfanaaGreatDoor.Base Go.Proofs.YtaooiggckcfanaaGreatDoor.Base2 Go.Proofs.YtaooiggckcfanaaGreatDoor.UrlP Go.Proofs.YtaooiggckcfanaaGreatDoor.Ubx
set_option linter.unusedSimpArgs false
set_option linter.unusedVariables false
def OB (w : World) (g : Nat) (s h : ByteArray) (p n : Int) : Prop := w.heap[g]? = some (.cells #[.string s, .string h, .int .i64 p, .int .i64 n] 43 (0, 0))
section
variable {w w' : World} {g : Nat} {s h : ByteArray} {p n : Int}
theorem OB.lt (x : OB w g s h p n) : g < w.heap.size := (Array.getElem?_eq_some_iff.1 x).1
theorem OB.below (x : OB w g s h p n) (hb : Below w.heap.size w w') : OB w' g s h p n := (hb.block g x.lt).trans x
theorem OB.facts (x : OB w g s h p n) : w.cell? ⟨g, 0, none⟩ = some (.string s) ∧ w.cell? ⟨g, 1, none⟩ = some (.string h) ∧ w.cell? ⟨g, 2, none⟩ = some (.int .i64 p) ∧ w.cell? ⟨g, 3, none⟩ = some (.int .i64 n) :=
  ⟨cell_of_row w g 0 _ _ _ x, cell_of_row w g 1 _ _ _ x, cell_of_row w g 2 _ _ _ x, cell_of_row w g 3 _ _ _ x⟩
end
/-- Are two origins the same? -/
def sameO (s1 h1 : List UInt8) (p1 n1 : Int) (s2 h2 : List UInt8) (p2 n2 : Int) : Bool := if s1 = [] ∧ s2 = [] then decide (n1 = n2) else decide (s1 = s2) && (decide (h1 = h2) && decide (p1 = p2))
theorem sameO_refl (s h : List UInt8) (p n : Int) : sameO s h p n s h p n = true := by unfold sameO; split <;> simp
theorem sameO_symm (s1 h1 : List UInt8) (p1 n1 : Int) (s2 h2 : List UInt8) (p2 n2 : Int) : sameO s1 h1 p1 n1 s2 h2 p2 n2 = sameO s2 h2 p2 n2 s1 h1 p1 n1 := by
  unfold sameO
  by_cases a : s1 = [] <;> by_cases b : s2 = [] <;> simp only [a, b, and_self, and_true, and_false, true_and, false_and, if_true, if_false, eq_comm]
theorem sameO_trans (s1 h1 : List UInt8) (p1 n1 : Int) (s2 h2 : List UInt8) (p2 n2 : Int) (s3 h3 : List UInt8) (p3 n3 : Int) (h12 : sameO s1 h1 p1 n1 s2 h2 p2 n2 = true) (h23 : sameO s2 h2 p2 n2 s3 h3 p3 n3 = true) : sameO s1 h1 p1 n1 s3 h3 p3 n3 = true := by
  unfold sameO at *
  by_cases a : s1 = [] <;> by_cases b : s2 = [] <;> by_cases c : s3 = [] <;> simp_all
set_option linter.unusedSimpArgs false in
set_option maxRecDepth 100000 in
set_option maxHeartbeats 8000000 in
theorem tuple_any (s1 h1 : ByteArray) (p1 n1 : Int) (w : World) : Calls Tryz.prog 59 #[.agg #[.string s1, .string h1, .int .i64 p1, .int .i64 n1]] w fun e w' => e = .returned (.bool (decide (s1.data.toList ≠ []))) ∧ Below w.heap.size w w' := by
  obtain ⟨b, hb⟩ : ∃ b, b = decide (s1.data.toList ≠ []) := ⟨_, rfl⟩
  rw [← hb]
  by_cases hs : s1.data.toList = []
  · have q0 : (s1.toList == []) = true := by rw [tl, hs]; rfl
    have q1 : s1.toList = [] := by rw [tl, hs]
    have HB : Hid (b = false) := by show _ = _; rw [hb, hs]; rfl
    clear hs hb
    go_enter Tryz.func59, Tryz.ntmps59
    go_wp2
    go_ret
    exact ⟨by rw [HB.out]; first | done | rfl, (Below.refl _ _).alloc (Nat.le_refl _) _⟩
  · have q0 : (s1.toList == []) = false := by rw [tl, beq_eq_false_iff_ne]; exact hs
    have q1 : ¬ s1.toList = [] := by rw [tl]; exact hs
    have HB : Hid (b = true) := by show _ = _; rw [hb]; simpa using hs
    clear hs hb
    go_enter Tryz.func59, Tryz.ntmps59
    go_wp2
    go_ret
    exact ⟨by rw [HB.out]; first | done | rfl, (Below.refl _ _).alloc (Nat.le_refl _) _⟩
set_option linter.unusedSimpArgs false in
set_option maxRecDepth 100000 in
set_option maxHeartbeats 8000000 in
theorem same_any (s1 h1 : ByteArray) (p1 n1 : Int) (s2 h2 : ByteArray) (p2 n2 : Int) (w : World) : Calls Tryz.prog 27 #[.agg #[.string s1, .string h1, .int .i64 p1, .int .i64 n1], .agg #[.string s2, .string h2, .int .i64 p2, .int .i64 n2]] w fun e w' => e = .returned (.bool (sameO s1.data.toList h1.data.toList p1 n1 s2.data.toList h2.data.toList p2 n2)) ∧ Below w.heap.size w w' := by
  obtain ⟨b, hb⟩ : ∃ b, b = sameO s1.data.toList h1.data.toList p1 n1 s2.data.toList h2.data.toList p2 n2 := ⟨_, rfl⟩
  rw [← hb]
  by_cases a1 : s1.data.toList = []
  ·
    have qa0 : (s1.toList == []) = true := by rw [tl, a1]; simp
    have qa1 : s1.toList = [] := by rw [tl, a1]
    by_cases a2 : s2.data.toList = []
    ·
      have qb0 : (s2.toList == []) = true := by rw [tl, a2]; simp
      have qb1 : s2.toList = [] := by rw [tl, a2]
      have HT1 : Hid (∀ w : World, Calls Tryz.prog 59 #[.agg #[.string s1, .string h1, .int .i64 p1, .int .i64 n1]] w fun e w' => e = .returned (.bool false) ∧ Below w.heap.size w w') := fun w => by
        have h := tuple_any s1 h1 p1 n1 w
        rw [show decide (s1.data.toList ≠ []) = false from by simp [a1]] at h
        exact h
      have HT2 : Hid (∀ w : World, Calls Tryz.prog 59 #[.agg #[.string s2, .string h2, .int .i64 p2, .int .i64 n2]] w fun e w' => e = .returned (.bool false) ∧ Below w.heap.size w w') := fun w => by
        have h := tuple_any s2 h2 p2 n2 w
        rw [show decide (s2.data.toList ≠ []) = false from by simp [a2]] at h
        exact h
      have HB : Hid (b = (n1 == n2)) := by show _ = _; rw [hb]; unfold sameO; rw [if_pos ⟨a1, a2⟩]; rw [Bool.eq_iff_iff]; simp
      clear hb a1 a2
      go_enter Tryz.func27, Tryz.ntmps27
      go_upto_region 1 with (fail)
      generalize hwa : World.alloc (World.alloc w _) _ = v1
      have h1_ : OB v1 w.heap.size s1 h1 p1 n1 ∧ OB v1 (w.heap.size + 1) s2 h2 p2 n2 ∧ Below w.heap.size w v1 := by
        subst hwa
        exact laid2 w _ _ _ _
      clear hwa
      have X1 := hid h1_.1
      have X2 := hid h1_.2.1
      have hb := h1_.2.2
      clear h1_
      have HB1 := hid hb
      clear hb
      obtain ⟨o0, o1, o2, o3⟩ := X1.out.facts
      go_wp2_with fail
      clear o0 o1 o2 o3
      refine (HT1.out _).mono ?_
      rintro e w2 ⟨rfl, hb⟩
      have HB2 := hid (bel HB1.out hb)
      have X1_2 := hid (X1.out.below hb)
      have X2_2 := hid (X2.out.below hb)
      clear hb
      obtain ⟨o0, o1, o2, o3⟩ := X2_2.out.facts
      go_wp2_with fail
      clear o0 o1 o2 o3
      refine (HT2.out _).mono ?_
      rintro e w3 ⟨rfl, hb⟩
      have HB3 := hid (bel HB2.out hb)
      have X1_3 := hid (X1_2.out.below hb)
      have X2_3 := hid (X2_2.out.below hb)
      clear hb
      obtain ⟨o0, o1, o2, o3⟩ := X1_3.out.facts
      obtain ⟨r0, r1, r2, r3⟩ := X2_3.out.facts
      go_wp2
      go_ret
      exact ⟨by rw [HB.out]; first | done | rfl | simp, HB3.out⟩
    ·
      have qb0 : (s2.toList == []) = false := by rw [tl, beq_eq_false_iff_ne]; exact a2
      have qb1 : ¬ s2.toList = [] := by rw [tl]; exact a2
      have HT1 : Hid (∀ w : World, Calls Tryz.prog 59 #[.agg #[.string s1, .string h1, .int .i64 p1, .int .i64 n1]] w fun e w' => e = .returned (.bool false) ∧ Below w.heap.size w w') := fun w => by
        have h := tuple_any s1 h1 p1 n1 w
        rw [show decide (s1.data.toList ≠ []) = false from by simp [a1]] at h
        exact h
      have HT2 : Hid (∀ w : World, Calls Tryz.prog 59 #[.agg #[.string s2, .string h2, .int .i64 p2, .int .i64 n2]] w fun e w' => e = .returned (.bool true) ∧ Below w.heap.size w w') := fun w => by
        have h := tuple_any s2 h2 p2 n2 w
        rw [show decide (s2.data.toList ≠ []) = true from by simp [a2]] at h
        exact h
      have b1 : ¬ s1.data.toList = s2.data.toList := fun e => a2 (by rw [← e]; exact a1)
      have qc0 : (s1.toList == s2.toList) = false := by rw [tl, tl, beq_eq_false_iff_ne]; exact b1
      have qc1 : ¬ s1.toList = s2.toList := by rw [tl, tl]; exact b1
      have HB : Hid (b = false) := by show _ = _; rw [hb]; unfold sameO; simp [a1, a2, Ne.symm a2]
      clear hb a1 a2 b1
      go_enter Tryz.func27, Tryz.ntmps27
      go_upto_region 1 with (fail)
      generalize hwa : World.alloc (World.alloc w _) _ = v1
      have h1_ : OB v1 w.heap.size s1 h1 p1 n1 ∧ OB v1 (w.heap.size + 1) s2 h2 p2 n2 ∧ Below w.heap.size w v1 := by
        subst hwa
        exact laid2 w _ _ _ _
      clear hwa
      have X1 := hid h1_.1
      have X2 := hid h1_.2.1
      have hb := h1_.2.2
      clear h1_
      have HB1 := hid hb
      clear hb
      obtain ⟨o0, o1, o2, o3⟩ := X1.out.facts
      go_wp2_with fail
      clear o0 o1 o2 o3
      refine (HT1.out _).mono ?_
      rintro e w2 ⟨rfl, hb⟩
      have HB2 := hid (bel HB1.out hb)
      have X1_2 := hid (X1.out.below hb)
      have X2_2 := hid (X2.out.below hb)
      clear hb
      obtain ⟨o0, o1, o2, o3⟩ := X2_2.out.facts
      go_wp2_with fail
      clear o0 o1 o2 o3
      refine (HT2.out _).mono ?_
      rintro e w3 ⟨rfl, hb⟩
      have HB3 := hid (bel HB2.out hb)
      have X1_3 := hid (X1_2.out.below hb)
      have X2_3 := hid (X2_2.out.below hb)
      clear hb
      obtain ⟨o0, o1, o2, o3⟩ := X1_3.out.facts
      obtain ⟨r0, r1, r2, r3⟩ := X2_3.out.facts
      go_wp2
      go_ret
      exact ⟨by rw [HB.out]; first | done | rfl | simp, HB3.out⟩
  ·
    have qa0 : (s1.toList == []) = false := by rw [tl, beq_eq_false_iff_ne]; exact a1
    have qa1 : ¬ s1.toList = [] := by rw [tl]; exact a1
    have a2 : True := trivial
    have HT1 : Hid (∀ w : World, Calls Tryz.prog 59 #[.agg #[.string s1, .string h1, .int .i64 p1, .int .i64 n1]] w fun e w' => e = .returned (.bool true) ∧ Below w.heap.size w w') := fun w => by
      have h := tuple_any s1 h1 p1 n1 w
      rw [show decide (s1.data.toList ≠ []) = true from by simp [a1]] at h
      exact h
    by_cases b1 : s1.data.toList = s2.data.toList
    rotate_left
    ·
      have qc0 : (s1.toList == s2.toList) = false := by rw [tl, tl, beq_eq_false_iff_ne]; exact b1
      have qc1 : ¬ s1.toList = s2.toList := by rw [tl, tl]; exact b1
      have HB : Hid (b = false) := by show _ = _; rw [hb]; unfold sameO; simp [a1, b1]
      clear hb a1 a2 b1
      go_enter Tryz.func27, Tryz.ntmps27
      go_upto_region 1 with (fail)
      generalize hwa : World.alloc (World.alloc w _) _ = v1
      have h1_ : OB v1 w.heap.size s1 h1 p1 n1 ∧ OB v1 (w.heap.size + 1) s2 h2 p2 n2 ∧ Below w.heap.size w v1 := by
        subst hwa
        exact laid2 w _ _ _ _
      clear hwa
      have X1 := hid h1_.1
      have X2 := hid h1_.2.1
      have hb := h1_.2.2
      clear h1_
      have HB1 := hid hb
      clear hb
      obtain ⟨o0, o1, o2, o3⟩ := X1.out.facts
      go_wp2_with fail
      clear o0 o1 o2 o3
      refine (HT1.out _).mono ?_
      rintro e w2 ⟨rfl, hb⟩
      have HB2 := hid (bel HB1.out hb)
      have X1_2 := hid (X1.out.below hb)
      have X2_2 := hid (X2.out.below hb)
      clear hb
      obtain ⟨o0, o1, o2, o3⟩ := X1_2.out.facts
      obtain ⟨r0, r1, r2, r3⟩ := X2_2.out.facts
      go_wp2
      go_ret
      exact ⟨by rw [HB.out]; first | done | rfl | simp, HB2.out⟩
    have a3 : ¬ s2.data.toList = [] := by rw [← b1]; exact a1
    have qb0 : (s2.toList == []) = false := by rw [tl, beq_eq_false_iff_ne]; exact a3
    have qb1 : ¬ s2.toList = [] := by rw [tl]; exact a3
    clear a3
    have qc0 : (s1.toList == s2.toList) = true := by rw [tl, tl, b1]; simp
    have qc1 : s1.toList = s2.toList := by rw [tl, tl, b1]
    by_cases b2 : h1.data.toList = h2.data.toList
    rotate_left
    ·
      have qd0 : (h1.toList == h2.toList) = false := by rw [tl, tl, beq_eq_false_iff_ne]; exact b2
      have qd1 : ¬ h1.toList = h2.toList := by rw [tl, tl]; exact b2
      have HB : Hid (b = false) := by show _ = _; rw [hb]; unfold sameO; simp [a1, b2]
      clear hb a1 a2 b1 b2
      go_enter Tryz.func27, Tryz.ntmps27
      go_upto_region 1 with (fail)
      generalize hwa : World.alloc (World.alloc w _) _ = v1
      have h1_ : OB v1 w.heap.size s1 h1 p1 n1 ∧ OB v1 (w.heap.size + 1) s2 h2 p2 n2 ∧ Below w.heap.size w v1 := by
        subst hwa
        exact laid2 w _ _ _ _
      clear hwa
      have X1 := hid h1_.1
      have X2 := hid h1_.2.1
      have hb := h1_.2.2
      clear h1_
      have HB1 := hid hb
      clear hb
      obtain ⟨o0, o1, o2, o3⟩ := X1.out.facts
      go_wp2_with fail
      clear o0 o1 o2 o3
      refine (HT1.out _).mono ?_
      rintro e w2 ⟨rfl, hb⟩
      have HB2 := hid (bel HB1.out hb)
      have X1_2 := hid (X1.out.below hb)
      have X2_2 := hid (X2.out.below hb)
      clear hb
      obtain ⟨o0, o1, o2, o3⟩ := X1_2.out.facts
      obtain ⟨r0, r1, r2, r3⟩ := X2_2.out.facts
      go_wp2
      go_ret
      exact ⟨by rw [HB.out]; first | done | rfl | simp, HB2.out⟩
    have qd0 : (h1.toList == h2.toList) = true := by rw [tl, tl, b2]; simp
    have qd1 : h1.toList = h2.toList := by rw [tl, tl, b2]
    have HB : Hid (b = (p1 == p2)) := by show _ = _; rw [hb]; unfold sameO; rw [if_neg (by simp [a1]), decide_eq_true b1, decide_eq_true b2, Bool.true_and, Bool.true_and]; rw [Bool.eq_iff_iff]; simp
    clear hb a1 a2 b1 b2
    go_enter Tryz.func27, Tryz.ntmps27
    go_upto_region 1 with (fail)
    generalize hwa : World.alloc (World.alloc w _) _ = v1
    have h1_ : OB v1 w.heap.size s1 h1 p1 n1 ∧ OB v1 (w.heap.size + 1) s2 h2 p2 n2 ∧ Below w.heap.size w v1 := by
      subst hwa
      exact laid2 w _ _ _ _
    clear hwa
    have X1 := hid h1_.1
    have X2 := hid h1_.2.1
    have hb := h1_.2.2
    clear h1_
    have HB1 := hid hb
    clear hb
    obtain ⟨o0, o1, o2, o3⟩ := X1.out.facts
    go_wp2_with fail
    clear o0 o1 o2 o3
    refine (HT1.out _).mono ?_
    rintro e w2 ⟨rfl, hb⟩
    have HB2 := hid (bel HB1.out hb)
    have X1_2 := hid (X1.out.below hb)
    have X2_2 := hid (X2.out.below hb)
    clear hb
    obtain ⟨o0, o1, o2, o3⟩ := X1_2.out.facts
    obtain ⟨r0, r1, r2, r3⟩ := X2_2.out.facts
    go_wp2
    go_ret
    exact ⟨by rw [HB.out]; first | done | rfl | simp, HB2.out⟩
set_option linter.unusedSimpArgs false in
set_option maxRecDepth 100000 in
set_option maxHeartbeats 8000000 in
theorem refSame_any (s1 h1 : ByteArray) (p1 n1 : Int) (s2 h2 : ByteArray) (p2 n2 : Int) (w : World) : Calls Tryz.prog 28 #[.agg #[.string s1, .string h1, .int .i64 p1, .int .i64 n1], .agg #[.string s2, .string h2, .int .i64 p2, .int .i64 n2]] w fun e w' => e = .returned (.bool (sameO s1.data.toList h1.data.toList p1 n1 s2.data.toList h2.data.toList p2 n2)) ∧ Below w.heap.size w w' := by
  obtain ⟨b, hb⟩ : ∃ b, b = sameO s1.data.toList h1.data.toList p1 n1 s2.data.toList h2.data.toList p2 n2 := ⟨_, rfl⟩
  rw [← hb]
  by_cases a1 : s1.data.toList = []
  ·
    have qa0 : (s1.toList == []) = true := by rw [tl, a1]; simp
    have qa1 : s1.toList = [] := by rw [tl, a1]
    by_cases a2 : s2.data.toList = []
    ·
      have qb0 : (s2.toList == []) = true := by rw [tl, a2]; simp
      have qb1 : s2.toList = [] := by rw [tl, a2]
      have HB : Hid (b = (n1 == n2)) := by show _ = _; rw [hb]; unfold sameO; rw [if_pos ⟨a1, a2⟩]; rw [Bool.eq_iff_iff]; simp
      clear hb a1 a2
      go_enter Tryz.func28, Tryz.ntmps28
      go_upto_region 1 with (fail)
      generalize hwa : World.alloc (World.alloc w _) _ = v1
      have h1_ : OB v1 w.heap.size s1 h1 p1 n1 ∧ OB v1 (w.heap.size + 1) s2 h2 p2 n2 ∧ Below w.heap.size w v1 := by
        subst hwa
        exact laid2 w _ _ _ _
      clear hwa
      have X1 := hid h1_.1
      have X2 := hid h1_.2.1
      have hb := h1_.2.2
      clear h1_
      have HB1 := hid hb
      clear hb
      obtain ⟨o0, o1, o2, o3⟩ := X1.out.facts
      obtain ⟨r0, r1, r2, r3⟩ := X2.out.facts
      go_wp2
      go_ret
      exact ⟨by rw [HB.out]; first | done | rfl | simp, HB1.out⟩
    ·
      have qb0 : (s2.toList == []) = false := by rw [tl, beq_eq_false_iff_ne]; exact a2
      have qb1 : ¬ s2.toList = [] := by rw [tl]; exact a2
      have b1 : ¬ s1.data.toList = s2.data.toList := fun e => a2 (by rw [← e]; exact a1)
      have qc0 : (s1.toList == s2.toList) = false := by rw [tl, tl, beq_eq_false_iff_ne]; exact b1
      have qc1 : ¬ s1.toList = s2.toList := by rw [tl, tl]; exact b1
      have HB : Hid (b = false) := by show _ = _; rw [hb]; unfold sameO; simp [a1, a2, Ne.symm a2]
      clear hb a1 a2 b1
      go_enter Tryz.func28, Tryz.ntmps28
      go_upto_region 1 with (fail)
      generalize hwa : World.alloc (World.alloc w _) _ = v1
      have h1_ : OB v1 w.heap.size s1 h1 p1 n1 ∧ OB v1 (w.heap.size + 1) s2 h2 p2 n2 ∧ Below w.heap.size w v1 := by
        subst hwa
        exact laid2 w _ _ _ _
      clear hwa
      have X1 := hid h1_.1
      have X2 := hid h1_.2.1
      have hb := h1_.2.2
      clear h1_
      have HB1 := hid hb
      clear hb
      obtain ⟨o0, o1, o2, o3⟩ := X1.out.facts
      obtain ⟨r0, r1, r2, r3⟩ := X2.out.facts
      go_wp2
      go_ret
      exact ⟨by rw [HB.out]; first | done | rfl | simp, HB1.out⟩
  ·
    have qa0 : (s1.toList == []) = false := by rw [tl, beq_eq_false_iff_ne]; exact a1
    have qa1 : ¬ s1.toList = [] := by rw [tl]; exact a1
    have a2 : True := trivial
    by_cases b1 : s1.data.toList = s2.data.toList
    rotate_left
    ·
      have qc0 : (s1.toList == s2.toList) = false := by rw [tl, tl, beq_eq_false_iff_ne]; exact b1
      have qc1 : ¬ s1.toList = s2.toList := by rw [tl, tl]; exact b1
      have HB : Hid (b = false) := by show _ = _; rw [hb]; unfold sameO; simp [a1, b1]
      clear hb a1 a2 b1
      go_enter Tryz.func28, Tryz.ntmps28
      go_upto_region 1 with (fail)
      generalize hwa : World.alloc (World.alloc w _) _ = v1
      have h1_ : OB v1 w.heap.size s1 h1 p1 n1 ∧ OB v1 (w.heap.size + 1) s2 h2 p2 n2 ∧ Below w.heap.size w v1 := by
        subst hwa
        exact laid2 w _ _ _ _
      clear hwa
      have X1 := hid h1_.1
      have X2 := hid h1_.2.1
      have hb := h1_.2.2
      clear h1_
      have HB1 := hid hb
      clear hb
      obtain ⟨o0, o1, o2, o3⟩ := X1.out.facts
      obtain ⟨r0, r1, r2, r3⟩ := X2.out.facts
      go_wp2
      go_ret
      exact ⟨by rw [HB.out]; first | done | rfl | simp, HB1.out⟩
    have a3 : ¬ s2.data.toList = [] := by rw [← b1]; exact a1
    have qb0 : (s2.toList == []) = false := by rw [tl, beq_eq_false_iff_ne]; exact a3
    have qb1 : ¬ s2.toList = [] := by rw [tl]; exact a3
    clear a3
    have qc0 : (s1.toList == s2.toList) = true := by rw [tl, tl, b1]; simp
    have qc1 : s1.toList = s2.toList := by rw [tl, tl, b1]
    by_cases b2 : h1.data.toList = h2.data.toList
    rotate_left
    ·
      have qd0 : (h1.toList == h2.toList) = false := by rw [tl, tl, beq_eq_false_iff_ne]; exact b2
      have qd1 : ¬ h1.toList = h2.toList := by rw [tl, tl]; exact b2
      have HB : Hid (b = false) := by show _ = _; rw [hb]; unfold sameO; simp [a1, b2]
      clear hb a1 a2 b1 b2
      go_enter Tryz.func28, Tryz.ntmps28
      go_upto_region 1 with (fail)
      generalize hwa : World.alloc (World.alloc w _) _ = v1
      have h1_ : OB v1 w.heap.size s1 h1 p1 n1 ∧ OB v1 (w.heap.size + 1) s2 h2 p2 n2 ∧ Below w.heap.size w v1 := by
        subst hwa
        exact laid2 w _ _ _ _
      clear hwa
      have X1 := hid h1_.1
      have X2 := hid h1_.2.1
      have hb := h1_.2.2
      clear h1_
      have HB1 := hid hb
      clear hb
      obtain ⟨o0, o1, o2, o3⟩ := X1.out.facts
      obtain ⟨r0, r1, r2, r3⟩ := X2.out.facts
      go_wp2
      go_ret
      exact ⟨by rw [HB.out]; first | done | rfl | simp, HB1.out⟩
    have qd0 : (h1.toList == h2.toList) = true := by rw [tl, tl, b2]; simp
    have qd1 : h1.toList = h2.toList := by rw [tl, tl, b2]
    have HB : Hid (b = (p1 == p2)) := by show _ = _; rw [hb]; unfold sameO; rw [if_neg (by simp [a1]), decide_eq_true b1, decide_eq_true b2, Bool.true_and, Bool.true_and]; rw [Bool.eq_iff_iff]; simp
    clear hb a1 a2 b1 b2
    go_enter Tryz.func28, Tryz.ntmps28
    go_upto_region 1 with (fail)
    generalize hwa : World.alloc (World.alloc w _) _ = v1
    have h1_ : OB v1 w.heap.size s1 h1 p1 n1 ∧ OB v1 (w.heap.size + 1) s2 h2 p2 n2 ∧ Below w.heap.size w v1 := by
      subst hwa
      exact laid2 w _ _ _ _
    clear hwa
    have X1 := hid h1_.1
    have X2 := hid h1_.2.1
    have hb := h1_.2.2
    clear h1_
    have HB1 := hid hb
    clear hb
    obtain ⟨o0, o1, o2, o3⟩ := X1.out.facts
    obtain ⟨r0, r1, r2, r3⟩ := X2.out.facts
    go_wp2
    go_ret
    exact ⟨by rw [HB.out]; first | done | rfl | simp, HB1.out⟩
end Go.Proofs.YtaooiggckcfanaaGreatDoor.OrgA
