/- Answers: Decode. -/
import Derived.Test.YthbpjkgbnmllkaaAnsB
namespace Go.Proofs.Ythbpjkgbnmllkaa.AnsD
open Go.RowKit Go.Proofs.Ythbpjkgbnmllkaa.Base Go.Proofs.Ythbpjkgbnmllkaa.Base2 Go.Proofs.Ythbpjkgbnmllkaa.Base3 Go.Proofs.Ythbpjkgbnmllkaa.AnsP Go.Proofs.Ythbpjkgbnmllkaa.AnsR Go.Proofs.Ythbpjkgbnmllkaa.AnsB

theorem tk_if {m : Nat} {L : List UInt8} (h : m ≤ L.length) : tk m L = L.take m := if_pos h
theorem dp_if {m : Nat} {L : List UInt8} (h : m ≤ L.length) : dp m L = L.drop m := if_pos h
theorem bd_true (m : Nat) (L : List UInt8) : bd m L true = true := by simp [bd]
theorem tb_true (L : List UInt8) : tb L true = true := by simp [tb, bd]
theorem rd_no {m : Nat} {L : List UInt8} (h : bd m L false = true) : rd m L = none := by
  unfold bd at h; unfold rd
  rw [if_neg (by simp at h; omega)]
theorem rd_yes {m : Nat} {L : List UInt8} (h : bd m L false = false) : rd m L = some (val (tk m L), dp m L) := by
  unfold bd at h; unfold rd tk dp
  have hm : m ≤ L.length := by simp at h; omega
  rw [if_pos hm, if_pos hm, if_pos hm]
theorem txt_no {L : List UInt8} (h : tb L false = true) : txt L = none := by
  unfold txt
  cases h4 : bd 4 L false with
  | true => rw [rd_no h4]
  | false =>
    rw [rd_yes h4]
    unfold tb tn bd at h
    unfold bd at h4
    rw [h4] at h
    simp only [Bool.false_or, decide_eq_true_eq] at h
    simp only
    rw [if_neg (by omega)]
theorem txt_yes {L : List UInt8} (h : tb L false = false) : txt L = some (tt L, td L) := by
  unfold txt
  cases h4 : bd 4 L false with
  | true => unfold tb at h; rw [h4, bd_true] at h; cases h
  | false =>
    rw [rd_yes h4]
    unfold tb at h
    rw [h4] at h
    unfold bd at h
    simp only [Bool.false_or, decide_eq_false_iff_not] at h
    simp only
    unfold tt td tn at *
    have h' : val (tk 4 L) ≤ (dp 4 L).length := by omega
    rw [if_pos h']
    rw [tk_if h', dp_if h']
theorem dec_yes (L : List UInt8) (h : tb (td (dp 8 (dp 8 (dp 4 (dp 1 L))))) (tb (dp 8 (dp 8 (dp 4 (dp 1 L)))) (bd 8 (dp 8 (dp 4 (dp 1 L))) (bd 8 (dp 4 (dp 1 L)) (bd 4 (dp 1 L) (bd 1 L false))))) = false) (he : td (td (dp 8 (dp 8 (dp 4 (dp 1 L))))) = []) :
    dec L = some ⟨val (tk 1 L), val (tk 4 (dp 1 L)), val (tk 8 (dp 4 (dp 1 L))), val (tk 8 (dp 8 (dp 4 (dp 1 L)))), tt (dp 8 (dp 8 (dp 4 (dp 1 L)))), tt (td (dp 8 (dp 8 (dp 4 (dp 1 L)))))⟩ := by
  cases h1 : bd 1 L false with
  | true => rw [h1, bd_true, bd_true, bd_true, tb_true, tb_true] at h; cases h
  | false =>
    rw [h1] at h
    cases h2 : bd 4 (dp 1 L) false with
    | true => rw [h2, bd_true, bd_true, tb_true, tb_true] at h; cases h
    | false =>
      rw [h2] at h
      cases h3 : bd 8 (dp 4 (dp 1 L)) false with
      | true => rw [h3, bd_true, tb_true, tb_true] at h; cases h
      | false =>
        rw [h3] at h
        cases h4 : bd 8 (dp 8 (dp 4 (dp 1 L))) false with
        | true => rw [h4, tb_true, tb_true] at h; cases h
        | false =>
          rw [h4] at h
          cases h5 : tb (dp 8 (dp 8 (dp 4 (dp 1 L)))) false with
          | true => rw [h5, tb_true] at h; cases h
          | false =>
            rw [h5] at h
            unfold dec
            rw [rd_yes h1]; simp only
            rw [rd_yes h2]; simp only
            rw [rd_yes h3]; simp only
            rw [rd_yes h4]; simp only
            rw [txt_yes h5]; simp only
            rw [txt_yes h]; simp only
            rw [if_pos he]
theorem dec_no (L : List UInt8) (h : tb (td (dp 8 (dp 8 (dp 4 (dp 1 L))))) (tb (dp 8 (dp 8 (dp 4 (dp 1 L)))) (bd 8 (dp 8 (dp 4 (dp 1 L))) (bd 8 (dp 4 (dp 1 L)) (bd 4 (dp 1 L) (bd 1 L false))))) = true ∨ td (td (dp 8 (dp 8 (dp 4 (dp 1 L))))) ≠ []) : dec L = none := by
  unfold dec
  cases h1 : bd 1 L false with
  | true => rw [rd_no h1]
  | false =>
    rw [h1] at h
    rw [rd_yes h1]; simp only
    cases h2 : bd 4 (dp 1 L) false with
    | true => rw [rd_no h2]
    | false =>
      rw [h2] at h
      rw [rd_yes h2]; simp only
      cases h3 : bd 8 (dp 4 (dp 1 L)) false with
      | true => rw [rd_no h3]
      | false =>
        rw [h3] at h
        rw [rd_yes h3]; simp only
        cases h4 : bd 8 (dp 8 (dp 4 (dp 1 L))) false with
        | true => rw [rd_no h4]
        | false =>
          rw [h4] at h
          rw [rd_yes h4]; simp only
          cases h5 : tb (dp 8 (dp 8 (dp 4 (dp 1 L)))) false with
          | true => rw [txt_no h5]
          | false =>
            rw [h5] at h
            rw [txt_yes h5]; simp only
            cases h6 : tb (td (dp 8 (dp 8 (dp 4 (dp 1 L))))) false with
            | true => rw [txt_no h6]
            | false =>
              rw [txt_yes h6]; simp only
              rw [if_neg (h.resolve_left (by rw [h6]; decide))]
section
variable {L L1 L2 L3 L4 L5 L6 K X : List UInt8} {b1 b2 b3 b4 b5 b6 : Bool} {x1 x2 y3 y4 : Nat}
theorem dec_yes' (h1 : L1 = dp 1 L) (h2 : L2 = dp 4 L1) (h3 : L3 = dp 8 L2) (h4 : L4 = dp 8 L3) (h5 : L5 = td L4) (h6 : L6 = td L5) (g1 : b1 = bd 1 L false) (g2 : b2 = bd 4 L1 b1) (g3 : b3 = bd 8 L2 b2) (g4 : b4 = bd 8 L3 b3) (g5 : b5 = tb L4 b4) (g6 : b6 = tb L5 b5) (k1 : x1 = val (tk 1 L)) (k2 : x2 = val (tk 4 L1)) (k3 : y3 = val (tk 8 L2)) (k4 : y4 = val (tk 8 L3)) (k5 : K = tt L4) (k6 : X = tt L5)
    (e1 : b6 = false) (e2 : L6 = []) : dec L = some ⟨x1, x2, y3, y4, K, X⟩ := by
  rw [k1, k2, k3, k4, k5, k6, h5, h4, h3, h2, h1]
  refine dec_yes L ?_ ?_
  · rw [g6, g5, g4, g3, g2, g1, h5, h4, h3, h2, h1] at e1; exact e1
  · rw [h6, h5, h4, h3, h2, h1] at e2; exact e2
theorem dec_no' (h1 : L1 = dp 1 L) (h2 : L2 = dp 4 L1) (h3 : L3 = dp 8 L2) (h4 : L4 = dp 8 L3) (h5 : L5 = td L4) (h6 : L6 = td L5) (g1 : b1 = bd 1 L false) (g2 : b2 = bd 4 L1 b1) (g3 : b3 = bd 8 L2 b2) (g4 : b4 = bd 8 L3 b3) (g5 : b5 = tb L4 b4) (g6 : b6 = tb L5 b5) (e : b6 = true ∨ L6 ≠ []) : dec L = none := by
  refine dec_no L ?_
  rcases e with e1 | e2
  · exact .inl (by rw [← e1, g6, g5, g4, g3, g2, g1, h5, h4, h3, h2, h1])
  · exact .inr (by rw [h6, h5, h4, h3, h2, h1] at e2; exact e2)
end
/-- What Decode answers of L. -/
def Dec (w : World) (L : List UInt8) (e : Ending) (w' : World) : Prop := Below w.heap.size w w' ∧ match dec L with
  | none => e = .returned (.tuple #[.agg #[.int .i64 0, .int .i64 0, .int .i64 0, .int .i64 0, .string ⟨#[]⟩, .slice none 0 0], .int .i64 2])
  | some a => ∃ A c, e = .returned (.tuple #[.agg #[.int .i64 (a.sort : Int), .int .i64 (a.status : Int), .int .i64 (AnsW.sg a.first), .int .i64 (AnsW.sg a.total), .string (strOf a.kind), .slice A a.body.length c], .int .i64 0]) ∧ Rds w' A a.body.length (bcells a.body)
theorem rds_put6 {w : World} {b o n g : Nat} {xs : List Value} (h : Rds w (some ⟨b, o, none⟩) n xs) (hne : ¬ b = g) (x y z u v t : Value) : Rds (put6 w g x y z u v t) (some ⟨b, o, none⟩) n xs := by
  refine ⟨h.1, fun j hj => ?_⟩
  obtain ⟨b', o', e, hb, hc⟩ := h.2 j hj
  injection e with e
  injection e with e1 e2
  subst e1 e2
  have hh : (put6 w g x y z u v t).heap[b]? = w.heap[b]? := by
    unfold put6
    rw [heap_setCell_other _ _ _ _ hne, heap_setCell_other _ _ _ _ hne, heap_setCell_other _ _ _ _ hne, heap_setCell_other _ _ _ _ hne, heap_setCell_other _ _ _ _ hne, heap_setCell_other _ _ _ _ hne]
  refine ⟨b, o, rfl, ?_, (World.cell?_of_block (a := ⟨b, o + j, none⟩) hh).trans hc⟩
  simpa [put6, World.setCell] using hb
theorem res_dec {w : World} {g : Nat} {a b c d e f : Value} (h : B6 24 w g a b c d e f) (z : Int) (tmps : Array Value) (h2 : tmps.getD 2 undef = .pointer (some ⟨g, 0, none⟩)) (h3 : tmps.getD 3 undef = .int .i64 z) :
    (results Try.f11 tmps).run Try.prog w = .ok (.tuple #[.agg #[a, b, c, d, e, f], .int .i64 z]) w := by
  have hp' : tmps[2]?.getD undef = .pointer (some ⟨g, 0, none⟩) := by simpa using h2
  have hq' : tmps[3]?.getD undef = .int .i64 z := by simpa using h3
  simp [results, Try.results11, hp', hq', asAddr, h.load24]
set_option maxRecDepth 100000 in
set_option maxHeartbeats 8000000 in
theorem decode_any (A : Option Addr) (n cap : Nat) (L : List UInt8) (w : World) (h : Rds w A n (bcells L)) (hn : n ≤ 1000000) :
    Calls Try.prog 11 #[.slice A n cap] w (Dec w L) := by
  have hLn : L.length = n := by rw [← length_bcells]; exact h.1
  obtain ⟨L1, h1⟩ : ∃ x, x = dp 1 L := ⟨_, rfl⟩
  obtain ⟨L2, h2⟩ : ∃ x, x = dp 4 L1 := ⟨_, rfl⟩
  obtain ⟨L3, h3⟩ : ∃ x, x = dp 8 L2 := ⟨_, rfl⟩
  obtain ⟨L4, h4⟩ : ∃ x, x = dp 8 L3 := ⟨_, rfl⟩
  obtain ⟨L5, h5⟩ : ∃ x, x = td L4 := ⟨_, rfl⟩
  obtain ⟨L6, h6⟩ : ∃ x, x = td L5 := ⟨_, rfl⟩
  obtain ⟨b1, g1⟩ : ∃ x, x = bd 1 L false := ⟨_, rfl⟩
  obtain ⟨b2, g2⟩ : ∃ x, x = bd 4 L1 b1 := ⟨_, rfl⟩
  obtain ⟨b3, g3⟩ : ∃ x, x = bd 8 L2 b2 := ⟨_, rfl⟩
  obtain ⟨b4, g4⟩ : ∃ x, x = bd 8 L3 b3 := ⟨_, rfl⟩
  obtain ⟨b5, g5⟩ : ∃ x, x = tb L4 b4 := ⟨_, rfl⟩
  obtain ⟨b6, g6⟩ : ∃ x, x = tb L5 b5 := ⟨_, rfl⟩
  obtain ⟨x1, k1⟩ : ∃ x, x = val (tk 1 L) := ⟨_, rfl⟩
  obtain ⟨x2, k2⟩ : ∃ x, x = val (tk 4 L1) := ⟨_, rfl⟩
  obtain ⟨y3, k3⟩ : ∃ x, x = val (tk 8 L2) := ⟨_, rfl⟩
  obtain ⟨y4, k4⟩ : ∃ x, x = val (tk 8 L3) := ⟨_, rfl⟩
  obtain ⟨K, k5⟩ : ∃ x, x = tt L4 := ⟨_, rfl⟩
  obtain ⟨X, k6⟩ : ∃ x, x = tt L5 := ⟨_, rfl⟩
  have td_len : ∀ M : List UInt8, (td M).length ≤ M.length := fun M => Nat.le_trans (dp_len _ _) (dp_len _ _)
  have l1 : L1.length ≤ n := by rw [h1, ← hLn]; exact dp_len _ _
  have l2 : L2.length ≤ n := by rw [h2]; exact Nat.le_trans (dp_len _ _) l1
  have l3 : L3.length ≤ n := by rw [h3]; exact Nat.le_trans (dp_len _ _) l2
  have l4 : L4.length ≤ n := by rw [h4]; exact Nat.le_trans (dp_len _ _) l3
  have l5 : L5.length ≤ n := by rw [h5]; exact Nat.le_trans (td_len _) l4
  have l6 : L6.length ≤ n := by rw [h6]; exact Nat.le_trans (td_len _) l5
  have lx : X.length ≤ n := by rw [k6]; unfold tt; exact Nat.le_trans (tk_le _ _) (Nat.le_trans (dp_len _ _) l5)
  have v1 : x1 < 256 := by have := val_tk 1 L; rw [← k1] at this; simpa using this
  have v2 : x2 < 4294967296 := by have := val_tk 4 L1; rw [← k2] at this; simpa using this
  have HY : Hid (b6 = false → L6 = [] → dec L = some ⟨x1, x2, y3, y4, K, X⟩) := by
    exact fun e1 e2 => dec_yes' h1 h2 h3 h4 h5 h6 g1 g2 g3 g4 g5 g6 k1 k2 k3 k4 k5 k6 e1 e2
  have HN : Hid (b6 = true ∨ L6 ≠ [] → dec L = none) := by
    exact fun e => dec_no' h1 h2 h3 h4 h5 h6 g1 g2 g3 g4 g5 g6 e
  have v1i : (x1 : Int) ≤ 255 := by omega
  have v2i : (x2 : Int) ≤ 4294967295 := by omega
  have HL1 := hid h1
  have HG1 := hid g1
  have HK1 := hid k1
  have HL2 := hid h2
  have HG2 := hid g2
  have HK2 := hid k2
  have HL3 := hid h3
  have HG3 := hid g3
  have HK3 := hid k3
  have HL4 := hid h4
  have HG4 := hid g4
  have HK4 := hid k4
  have HL5 := hid h5
  have HG5 := hid g5
  have HK5 := hid k5
  have HL6 := hid h6
  have HG6 := hid g6
  have HK6 := hid k6
  have HLn := hid hLn
  have HS1 := hid l1
  have HS2 := hid l2
  have HS3 := hid l3
  have HS4 := hid l4
  have HS5 := hid l5
  have HS6 := hid l6
  have HH := hid h
  have HSX := hid lx
  clear h h1 h2 h3 h4 h5 h6 g1 g2 g3 g4 g5 g6 k1 k2 k3 k4 k5 k6 hLn l1 l2 l3 l4 l5 l6 lx td_len
  go_enter Try.func11, Try.ntmps11
  go_wp2_with fail
  have hbA : Below w.heap.size w (w.alloc (.cells #[.int .i64 0, .int .i64 0, .int .i64 0, .int .i64 0, .string ⟨#[]⟩, .slice none 0 0] 24)) := (Below.refl _ _).alloc (Nat.le_refl _) _
  refine (newr_any A n cap L _ (HH.out.below hbA) (by omega)).mono ?_
  rintro e w1 ⟨g, rfl, hg, hR, hb⟩
  have hsz : w.heap.size + 1 ≤ g := by simpa using hg
  have HR0 := hid hR
  have HX0 : Hid (B6 24 w1 w.heap.size (.int .i64 0) (.int .i64 0) (.int .i64 0) (.int .i64 0) (.string ⟨#[]⟩) (.slice none 0 0)) := (hb.block w.heap.size (by simp)).trans (heap_alloc_new w _)
  have HB0 : Hid (Below w.heap.size w w1) := hbA.trans (hb.mono (by simp))
  clear hbA hR hb hg
  go_wp2_with fail
  refine (u8r_any g L false _ HR0.out (by have := HLn.out; omega)).mono ?_
  rintro e w2 ⟨rfl, hR, hb⟩
  rw [← HL1.out, ← HG1.out] at hR
  rw [← HK1.out]
  have HR1 := hid hR
  have HX1 : Hid (B6 24 w2 w.heap.size (.int .i64 0) (.int .i64 0) (.int .i64 0) (.int .i64 0) (.string ⟨#[]⟩) (.slice none 0 0)) := HX0.out.below hb (by omega)
  have HB1 : Hid (Below w.heap.size w w2) := HB0.out.trans (hb.mono (by omega))
  clear hR hb
  go_wp2_with fail
  refine (u32r_any g L1 b1 _ HR1.out (by have := HS1.out; omega)).mono ?_
  rintro e w3 ⟨rfl, hR, hb⟩
  rw [← HL2.out, ← HG2.out] at hR
  rw [← HK2.out]
  have HR2 := hid hR
  have HX2 : Hid (B6 24 w3 w.heap.size (.int .i64 0) (.int .i64 0) (.int .i64 0) (.int .i64 0) (.string ⟨#[]⟩) (.slice none 0 0)) := HX1.out.below hb (by omega)
  have HB2 : Hid (Below w.heap.size w w3) := HB1.out.trans (hb.mono (by omega))
  clear hR hb
  go_wp2_with fail
  refine (i64r_any g L2 b2 _ HR2.out (by have := HS2.out; omega)).mono ?_
  rintro e w4 ⟨rfl, hR, hb⟩
  rw [← HL3.out, ← HG3.out] at hR
  rw [← HK3.out]
  have HR3 := hid hR
  have HX3 : Hid (B6 24 w4 w.heap.size (.int .i64 0) (.int .i64 0) (.int .i64 0) (.int .i64 0) (.string ⟨#[]⟩) (.slice none 0 0)) := HX2.out.below hb (by omega)
  have HB3 : Hid (Below w.heap.size w w4) := HB2.out.trans (hb.mono (by omega))
  clear hR hb
  go_wp2_with fail
  refine (i64r_any g L3 b3 _ HR3.out (by have := HS3.out; omega)).mono ?_
  rintro e w5 ⟨rfl, hR, hb⟩
  rw [← HL4.out, ← HG4.out] at hR
  rw [← HK4.out]
  have HR4 := hid hR
  have HX4 : Hid (B6 24 w5 w.heap.size (.int .i64 0) (.int .i64 0) (.int .i64 0) (.int .i64 0) (.string ⟨#[]⟩) (.slice none 0 0)) := HX3.out.below hb (by omega)
  have HB4 : Hid (Below w.heap.size w w5) := HB3.out.trans (hb.mono (by omega))
  clear hR hb
  go_wp2_with fail
  refine (strr_any g L4 b4 _ HR4.out (by have := HS4.out; omega)).mono ?_
  rintro e w6 ⟨rfl, hR, hb⟩
  rw [← HL5.out, ← HG5.out] at hR
  rw [← HK5.out]
  have HR5 := hid hR
  have HX5 : Hid (B6 24 w6 w.heap.size (.int .i64 0) (.int .i64 0) (.int .i64 0) (.int .i64 0) (.string ⟨#[]⟩) (.slice none 0 0)) := HX4.out.below hb (by omega)
  have HB5 : Hid (Below w.heap.size w w6) := HB4.out.trans (hb.mono (by omega))
  clear hR hb
  go_wp2_with fail
  refine (strr_any g L5 b5 _ HR5.out (by have := HS5.out; omega)).mono ?_
  rintro e w7 ⟨rfl, hR, hb⟩
  rw [← HL6.out, ← HG6.out] at hR
  rw [← HK6.out]
  have HR6 := hid hR
  have HX6 : Hid (B6 24 w7 w.heap.size (.int .i64 0) (.int .i64 0) (.int .i64 0) (.int .i64 0) (.string ⟨#[]⟩) (.slice none 0 0)) := HX5.out.below hb (by omega)
  have HB6 : Hid (Below w.heap.size w w7) := HB5.out.trans (hb.mono (by omega))
  clear hR hb
  have hxs : (strOf X).size = X.length := size_strOf X
  have hxl : X.length ≤ 1000000 := by have := HSX.out; omega
  have hcv := run_bytes_of_string (P := Try.prog) w7 9 22 5 (strOf X) Try.underlying9 Try.underlying22 Try.underlying5
  obtain ⟨q, hq⟩ : ∃ q, q = grownCap w7 (strOf X).size 0 5 := ⟨_, rfl⟩
  rw [← hq] at hcv
  clear hq
  have FACTS : ∀ W8, W8 = ((w7.alloc (.cells (bytesRow (strOf X) q) 5 ((bytesRow (strOf X) q).size, (bytesRow (strOf X) q).size + 1))).alloc (.cells #[.int .i64 (x1 : Int), .int .i64 (x2 : Int), .int .i64 (AnsW.sg y3), .int .i64 (AnsW.sg y4), .string (strOf K), .slice (some ⟨w7.heap.size, 0, none⟩) X.length q] 24)).drew → IsR g L6 b6 W8 ∧ B6 24 W8 w.heap.size (.int .i64 0) (.int .i64 0) (.int .i64 0) (.int .i64 0) (.string ⟨#[]⟩) (.slice none 0 0) ∧ B6 24 W8 (w7.heap.size + 1) (.int .i64 (x1 : Int)) (.int .i64 (x2 : Int)) (.int .i64 (AnsW.sg y3)) (.int .i64 (AnsW.sg y4)) (.string (strOf K)) (.slice (some ⟨w7.heap.size, 0, none⟩) X.length q) ∧ Below w.heap.size w W8 ∧ Rds W8 (some ⟨w7.heap.size, 0, none⟩) X.length (bcells X) := by
    intro W8 e
    have hs1 : (w7.alloc (.cells (bytesRow (strOf X) q) 5 ((bytesRow (strOf X) q).size, (bytesRow (strOf X) q).size + 1))).heap.size = w7.heap.size + 1 := by simp
    have hb8 : Below w7.heap.size w7 W8 := by subst e; exact (((Below.refl _ _).alloc (Nat.le_refl _) _).alloc (by simp) _).drew
    refine ⟨HR6.out.below hb8, HX6.out.below hb8 (by have := HR6.out.lt; omega), ?_, HB6.out.trans (hb8.mono HB6.out.size), ?_⟩
    · subst e
      show ((w7.alloc _).alloc _).heap[w7.heap.size + 1]? = _
      rw [← hs1]
      exact heap_alloc_new _ _
    · have h1 := rds_made (strOf X) q w7 5
      rw [size_strOf] at h1
      subst e
      refine Rds.below (w := (w7.alloc (.cells (bytesRow (strOf X) q) 5 ((bytesRow (strOf X) q).size, (bytesRow (strOf X) q).size + 1)))) h1 ?_
      exact ((Below.refl _ _).alloc (by simp) _).drew
  go_wp2_with fail
  generalize hW8 : World.drew (World.alloc (World.alloc w7 _) _) = W8
  obtain ⟨hR8, hX8, hY8, hb8, hr8⟩ := FACTS W8 hW8.symm
  have HR8 := hid hR8
  have HX8 := hid hX8
  have HY8 := hid hY8
  have HB8 := hid hb8
  have HRD8 := hid hr8
  clear FACTS hW8 hR8 hX8 hY8 hb8 hr8 hcv
  have hne : ¬ w7.heap.size = w.heap.size := by have := HX6.out.lt; omega
  refine (bad_any g L6 b6 _ HR8.out).mono ?_
  rintro e w9 ⟨rfl, rfl⟩
  cases b6 with
  | true =>
    have HD := hid (HN.out (.inl rfl))
    obtain ⟨f0, f1, f2, f3, f4, f5⟩ := HX8.out.thaw
    obtain ⟨c0, c1, c2, c3, c4, c5⟩ := HX8.out.facts
    go_wp2_with fail
    exact bodyPost_ret (w := put6 _ w.heap.size _ _ _ _ _ _) (res_dec (HX8.out.put _ _ _ _ _ _) 2 _ rfl rfl) rfl ⟨below_put6 HB8.out (Nat.le_refl _) _ _ _ _ _ _, by rw [HD.out]⟩
  | false =>
    go_wp2_with fail
    refine (left_any g L6 false _ HR8.out).mono ?_
    rintro e w9 ⟨rfl, rfl⟩
    obtain ⟨f0, f1, f2, f3, f4, f5⟩ := HX8.out.thaw
    obtain ⟨c0, c1, c2, c3, c4, c5⟩ := HX8.out.facts
    by_cases h6 : L6 = []
    · have hl6 : ¬ (0 : Int) < (L6.length : Int) := by rw [h6]; simp
      have HD := hid (HY.out (by first | rfl | trivial) h6)
      obtain ⟨d0, d1, d2, d3, d4, d5⟩ := HY8.out.facts
      go_wp2_with fail
      exact bodyPost_ret (w := put6 _ w.heap.size _ _ _ _ _ _) (res_dec (HX8.out.put _ _ _ _ _ _) 0 _ rfl rfl) rfl ⟨below_put6 HB8.out (Nat.le_refl _) _ _ _ _ _ _, by rw [HD.out]; exact ⟨_, _, rfl, rds_put6 HRD8.out hne _ _ _ _ _ _⟩⟩
    · have hl6 : (0 : Int) < (L6.length : Int) := by have := List.length_pos_iff.2 h6; omega
      have HD := hid (HN.out (.inr h6))
      go_wp2_with fail
      exact bodyPost_ret (w := put6 _ w.heap.size _ _ _ _ _ _) (res_dec (HX8.out.put _ _ _ _ _ _) 2 _ rfl rfl) rfl ⟨below_put6 HB8.out (Nat.le_refl _) _ _ _ _ _ _, by rw [HD.out]⟩
end Go.Proofs.Ythbpjkgbnmllkaa.AnsD
