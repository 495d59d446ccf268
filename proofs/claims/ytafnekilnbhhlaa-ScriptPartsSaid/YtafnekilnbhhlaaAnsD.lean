/- Answers: Decode. -/
import Derived.Test.YtafnekilnbhhlaaAnsB
namespace Go.Proofs.Ytafnekilnbhhlaa.AnsD
open Go.RowKit Go.Proofs.Ytafnekilnbhhlaa.Base Go.Proofs.Ytafnekilnbhhlaa.Base2 Go.Proofs.Ytafnekilnbhhlaa.Base3 Go.Proofs.Ytafnekilnbhhlaa.AnsP Go.Proofs.Ytafnekilnbhhlaa.AnsR Go.Proofs.Ytafnekilnbhhlaa.AnsB

theorem tk_if {m : Nat} {L : List UInt8} (h : m ≤ L.length) : tk m L = L.take m := if_pos h
theorem dp_if {m : Nat} {L : List UInt8} (h : m ≤ L.length) : dp m L = L.drop m := if_pos h
theorem bd_true (m : Nat) (L : List UInt8) : bd m L true = true := by simp [bd]
theorem tb_true (L : List UInt8) : tb L true = true := by simp [tb, bd]
theorem rd_no {m : Nat} {L : List UInt8} (h : bd m L false = true) : rd m L = none := by
  unfold bd at h; unfold rd
  rw [if_neg (by simp at h; omega)]
theorem rd_yes {m : Nat} {L : List UInt8} (h : bd m L false = false) : rd m L = some (val (tk m L), dp m L) := by
  unfold bd at h; unfold rd tk dp
  have hm : m ≤ L.length := by simp at h; omega
  rw [if_pos hm, if_pos hm, if_pos hm]
theorem txt_no {L : List UInt8} (h : tb L false = true) : txt L = none := by
  unfold txt
  cases h4 : bd 4 L false with
  | true => rw [rd_no h4]
  | false =>
    rw [rd_yes h4]
    unfold tb tn bd at h
    unfold bd at h4
    rw [h4] at h
    simp only [Bool.false_or, decide_eq_true_eq] at h
    simp only
    rw [if_neg (by omega)]
theorem txt_yes {L : List UInt8} (h : tb L false = false) : txt L = some (tt L, td L) := by
  unfold txt
  cases h4 : bd 4 L false with
  | true => unfold tb at h; rw [h4, bd_true] at h; cases h
  | false =>
    rw [rd_yes h4]
    unfold tb at h
    rw [h4] at h
    unfold bd at h
    simp only [Bool.false_or, decide_eq_false_iff_not] at h
    simp only
    unfold tt td tn at *
    have h' : val (tk 4 L) ≤ (dp 4 L).length := by omega
    rw [if_pos h']
    rw [tk_if h', dp_if h']
theorem dec_yes (L : List UInt8) (h : tb (td (dp 8 (dp 8 (dp 4 (dp 1 L))))) (tb (dp 8 (dp 8 (dp 4 (dp 1 L)))) (bd 8 (dp 8 (dp 4 (dp 1 L))) (bd 8 (dp 4 (dp 1 L)) (bd 4 (dp 1 L) (bd 1 L false))))) = false) (he : td (td (dp 8 (dp 8 (dp 4 (dp 1 L))))) = []) :
    dec L = some ⟨val (tk 1 L), val (tk 4 (dp 1 L)), val (tk 8 (dp 4 (dp 1 L))), val (tk 8 (dp 8 (dp 4 (dp 1 L)))), tt (dp 8 (dp 8 (dp 4 (dp 1 L)))), tt (td (dp 8 (dp 8 (dp 4 (dp 1 L)))))⟩ := by
  cases h1 : bd 1 L false with
  | true => rw [h1, bd_true, bd_true, bd_true, tb_true, tb_true] at h; cases h
  | false =>
    rw [h1] at h
    cases h2 : bd 4 (dp 1 L) false with
    | true => rw [h2, bd_true, bd_true, tb_true, tb_true] at h; cases h
    | false =>
      rw [h2] at h
      cases h3 : bd 8 (dp 4 (dp 1 L)) false with
      | true => rw [h3, bd_true, tb_true, tb_true] at h; cases h
      | false =>
        rw [h3] at h
        cases h4 : bd 8 (dp 8 (dp 4 (dp 1 L))) false with
        | true => rw [h4, tb_true, tb_true] at h; cases h
        | false =>
          rw [h4] at h
          cases h5 : tb (dp 8 (dp 8 (dp 4 (dp 1 L)))) false with
          | true => rw [h5, tb_true] at h; cases h
          | false =>
            rw [h5] at h
            unfold dec
            rw [rd_yes h1]; simp only
            rw [rd_yes h2]; simp only
            rw [rd_yes h3]; simp only
            rw [rd_yes h4]; simp only
            rw [txt_yes h5]; simp only
            rw [txt_yes h]; simp only
            rw [if_pos he]
theorem dec_no (L : List UInt8) (h : tb (td (dp 8 (dp 8 (dp 4 (dp 1 L))))) (tb (dp 8 (dp 8 (dp 4 (dp 1 L)))) (bd 8 (dp 8 (dp 4 (dp 1 L))) (bd 8 (dp 4 (dp 1 L)) (bd 4 (dp 1 L) (bd 1 L false))))) = true ∨ td (td (dp 8 (dp 8 (dp 4 (dp 1 L))))) ≠ []) : dec L = none := by
  unfold dec
  cases h1 : bd 1 L false with
  | true => rw [rd_no h1]
  | false =>
    rw [h1] at h
    rw [rd_yes h1]; simp only
    cases h2 : bd 4 (dp 1 L) false with
    | true => rw [rd_no h2]
    | false =>
      rw [h2] at h
      rw [rd_yes h2]; simp only
      cases h3 : bd 8 (dp 4 (dp 1 L)) false with
      | true => rw [rd_no h3]
      | false =>
        rw [h3] at h
        rw [rd_yes h3]; simp only
        cases h4 : bd 8 (dp 8 (dp 4 (dp 1 L))) false with
        | true => rw [rd_no h4]
        | false =>
          rw [h4] at h
          rw [rd_yes h4]; simp only
          cases h5 : tb (dp 8 (dp 8 (dp 4 (dp 1 L)))) false with
          | true => rw [txt_no h5]
          | false =>
            rw [h5] at h
            rw [txt_yes h5]; simp only
            cases h6 : tb (td (dp 8 (dp 8 (dp 4 (dp 1 L))))) false with
            | true => rw [txt_no h6]
            | false =>
              rw [txt_yes h6]; simp only
              rw [if_neg (h.resolve_left (by rw [h6]; decide))]
section
variable {L L1 L2 L3 L4 L5 L6 K X : List UInt8} {b1 b2 b3 b4 b5 b6 : Bool} {x1 x2 y3 y4 : Nat}
theorem dec_yes' (h1 : L1 = dp 1 L) (h2 : L2 = dp 4 L1) (h3 : L3 = dp 8 L2) (h4 : L4 = dp 8 L3) (h5 : L5 = td L4) (h6 : L6 = td L5) (g1 : b1 = bd 1 L false) (g2 : b2 = bd 4 L1 b1) (g3 : b3 = bd 8 L2 b2) (g4 : b4 = bd 8 L3 b3) (g5 : b5 = tb L4 b4) (g6 : b6 = tb L5 b5) (k1 : x1 = val (tk 1 L)) (k2 : x2 = val (tk 4 L1)) (k3 : y3 = val (tk 8 L2)) (k4 : y4 = val (tk 8 L3)) (k5 : K = tt L4) (k6 : X = tt L5)
    (e1 : b6 = false) (e2 : L6 = []) : dec L = some ⟨x1, x2, y3, y4, K, X⟩ := by
  rw [k1, k2, k3, k4, k5, k6, h5, h4, h3, h2, h1]
  refine dec_yes L ?_ ?_
  · rw [g6, g5, g4, g3, g2, g1, h5, h4, h3, h2, h1] at e1; exact e1
  · rw [h6, h5, h4, h3, h2, h1] at e2; exact e2
theorem dec_no' (h1 : L1 = dp 1 L) (h2 : L2 = dp 4 L1) (h3 : L3 = dp 8 L2) (h4 : L4 = dp 8 L3) (h5 : L5 = td L4) (h6 : L6 = td L5) (g1 : b1 = bd 1 L false) (g2 : b2 = bd 4 L1 b1) (g3 : b3 = bd 8 L2 b2) (g4 : b4 = bd 8 L3 b3) (g5 : b5 = tb L4 b4) (g6 : b6 = tb L5 b5) (e : b6 = true ∨ L6 ≠ []) : dec L = none := by
  refine dec_no L ?_
  rcases e with e1 | e2
  · exact .inl (by rw [← e1, g6, g5, g4, g3, g2, g1, h5, h4, h3, h2, h1])
  · exact .inr (by rw [h6, h5, h4, h3, h2, h1] at e2; exact e2)
end
/-- What Decode answers of L. -/
def Dec (w : World) (L : List UInt8) (e : Ending) (w' : World) : Prop := Below w.heap.size w w' ∧ match dec L with
  | none => e = .returned (.tuple #[.agg #[.int .i64 0, .int .i64 0, .int .i64 0, .int .i64 0, .string ⟨#[]⟩, .slice none 0 0], .int .i64 2])
  | some a => ∃ A c, e = .returned (.tuple #[.agg #[.int .i64 (a.sort : Int), .int .i64 (a.status : Int), .int .i64 (AnsW.sg a.first), .int .i64 (AnsW.sg a.total), .string (strOf a.kind), .slice A a.body.length c], .int .i64 0]) ∧ Rds w' A a.body.length (bcells a.body)
theorem rds_put6 {w : World} {b o n g : Nat} {xs : List Value} (h : Rds w (some ⟨b, o, none⟩) n xs) (hne : ¬ b = g) (x y z u v t : Value) : Rds (put6 w g x y z u v t) (some ⟨b, o, none⟩) n xs := by
  refine ⟨h.1, fun j hj => ?_⟩
  obtain ⟨b', o', e, hb, hc⟩ := h.2 j hj
  injection e with e
  injection e with e1 e2
  subst e1 e2
  have hh : (put6 w g x y z u v t).heap[b]? = w.heap[b]? := by
    unfold put6
    rw [heap_setCell_other _ _ _ _ hne, heap_setCell_other _ _ _ _ hne, heap_setCell_other _ _ _ _ hne, heap_setCell_other _ _ _ _ hne, heap_setCell_other _ _ _ _ hne, heap_setCell_other _ _ _ _ hne]
  refine ⟨b, o, rfl, ?_, (World.cell?_of_block (a := ⟨b, o + j, none⟩) hh).trans hc⟩
  simpa [put6, World.setCell] using hb
end Go.Proofs.Ytafnekilnbhhlaa.AnsD
