/- The law AnswerWrites: for every input the call returns true, and each argument reads afterwards as it read before. No condition. -/
import Derived.Test.YthbpjkgbnmllkaaRows
import Derived.Test.YthbpjkgbnmllkaaOpen2
import Derived.Test.YthbpjkgbnmllkaaAggN
import Derived.Lib.SmallJoins
import Derived.Test.YthbpjkgbnmllkaaLaw25a
namespace Go.Proofs.Ythbpjkgbnmllkaa.lawAnswerWrites
open Go.Joins Go.ChangeShapes Go.WideShapes Go.ChangeAt Go.RowKit
open Go.ChangeMaps (open_string shut_string)
set_option linter.unusedVariables false

theorem own : ownKnob Try.prog.godebug = none := by kernel_rfl
theorem laidOut : laidOutB Try.prog = true := by kernel_rfl
set_option maxRecDepth 100000 in
theorem lifted (os : Os) (started : os.Started) (H : Type) (enc : TypeId × Value → H) :
    ReturnsInHanded {} Try.checked os 3 .any (Rows.answerWritesSpec.pre6 enc Try.prog Try.f3 Rows.answerWritesRow.domain false) (Rows.answerWritesSpec.post enc Try.prog Try.f3 false true false false) := by
  refine returnsInHanded_of_change_sized (C := Try.checked) own started (by kernel_rfl) Try.func3
    (ChangeSpec.witness6 (enc := enc) (C := Try.checked) false ⟨#[], #[.agg #[.int .i64 0, .int .i64 0, .int .i64 0, .int .i64 0, .string ByteArray.empty, .slice none 0 0]], []⟩ 8 (by kernel_rfl) (by kernel_rfl) (by kernel_rfl) (by kernel_rfl)) ?_
  intro W base args ds gs before hval0 hW hcnd hsz _
  have hval : ∀ (j : Nat) t v, Try.f3.params[j]? = some t → args[j]? = some v → Value.okWide Try.prog W .any base t v := hval0
  have hW' := hW
  obtain ⟨p, q, hA0, hV, rfl, hfz, hnd⟩ := hW
  have hA : DataW.TrodAll enc Try.prog W 0 (fun _ => true) true Try.f3.params.toList args.toList ds p := hA0
  rw [Try.params3] at hA hval
  obtain ⟨v0, vs0, d0, ds0, p0, q0, hargs, rfl, rfl, h0, r_0⟩ := trodAll_cons hA
  obtain ⟨rfl, rfl, rfl⟩ := trodAll_nil r_0
  obtain rfl : args = #[v0] := by cases args; simp_all
  obtain ⟨rfl, rfl⟩ := trodVars_none hV
  have k0 := h0
  have lt0 : ∀ x ∈ p0, x.block < W.heap.size := by obtain ⟨m, hm⟩ := k0; exact DataW.trod_lt m _ _ _ hm
  obtain ⟨v0_0, v0_1, v0_2, v0_3, v0_4, v0_5, y0_0, y0_1, y0_2, y0_3, y0_4, y0_5, n0, rfl, rfl, rfl, t0_0, t0_1, t0_2, t0_3, t0_4, t0_5⟩ := AggN.open_agg6 Try.underlying24 (by kernel_rfl) (by kernel_rfl) (hval 0 24 v0 rfl rfl) h0
  obtain ⟨a0_0, e0_0, _, w0_0⟩ := DataW.trod_int Try.underlying3 t0_0
  obtain rfl : v0_0 = .int .i64 a0_0 := by simpa using e0_0
  obtain ⟨a0_1, e0_1, _, w0_1⟩ := DataW.trod_int Try.underlying3 t0_1
  obtain rfl : v0_1 = .int .i64 a0_1 := by simpa using e0_1
  obtain ⟨a0_2, e0_2, _, w0_2⟩ := DataW.trod_int Try.underlying2 t0_2
  obtain rfl : v0_2 = .int .i64 a0_2 := by simpa using e0_2
  obtain ⟨a0_3, e0_3, _, w0_3⟩ := DataW.trod_int Try.underlying2 t0_3
  obtain rfl : v0_3 = .int .i64 a0_3 := by simpa using e0_3
  obtain ⟨a0_4, e0_4, d0_4, w0_4⟩ := DataW.trod_string Try.underlying9 t0_4
  obtain rfl : v0_4 = .string a0_4 := by simpa using e0_4
  have z0_4 : a0_4.size ≤ 140737488351232 := by have z := Open2.field_string hsz (i := 0) rfl rfl Try.underlying24 (j := 4) rfl (show _ = some (DataW.lit (.string a0_4.data.toList)) by rw [d0_4]; rfl); rw [Array.length_toList] at z; exact z
  obtain ⟨A0_5, n0_5, cap0_5, e0_5⟩ := slice_form Try.underlying22 t0_5
  obtain rfl : v0_5 = .slice A0_5 n0_5 cap0_5 := by simpa using e0_5
  obtain ⟨l0_5, r0_5, c0_5, m0_5⟩ := Open.of_bytes Try.underlying22 Try.underlying5 (by kernel_rfl) (show DataW.trod enc Try.prog W _ _ _ _ 22 (Value.slice A0_5 n0_5 cap0_5).cells.toList = some _ from t0_5)
  have z0_5 : cap0_5 * 1 ≤ 140737488351232 := AggN.field_cap hsz (i := 0) rfl rfl Try.underlying24 (j := 5) rfl (fuel := n0) (a := A0_5) (len := n0_5) (cap := cap0_5) (x := y0_5) rfl Try.underlying22 Try.underlying5 (by kernel_rfl) (by kernel_rfl) t0_5
  clear hA0 hval0
  refine (Laws.AnswerWrites_any a0_0 a0_1 a0_2 a0_3 a0_4 A0_5 n0_5 cap0_5 l0_5 W (bounds_i64 w0_0) (bounds_i64 w0_1) (bounds_i64 w0_2) (bounds_i64 w0_3) z0_4 r0_5 c0_5 z0_5).mono fun e W' ⟨he, bel⟩ => ?_
  subst he
  exact ⟨_, rfl, _, _, _, [], _, [], hW', trodAll_mk1 (shut_bool Try.underlying4 _), (trodAll_cons_mk (Below.trod laidOut (by kernel_rfl) (of_decide_eq_true (by kernel_rfl)) k0 bel lt0) trodAll_mk0), rfl, bel.frame _, fun h => by cases h⟩

theorem over : Rows.answerWritesRow.holds Try.pinned (OpenSpec.ofChange Rows.answerWritesSpec) :=
  OpenClaim.holds_of_wide 3 Try.f3 rfl rfl rfl rfl rfl rfl rfl ⟨rfl, rfl, rfl, rfl, rfl⟩ rfl rfl rfl rfl rfl (by kernel_rfl) Try.func3 (by kernel_rfl)
    (of_decide_eq_true (by kernel_rfl)) (by unfold Func.isWrapper; first | (rw [if_pos (by decide +kernel)]; kernel_rfl) | (rw [if_neg (by decide +kernel)]; exact ⟨rfl, rfl⟩))
    (fun os started H enc _ => lifted os started H enc)

theorem proved : Rows.AnswerWritesSaid := over
end Go.Proofs.Ythbpjkgbnmllkaa.lawAnswerWrites
