/- The law AnswerPuts: for every input the call returns true, and each argument reads afterwards as it read before. No condition. -/
import Derived.Test.YthbpjkgbnmllkaaRows
import Derived.Test.YthbpjkgbnmllkaaOpen2
import Derived.Lib.SmallJoins
import Derived.Test.YthbpjkgbnmllkaaLaw25d
namespace Go.Proofs.Ythbpjkgbnmllkaa.lawAnswerPuts
open Go.Joins Go.ChangeShapes Go.WideShapes Go.ChangeAt Go.RowKit
open Go.ChangeMaps (open_string shut_string)
set_option linter.unusedVariables false

theorem own : ownKnob Try.prog.godebug = none := by kernel_rfl
theorem laidOut : laidOutB Try.prog = true := by kernel_rfl
set_option maxRecDepth 100000 in
theorem lifted (os : Os) (started : os.Started) (H : Type) (enc : TypeId × Value → H) :
    ReturnsInHanded {} Try.checked os 6 .any (Rows.answerPutsSpec.pre6 enc Try.prog Try.f6 Rows.answerPutsRow.domain false) (Rows.answerPutsSpec.post enc Try.prog Try.f6 false true false false) := by
  refine returnsInHanded_of_change_sized (C := Try.checked) own started (by kernel_rfl) Try.func6
    (ChangeSpec.witness6 (enc := enc) (C := Try.checked) false ⟨#[], #[.slice none 0 0, .slice none 0 0, .string ByteArray.empty], []⟩ 8 (by kernel_rfl) (by kernel_rfl) (by kernel_rfl) (by kernel_rfl)) ?_
  intro W base args ds gs before hval0 hW hcnd hsz _
  have hval : ∀ (j : Nat) t v, Try.f6.params[j]? = some t → args[j]? = some v → Value.okWide Try.prog W .any base t v := hval0
  have hW' := hW
  obtain ⟨p, q, hA0, hV, rfl, hfz, hnd⟩ := hW
  have hA : DataW.TrodAll enc Try.prog W 0 (fun _ => true) true Try.f6.params.toList args.toList ds p := hA0
  rw [Try.params6] at hA hval
  obtain ⟨v0, vs0, d0, ds0, p0, q0, hargs, rfl, rfl, h0, r_0⟩ := trodAll_cons hA
  obtain ⟨v1, vs1, d1, ds1, p1, q1, rfl, rfl, rfl, h1, r_1⟩ := trodAll_cons r_0
  obtain ⟨v2, vs2, d2, ds2, p2, q2, rfl, rfl, rfl, h2, r_2⟩ := trodAll_cons r_1
  obtain ⟨rfl, rfl, rfl⟩ := trodAll_nil r_2
  obtain rfl : args = #[v0, v1, v2] := by cases args; simp_all
  obtain ⟨rfl, rfl⟩ := trodVars_none hV
  obtain ⟨a0, n0, cap0, rfl⟩ := okWide_slice Try.underlying53 (hval 0 53 v0 rfl rfl)
  have k0 := h0
  have lt0 : ∀ x ∈ p0, x.block < W.heap.size := by obtain ⟨m, hm⟩ := k0; exact DataW.trod_lt m _ _ _ hm
  have o0 : ∃ L : List Int, Base.Rds W a0 n0 (Base.icells .u64 L) ∧ n0 ≤ cap0 ∧ cap0 ≤ maxLen ∧ ∀ z ∈ L, (Lit.int .u64 z).wf = true := by obtain ⟨fuel, hf⟩ := h0; exact Open.of_ints Try.underlying53 Try.underlying41 (by kernel_rfl) hf
  obtain ⟨L0, r0, c0, m0, k0w⟩ := o0
  have z0 : cap0 * 8 ≤ 140737488351232 := by obtain ⟨fuel, hf⟩ := k0; exact Open2.reach hsz (j := 0) rfl rfl Try.underlying53 Try.underlying41 (by kernel_rfl) (by kernel_rfl) hf
  obtain ⟨a1, n1, cap1, rfl⟩ := okWide_slice Try.underlying22 (hval 1 22 v1 rfl rfl)
  have k1 := h1
  have lt1 : ∀ x ∈ p1, x.block < W.heap.size := by obtain ⟨m, hm⟩ := k1; exact DataW.trod_lt m _ _ _ hm
  have o1 : ∃ L : List UInt8, Base.Rds W a1 n1 (Base.bcells L) ∧ n1 ≤ cap1 ∧ cap1 ≤ maxLen := by obtain ⟨fuel, hf⟩ := h1; exact Open.of_bytes Try.underlying22 Try.underlying5 (by kernel_rfl) hf
  obtain ⟨L1, r1, c1, m1⟩ := o1
  have z1 : cap1 * 1 ≤ 140737488351232 := by obtain ⟨fuel, hf⟩ := k1; exact Open2.reach hsz (j := 1) rfl rfl Try.underlying22 Try.underlying5 (by kernel_rfl) (by kernel_rfl) hf
  obtain ⟨a2, rfl, rfl, rfl, w2⟩ := open_string Try.underlying9 (hval 2 9 v2 rfl rfl) h2
  have z2 : a2.size ≤ 140737488351232 := by have z := sized_string hsz (j := 2) rfl rfl; rw [Array.length_toList] at z; exact z
  clear hA0 hval0
  refine (Laws.AnswerPuts_any a0 n0 cap0 L0 a1 n1 cap1 L1 a2 W r0 c0 z0 k0w r1 c1 z1 z2).mono fun e W' ⟨he, bel⟩ => ?_
  subst he
  exact ⟨_, rfl, _, _, _, [], _, [], hW', trodAll_mk1 (shut_bool Try.underlying4 _), (trodAll_cons_mk (Below.trod laidOut (by kernel_rfl) (of_decide_eq_true (by kernel_rfl)) k0 bel lt0) (trodAll_cons_mk (Below.trod laidOut (by kernel_rfl) (of_decide_eq_true (by kernel_rfl)) k1 bel lt1) (trodAll_cons_mk (shut_string Try.underlying9 w2) trodAll_mk0))), rfl, bel.frame _, fun h => by cases h⟩

theorem over : Rows.answerPutsRow.holds Try.pinned (OpenSpec.ofChange Rows.answerPutsSpec) :=
  OpenClaim.holds_of_wide 6 Try.f6 rfl rfl rfl rfl rfl rfl rfl ⟨rfl, rfl, rfl, rfl, rfl⟩ rfl rfl rfl rfl rfl (by kernel_rfl) Try.func6 (by kernel_rfl)
    (of_decide_eq_true (by kernel_rfl)) (by unfold Func.isWrapper; first | (rw [if_pos (by decide +kernel)]; kernel_rfl) | (rw [if_neg (by decide +kernel)]; exact ⟨rfl, rfl⟩))
    (fun os started H enc _ => lifted os started H enc)

theorem proved : Rows.AnswerPutsSaid := over
end Go.Proofs.Ythbpjkgbnmllkaa.lawAnswerPuts
