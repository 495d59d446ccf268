/- The law GroupParams: for every input the call returns true, and each argument reads afterwards as it read before. No condition. -/
import Derived.Test.YtbkobobnbdblbaaRows
import Derived.Test.YtbkobobnbdblbaaOpen2
import Derived.Test.YtbkobobnbdblbaaMim0
import Derived.Lib.SmallJoins
import Derived.Test.YtbkobobnbdblbaaLaw06
namespace Go.Proofs.Ytbkobobnbdblbaa.lawGroupParams
open Go.Joins Go.ChangeShapes Go.WideShapes Go.ChangeAt Go.RowKit
open Go.ChangeMaps (open_string shut_string)
set_option linter.unusedVariables false

theorem own : ownKnob Try.prog.godebug = none := by kernel_rfl
theorem laidOut : laidOutB Try.prog = true := by kernel_rfl
set_option maxRecDepth 100000 in
theorem lifted (os : Os) (started : os.Started) (H : Type) (enc : TypeId × Value → H) :
    ReturnsInHanded {} Try.checked os 4 .any (Rows.groupParamsSpec.pre6 enc Try.prog Try.f4 Rows.groupParamsRow.domain false) (Rows.groupParamsSpec.post enc Try.prog Try.f4 false true false false) := by
  refine returnsInHanded_of_change_sized (C := Try.checked) own started (by kernel_rfl) Try.func4
    (ChangeSpec.witness6 (enc := enc) (C := Try.checked) false ⟨#[], #[.agg #[.string ByteArray.empty, .string ByteArray.empty, .slice none 0 0], .slice none 0 0], []⟩ 8 (by kernel_rfl) (by kernel_rfl) (by kernel_rfl) (by kernel_rfl)) ?_
  intro W base args ds gs before hval0 hW hcnd hsz _
  have hval : ∀ (j : Nat) t v, Try.f4.params[j]? = some t → args[j]? = some v → Value.okWide Try.prog W .any base t v := hval0
  have hW' := hW
  obtain ⟨p, q, hA0, hV, rfl, hfz, hnd⟩ := hW
  have hA : DataW.TrodAll enc Try.prog W 0 (fun _ => true) true Try.f4.params.toList args.toList ds p := hA0
  rw [Try.params4] at hA hval
  obtain ⟨v0, vs0, d0, ds0, p0, q0, hargs, rfl, rfl, h0, r_0⟩ := trodAll_cons hA
  obtain ⟨v1, vs1, d1, ds1, p1, q1, rfl, rfl, rfl, h1, r_1⟩ := trodAll_cons r_0
  obtain ⟨rfl, rfl, rfl⟩ := trodAll_nil r_1
  obtain rfl : args = #[v0, v1] := by cases args; simp_all
  obtain ⟨rfl, rfl⟩ := trodVars_none hV
  have k0 := h0
  have lt0 : ∀ x ∈ p0, x.block < W.heap.size := by obtain ⟨m, hm⟩ := k0; exact DataW.trod_lt m _ _ _ hm
  obtain ⟨v0_0, v0_1, v0_2, y0_0, y0_1, y0_2, n0, rfl, rfl, rfl, t0_0, t0_1, t0_2⟩ := open_agg3 Try.underlying24 (by kernel_rfl) (by kernel_rfl) (hval 0 24 v0 rfl rfl) h0
  obtain ⟨a0_0, e0_0, d0_0, w0_0⟩ := DataW.trod_string Try.underlying9 t0_0
  obtain rfl : v0_0 = .string a0_0 := by simpa using e0_0
  have z0_0 : a0_0.size ≤ 140737488351232 := by have z := Open2.field_string hsz (i := 0) rfl rfl Try.underlying24 (j := 0) rfl (show _ = some (DataW.lit (.string a0_0.data.toList)) by rw [d0_0]; rfl); rw [Array.length_toList] at z; exact z
  obtain ⟨a0_1, e0_1, d0_1, w0_1⟩ := DataW.trod_string Try.underlying9 t0_1
  obtain rfl : v0_1 = .string a0_1 := by simpa using e0_1
  have z0_1 : a0_1.size ≤ 140737488351232 := by have z := Open2.field_string hsz (i := 0) rfl rfl Try.underlying24 (j := 1) rfl (show _ = some (DataW.lit (.string a0_1.data.toList)) by rw [d0_1]; rfl); rw [Array.length_toList] at z; exact z
  obtain ⟨A0_2, n0_2, cap0_2, l0_2, e0_2, c0_2, m0_2, r0_2⟩ := Mim0.of_pairs Try.underlying22 Try.underlying34 Try.underlying9 Try.underlying9 (by kernel_rfl) (by kernel_rfl) t0_2
  subst e0_2
  obtain ⟨a1, n1, cap1, rfl⟩ := okWide_slice Try.underlying22 (hval 1 22 v1 rfl rfl)
  have k1 := h1
  have lt1 : ∀ x ∈ p1, x.block < W.heap.size := by obtain ⟨m, hm⟩ := k1; exact DataW.trod_lt m _ _ _ hm
  have o1 : ∃ A n cap l, Value.slice a1 n1 cap1 = .slice A n cap ∧ n ≤ cap ∧ cap ≤ maxLen ∧ Mim0.Prm W A n l := by obtain ⟨fuel, hf⟩ := h1; exact Mim0.of_pairs Try.underlying22 Try.underlying34 Try.underlying9 Try.underlying9 (by kernel_rfl) (by kernel_rfl) hf
  obtain ⟨A_1, n_1, cap_1, l1, e1, c1, m1, r1⟩ := o1
  obtain ⟨rfl, rfl, rfl⟩ : A_1 = a1 ∧ n_1 = n1 ∧ cap_1 = cap1 := by simpa [eq_comm] using e1
  clear hA0 hval0
  refine (Laws.GroupParams_any a0_0 a0_1 A0_2 n0_2 cap0_2 l0_2 A_1 n_1 cap_1 W z0_0 z0_1 r0_2 c0_2 m0_2 c1 m1).mono fun e W' ⟨he, bel⟩ => ?_
  subst he
  exact ⟨_, rfl, _, _, _, [], _, [], hW', trodAll_mk1 (shut_bool Try.underlying4 _), (trodAll_cons_mk (Below.trod laidOut (by kernel_rfl) (of_decide_eq_true (by kernel_rfl)) k0 bel lt0) (trodAll_cons_mk (Below.trod laidOut (by kernel_rfl) (of_decide_eq_true (by kernel_rfl)) k1 bel lt1) trodAll_mk0)), rfl, bel.frame _, fun h => by cases h⟩

theorem over : Rows.groupParamsRow.holds Try.pinned (OpenSpec.ofChange Rows.groupParamsSpec) :=
  OpenClaim.holds_of_wide 4 Try.f4 rfl rfl rfl rfl rfl rfl rfl ⟨rfl, rfl, rfl, rfl, rfl⟩ rfl rfl rfl rfl rfl (by kernel_rfl) Try.func4 (by kernel_rfl)
    (of_decide_eq_true (by kernel_rfl)) (by unfold Func.isWrapper; first | (rw [if_pos (by decide +kernel)]; kernel_rfl) | (rw [if_neg (by decide +kernel)]; exact ⟨rfl, rfl⟩))
    (fun os started H enc _ => lifted os started H enc)

theorem proved : Rows.GroupParamsSaid := over
end Go.Proofs.Ytbkobobnbdblbaa.lawGroupParams
