/- The law MimeSame: for every input the call returns true, and each argument reads afterwards as it read before. No condition. The package-level variables that the row lists are tied to the program's text by the given tie. -/
import Derived.Test.YtlbgcibdpeaomaaDoorRows
import Derived.Test.YtlbgcibdpeaomaaDoorTie
import Derived.Test.YtlbgcibdpeaomaaDoorCards
import Derived.Test.YtlbgcibdpeaomaaDoorOpen2
import Derived.Test.YtlbgcibdpeaomaaDoorLaw05c
import Derived.Test.YtlbgcibdpeaomaaDoorMim1
import Derived.Lib.SmallJoins
import Derived.LaidMore
import Derived.Lay
import Derived.SevenTiedAt
import Derived.Stop.Joined
namespace Go.Proofs.YtlbgcibdpeaomaaDoor.lawMimeSame
open Go.Joins Go.ChangeShapes Go.WideShapes Go.ChangeAt Go.RowKit
open Go.ChangeMaps (open_string shut_string)
set_option linter.unusedVariables false

theorem own : ownKnob Tryd.prog.godebug = none := by kernel_rfl
theorem laidOut : laidOutB Tryd.prog = true := by kernel_rfl
set_option maxRecDepth 100000 in
theorem lifted (os : Os) (started : os.Started) (H : Type) (enc : TypeId × Value → H) :
    ReturnsInHanded {} Tryd.checked os 6 .any (fun w args => (Rows.mimeSameSpec.pre enc Tryd.prog Tryd.f6 Rows.mimeSameRow.domain false w args ∧ laidMetH Tryd.prog Rows.mimeSameRow.laid w) ∧ sizedMet enc Tryd.prog Tryd.f6 (OpenSpec.ofChange Rows.mimeSameSpec) false w args)
      (Rows.mimeSameSpec.post enc Tryd.prog Tryd.f6 false true false false) := by
  refine returnsInHanded_of_change_and (C := Tryd.checked) (X := fun w _ => laidMetH Tryd.prog Rows.mimeSameRow.laid w) (fun _ _ _ hh h => h.of_heap hh) own started (by kernel_rfl) Tryd.func6
    (ChangeSpec.witness_shaped (enc := enc) (C := Tryd.checked) (os := os) (X := fun w _ => laidMetH Tryd.prog Rows.mimeSameRow.laid w) false (World.laidAll Tryd.prog os Rows.mimeSameRow.laid) #[.agg #[.string ByteArray.empty, .string ByteArray.empty, .slice none 0 0], .agg #[.string ByteArray.empty, .string ByteArray.empty, .slice none 0 0]] 8 (World.laidAll_os _ _ _)
      (World.shaped_of_ZipB (by kernel_rfl) (by kernel_rfl)) (by kernel_rfl) (by kernel_rfl) (by kernel_rfl)
      (by rw [MakeChecks.laidMetH_plain _ _ _ (by kernel_rfl)]; exact laidMet_laidAll _ (by kernel_rfl) (by kernel_rfl))) ?_
  intro W base args ds gs before hval0 hW hcnd hsz hL _
  have hval : ∀ (j : Nat) t v, Tryd.f6.params[j]? = some t → args[j]? = some v → Value.okWide Tryd.prog W .any base t v := hval0
  have hW' := hW
  obtain ⟨p, q, hA0, hV, rfl, hfz, hnd⟩ := hW
  have hA : DataW.TrodAll enc Tryd.prog W 0 (fun _ => true) true Tryd.f6.params.toList args.toList ds p := hA0
  rw [Tryd.params6] at hA hval
  obtain ⟨v0, vs0, d0, ds0, p0, q0, hargs, rfl, rfl, h0, r_0⟩ := trodAll_cons hA
  obtain ⟨v1, vs1, d1, ds1, p1, q1, rfl, rfl, rfl, h1, r_1⟩ := trodAll_cons r_0
  obtain ⟨rfl, rfl, rfl⟩ := trodAll_nil r_1
  obtain rfl : args = #[v0, v1] := by cases args; simp_all
  obtain ⟨rfl, rfl⟩ := trodVars_none hV
  have k0 := h0
  have lt0 : ∀ x ∈ p0, x.block < W.heap.size := by obtain ⟨m, hm⟩ := k0; exact DataW.trod_lt m _ _ _ hm
  obtain ⟨v0_0, v0_1, v0_2, y0_0, y0_1, y0_2, n0, rfl, rfl, rfl, t0_0, t0_1, t0_2⟩ := open_agg3 Tryd.underlying25 (by kernel_rfl) (by kernel_rfl) (hval 0 25 v0 rfl rfl) h0
  obtain ⟨a0_0, e0_0, d0_0, w0_0⟩ := DataW.trod_string Tryd.underlying9 t0_0
  obtain rfl : v0_0 = .string a0_0 := by simpa using e0_0
  have z0_0 : a0_0.size ≤ 140737488351232 := by have z := Open2.field_string hsz (i := 0) rfl rfl Tryd.underlying25 (j := 0) rfl (show _ = some (DataW.lit (.string a0_0.data.toList)) by rw [d0_0]; rfl); rw [Array.length_toList] at z; exact z
  obtain ⟨a0_1, e0_1, d0_1, w0_1⟩ := DataW.trod_string Tryd.underlying9 t0_1
  obtain rfl : v0_1 = .string a0_1 := by simpa using e0_1
  have z0_1 : a0_1.size ≤ 140737488351232 := by have z := Open2.field_string hsz (i := 0) rfl rfl Tryd.underlying25 (j := 1) rfl (show _ = some (DataW.lit (.string a0_1.data.toList)) by rw [d0_1]; rfl); rw [Array.length_toList] at z; exact z
  obtain ⟨A0_2, n0_2, cap0_2, l0_2, e0_2, c0_2, m0_2, r0_2, sh0_2⟩ := Mim1.field_pairs hsz (i := 0) rfl rfl Tryd.underlying25 (j := 2) rfl (fuel := n0) (x := y0_2) rfl Tryd.underlying23 Tryd.underlying40 Tryd.underlying9 Tryd.underlying9 (by kernel_rfl) (by kernel_rfl) t0_2
  subst e0_2
  have k1 := h1
  have lt1 : ∀ x ∈ p1, x.block < W.heap.size := by obtain ⟨m, hm⟩ := k1; exact DataW.trod_lt m _ _ _ hm
  obtain ⟨v1_0, v1_1, v1_2, y1_0, y1_1, y1_2, n1, rfl, rfl, rfl, t1_0, t1_1, t1_2⟩ := open_agg3 Tryd.underlying25 (by kernel_rfl) (by kernel_rfl) (hval 1 25 v1 rfl rfl) h1
  obtain ⟨a1_0, e1_0, d1_0, w1_0⟩ := DataW.trod_string Tryd.underlying9 t1_0
  obtain rfl : v1_0 = .string a1_0 := by simpa using e1_0
  have z1_0 : a1_0.size ≤ 140737488351232 := by have z := Open2.field_string hsz (i := 1) rfl rfl Tryd.underlying25 (j := 0) rfl (show _ = some (DataW.lit (.string a1_0.data.toList)) by rw [d1_0]; rfl); rw [Array.length_toList] at z; exact z
  obtain ⟨a1_1, e1_1, d1_1, w1_1⟩ := DataW.trod_string Tryd.underlying9 t1_1
  obtain rfl : v1_1 = .string a1_1 := by simpa using e1_1
  have z1_1 : a1_1.size ≤ 140737488351232 := by have z := Open2.field_string hsz (i := 1) rfl rfl Tryd.underlying25 (j := 1) rfl (show _ = some (DataW.lit (.string a1_1.data.toList)) by rw [d1_1]; rfl); rw [Array.length_toList] at z; exact z
  obtain ⟨A1_2, n1_2, cap1_2, l1_2, e1_2, c1_2, m1_2, r1_2, sh1_2⟩ := Mim1.field_pairs hsz (i := 1) rfl rfl Tryd.underlying25 (j := 2) rfl (fuel := n1) (x := y1_2) rfl Tryd.underlying23 Tryd.underlying40 Tryd.underlying9 Tryd.underlying9 (by kernel_rfl) (by kernel_rfl) t1_2
  subst e1_2
  clear hA0 hval0
  refine (Laws.MimeSame_any a0_0 a0_1 A0_2 n0_2 cap0_2 l0_2 a1_0 a1_1 A1_2 n1_2 cap1_2 l1_2 W z0_0 z0_1 r0_2 c0_2 m0_2 sh0_2 z1_0 z1_1 r1_2 c1_2 m1_2 sh1_2).mono fun e W' ⟨he, bel⟩ => ?_
  subst he
  exact ⟨_, rfl, _, _, _, [], _, [], hW', trodAll_mk1 (shut_bool Tryd.underlying4 _), (trodAll_cons_mk (Below.trod laidOut (by kernel_rfl) (of_decide_eq_true (by kernel_rfl)) k0 bel lt0) (trodAll_cons_mk (Below.trod laidOut (by kernel_rfl) (of_decide_eq_true (by kernel_rfl)) k1 bel lt1) trodAll_mk0)), rfl, bel.frame _, fun h => by cases h⟩

theorem over : Rows.mimeSameRow.holds Tryd.pinned (OpenSpec.ofChange Rows.mimeSameSpec) :=
  OpenClaim.holds_of_wide 6 Tryd.f6 rfl rfl rfl rfl rfl rfl rfl ⟨rfl, rfl, rfl, rfl, rfl⟩ rfl rfl rfl rfl rfl (by kernel_rfl) Tryd.func6 (by kernel_rfl)
    (of_decide_eq_true (by kernel_rfl)) (by unfold Func.isWrapper; first | (rw [if_pos (by decide +kernel)]; kernel_rfl) | (rw [if_neg (by decide +kernel)]; exact ⟨rfl, rfl⟩))
    (fun os started H enc _ => lifted os started H enc)

theorem proved : Rows.MimeSameCardSaid :=
  Claim7.holds_tied_plain_at .later [] [.data, .pinned] true (true, "4d479682253e813436179f4cc4387c4b00ca3f7f458835a98b3c5441cf8109ab") false over (fun _ h => by cases h) (by kernel_rfl) (fun _ h => by cases h) mimeSame_row_tie rfl ⟨rfl, rfl⟩ (by kernel_rfl) rfl
    (fun f fn hf hfn => by
      obtain rfl : f = 6 := Option.some.inj ((show Tryd.prog.funcNamed "carryall/carryalllaw05.MimeSame" = some 6 by kernel_rfl).symm.trans hf) |>.symm
      obtain rfl : fn = Tryd.f6 := (Option.some.inj (Tryd.func6.symm.trans hfn)).symm
      exact ⟨by kernel_rfl, fun j t ht => by
        rw [Tryd.params6] at ht
        have hm : t ∈ [25, 25] := by simpa using Array.mem_of_getElem? ht
        have hall : ([25, 25].all fun u => !Tryd.prog.wantsStandIn u) = true := by kernel_rfl
        exact (show Tryd.prog.wantsStandIn t = false by simpa using List.all_eq_true.1 hall t hm)⟩)
    (by kernel_rfl)
end Go.Proofs.YtlbgcibdpeaomaaDoor.lawMimeSame
