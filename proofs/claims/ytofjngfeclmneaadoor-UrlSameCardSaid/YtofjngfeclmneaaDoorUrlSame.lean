/- The law UrlSame: for every input the call returns true, and each argument reads afterwards as it read before. No condition. The package-level variables that the row lists are tied to the program's text by the given tie. -/
import Derived.Test.YtofjngfeclmneaaDoorRows
import Derived.Test.YtofjngfeclmneaaDoorTie
import Derived.Test.YtofjngfeclmneaaDoorCards
import Derived.Test.YtofjngfeclmneaaDoorOpen2
import Derived.Test.YtofjngfeclmneaaDoorLaw11c
import Derived.Test.YtofjngfeclmneaaDoorAggN
import Derived.Lib.SmallJoins
import Derived.LaidMore
import Derived.Lay
import Derived.SevenTiedAt
import Derived.Stop.Joined
namespace Go.Proofs.YtofjngfeclmneaaDoor.lawUrlSame
open Go.Joins Go.ChangeShapes Go.WideShapes Go.ChangeAt Go.RowKit
open Go.ChangeMaps (open_string shut_string)
set_option linter.unusedVariables false

theorem own : ownKnob Tryd.prog.godebug = none := by kernel_rfl
theorem laidOut : laidOutB Tryd.prog = true := by kernel_rfl
set_option maxRecDepth 100000 in
theorem lifted (os : Os) (started : os.Started) (H : Type) (enc : TypeId × Value → H) :
    ReturnsInHanded {} Tryd.checked os 5 .any (fun w args => (Rows.urlSameSpec.pre enc Tryd.prog Tryd.f5 Rows.urlSameRow.domain false w args ∧ laidMetH Tryd.prog Rows.urlSameRow.laid w) ∧ sizedMet enc Tryd.prog Tryd.f5 (OpenSpec.ofChange Rows.urlSameSpec) false w args)
      (Rows.urlSameSpec.post enc Tryd.prog Tryd.f5 false true false false) := by
  refine returnsInHanded_of_change_and (C := Tryd.checked) (X := fun w _ => laidMetH Tryd.prog Rows.urlSameRow.laid w) (fun _ _ _ hh h => h.of_heap hh) own started (by kernel_rfl) Tryd.func5
    (ChangeSpec.witness_shaped (enc := enc) (C := Tryd.checked) (os := os) (X := fun w _ => laidMetH Tryd.prog Rows.urlSameRow.laid w) false (World.laidAll Tryd.prog os Rows.urlSameRow.laid) #[.agg #[.string ByteArray.empty, .string ByteArray.empty, .string ByteArray.empty, .string ByteArray.empty, .bool false, .int .i64 0, .bool false, .string ByteArray.empty, .slice none 0 0, .bool false, .bool false, .string ByteArray.empty, .string ByteArray.empty], .agg #[.string ByteArray.empty, .string ByteArray.empty, .string ByteArray.empty, .string ByteArray.empty, .bool false, .int .i64 0, .bool false, .string ByteArray.empty, .slice none 0 0, .bool false, .bool false, .string ByteArray.empty, .string ByteArray.empty]] 8 (World.laidAll_os _ _ _)
      (World.shaped_of_ZipB (by kernel_rfl) (by kernel_rfl)) (by kernel_rfl) (by kernel_rfl) (by kernel_rfl)
      (by rw [MakeChecks.laidMetH_plain _ _ _ (by kernel_rfl)]; exact laidMet_laidAll _ (by kernel_rfl) (by kernel_rfl))) ?_
  intro W base args ds gs before hval0 hW hcnd hsz hL _
  have hval : ∀ (j : Nat) t v, Tryd.f5.params[j]? = some t → args[j]? = some v → Value.okWide Tryd.prog W .any base t v := hval0
  have hW' := hW
  obtain ⟨p, q, hA0, hV, rfl, hfz, hnd⟩ := hW
  have hA : DataW.TrodAll enc Tryd.prog W 0 (fun _ => true) true Tryd.f5.params.toList args.toList ds p := hA0
  rw [Tryd.params5] at hA hval
  obtain ⟨v0, vs0, d0, ds0, p0, q0, hargs, rfl, rfl, h0, r_0⟩ := trodAll_cons hA
  obtain ⟨v1, vs1, d1, ds1, p1, q1, rfl, rfl, rfl, h1, r_1⟩ := trodAll_cons r_0
  obtain ⟨rfl, rfl, rfl⟩ := trodAll_nil r_1
  obtain rfl : args = #[v0, v1] := by cases args; simp_all
  obtain ⟨rfl, rfl⟩ := trodVars_none hV
  have k0 := h0
  have lt0 : ∀ x ∈ p0, x.block < W.heap.size := by obtain ⟨m, hm⟩ := k0; exact DataW.trod_lt m _ _ _ hm
  obtain ⟨v0_0, v0_1, v0_2, v0_3, v0_4, v0_5, v0_6, v0_7, v0_8, v0_9, v0_10, v0_11, v0_12, y0_0, y0_1, y0_2, y0_3, y0_4, y0_5, y0_6, y0_7, y0_8, y0_9, y0_10, y0_11, y0_12, n0, rfl, rfl, rfl, t0_0, t0_1, t0_2, t0_3, t0_4, t0_5, t0_6, t0_7, t0_8, t0_9, t0_10, t0_11, t0_12⟩ := AggN.open_agg13 Tryd.underlying24 (by kernel_rfl) (by kernel_rfl) (hval 0 24 v0 rfl rfl) h0
  obtain ⟨a0_0, e0_0, d0_0, w0_0⟩ := DataW.trod_string Tryd.underlying9 t0_0
  obtain rfl : v0_0 = .string a0_0 := by simpa using e0_0
  have z0_0 : a0_0.size ≤ 140737488351232 := by have z := Open2.field_string hsz (i := 0) rfl rfl Tryd.underlying24 (j := 0) rfl (show _ = some (DataW.lit (.string a0_0.data.toList)) by rw [d0_0]; rfl); rw [Array.length_toList] at z; exact z
  obtain ⟨a0_1, e0_1, d0_1, w0_1⟩ := DataW.trod_string Tryd.underlying9 t0_1
  obtain rfl : v0_1 = .string a0_1 := by simpa using e0_1
  have z0_1 : a0_1.size ≤ 140737488351232 := by have z := Open2.field_string hsz (i := 0) rfl rfl Tryd.underlying24 (j := 1) rfl (show _ = some (DataW.lit (.string a0_1.data.toList)) by rw [d0_1]; rfl); rw [Array.length_toList] at z; exact z
  obtain ⟨a0_2, e0_2, d0_2, w0_2⟩ := DataW.trod_string Tryd.underlying9 t0_2
  obtain rfl : v0_2 = .string a0_2 := by simpa using e0_2
  have z0_2 : a0_2.size ≤ 140737488351232 := by have z := Open2.field_string hsz (i := 0) rfl rfl Tryd.underlying24 (j := 2) rfl (show _ = some (DataW.lit (.string a0_2.data.toList)) by rw [d0_2]; rfl); rw [Array.length_toList] at z; exact z
  obtain ⟨a0_3, e0_3, d0_3, w0_3⟩ := DataW.trod_string Tryd.underlying9 t0_3
  obtain rfl : v0_3 = .string a0_3 := by simpa using e0_3
  have z0_3 : a0_3.size ≤ 140737488351232 := by have z := Open2.field_string hsz (i := 0) rfl rfl Tryd.underlying24 (j := 3) rfl (show _ = some (DataW.lit (.string a0_3.data.toList)) by rw [d0_3]; rfl); rw [Array.length_toList] at z; exact z
  obtain ⟨a0_4, e0_4, _⟩ := DataW.trod_bool Tryd.underlying4 t0_4
  obtain rfl : v0_4 = .bool a0_4 := by simpa using e0_4
  obtain ⟨a0_5, e0_5, _, w0_5⟩ := DataW.trod_int Tryd.underlying3 t0_5
  obtain rfl : v0_5 = .int .i64 a0_5 := by simpa using e0_5
  obtain ⟨a0_6, e0_6, _⟩ := DataW.trod_bool Tryd.underlying4 t0_6
  obtain rfl : v0_6 = .bool a0_6 := by simpa using e0_6
  obtain ⟨a0_7, e0_7, d0_7, w0_7⟩ := DataW.trod_string Tryd.underlying9 t0_7
  obtain rfl : v0_7 = .string a0_7 := by simpa using e0_7
  have z0_7 : a0_7.size ≤ 140737488351232 := by have z := Open2.field_string hsz (i := 0) rfl rfl Tryd.underlying24 (j := 7) rfl (show _ = some (DataW.lit (.string a0_7.data.toList)) by rw [d0_7]; rfl); rw [Array.length_toList] at z; exact z
  obtain ⟨A0_8, n0_8, cap0_8, e0_8⟩ := slice_form Tryd.underlying22 t0_8
  obtain rfl : v0_8 = .slice A0_8 n0_8 cap0_8 := by simpa using e0_8
  obtain ⟨l0_8, r0_8, c0_8, m0_8, k0_8w⟩ := AggN.field_strings hsz (i := 0) rfl rfl Tryd.underlying24 (j := 8) rfl (fuel := n0) (a := A0_8) (len := n0_8) (cap := cap0_8) (x := y0_8) rfl Tryd.underlying22 Tryd.underlying9 (by kernel_rfl) t0_8
  obtain ⟨a0_9, e0_9, _⟩ := DataW.trod_bool Tryd.underlying4 t0_9
  obtain rfl : v0_9 = .bool a0_9 := by simpa using e0_9
  obtain ⟨a0_10, e0_10, _⟩ := DataW.trod_bool Tryd.underlying4 t0_10
  obtain rfl : v0_10 = .bool a0_10 := by simpa using e0_10
  obtain ⟨a0_11, e0_11, d0_11, w0_11⟩ := DataW.trod_string Tryd.underlying9 t0_11
  obtain rfl : v0_11 = .string a0_11 := by simpa using e0_11
  have z0_11 : a0_11.size ≤ 140737488351232 := by have z := Open2.field_string hsz (i := 0) rfl rfl Tryd.underlying24 (j := 11) rfl (show _ = some (DataW.lit (.string a0_11.data.toList)) by rw [d0_11]; rfl); rw [Array.length_toList] at z; exact z
  obtain ⟨a0_12, e0_12, d0_12, w0_12⟩ := DataW.trod_string Tryd.underlying9 t0_12
  obtain rfl : v0_12 = .string a0_12 := by simpa using e0_12
  have z0_12 : a0_12.size ≤ 140737488351232 := by have z := Open2.field_string hsz (i := 0) rfl rfl Tryd.underlying24 (j := 12) rfl (show _ = some (DataW.lit (.string a0_12.data.toList)) by rw [d0_12]; rfl); rw [Array.length_toList] at z; exact z
  have k1 := h1
  have lt1 : ∀ x ∈ p1, x.block < W.heap.size := by obtain ⟨m, hm⟩ := k1; exact DataW.trod_lt m _ _ _ hm
  obtain ⟨v1_0, v1_1, v1_2, v1_3, v1_4, v1_5, v1_6, v1_7, v1_8, v1_9, v1_10, v1_11, v1_12, y1_0, y1_1, y1_2, y1_3, y1_4, y1_5, y1_6, y1_7, y1_8, y1_9, y1_10, y1_11, y1_12, n1, rfl, rfl, rfl, t1_0, t1_1, t1_2, t1_3, t1_4, t1_5, t1_6, t1_7, t1_8, t1_9, t1_10, t1_11, t1_12⟩ := AggN.open_agg13 Tryd.underlying24 (by kernel_rfl) (by kernel_rfl) (hval 1 24 v1 rfl rfl) h1
  obtain ⟨a1_0, e1_0, d1_0, w1_0⟩ := DataW.trod_string Tryd.underlying9 t1_0
  obtain rfl : v1_0 = .string a1_0 := by simpa using e1_0
  have z1_0 : a1_0.size ≤ 140737488351232 := by have z := Open2.field_string hsz (i := 1) rfl rfl Tryd.underlying24 (j := 0) rfl (show _ = some (DataW.lit (.string a1_0.data.toList)) by rw [d1_0]; rfl); rw [Array.length_toList] at z; exact z
  obtain ⟨a1_1, e1_1, d1_1, w1_1⟩ := DataW.trod_string Tryd.underlying9 t1_1
  obtain rfl : v1_1 = .string a1_1 := by simpa using e1_1
  have z1_1 : a1_1.size ≤ 140737488351232 := by have z := Open2.field_string hsz (i := 1) rfl rfl Tryd.underlying24 (j := 1) rfl (show _ = some (DataW.lit (.string a1_1.data.toList)) by rw [d1_1]; rfl); rw [Array.length_toList] at z; exact z
  obtain ⟨a1_2, e1_2, d1_2, w1_2⟩ := DataW.trod_string Tryd.underlying9 t1_2
  obtain rfl : v1_2 = .string a1_2 := by simpa using e1_2
  have z1_2 : a1_2.size ≤ 140737488351232 := by have z := Open2.field_string hsz (i := 1) rfl rfl Tryd.underlying24 (j := 2) rfl (show _ = some (DataW.lit (.string a1_2.data.toList)) by rw [d1_2]; rfl); rw [Array.length_toList] at z; exact z
  obtain ⟨a1_3, e1_3, d1_3, w1_3⟩ := DataW.trod_string Tryd.underlying9 t1_3
  obtain rfl : v1_3 = .string a1_3 := by simpa using e1_3
  have z1_3 : a1_3.size ≤ 140737488351232 := by have z := Open2.field_string hsz (i := 1) rfl rfl Tryd.underlying24 (j := 3) rfl (show _ = some (DataW.lit (.string a1_3.data.toList)) by rw [d1_3]; rfl); rw [Array.length_toList] at z; exact z
  obtain ⟨a1_4, e1_4, _⟩ := DataW.trod_bool Tryd.underlying4 t1_4
  obtain rfl : v1_4 = .bool a1_4 := by simpa using e1_4
  obtain ⟨a1_5, e1_5, _, w1_5⟩ := DataW.trod_int Tryd.underlying3 t1_5
  obtain rfl : v1_5 = .int .i64 a1_5 := by simpa using e1_5
  obtain ⟨a1_6, e1_6, _⟩ := DataW.trod_bool Tryd.underlying4 t1_6
  obtain rfl : v1_6 = .bool a1_6 := by simpa using e1_6
  obtain ⟨a1_7, e1_7, d1_7, w1_7⟩ := DataW.trod_string Tryd.underlying9 t1_7
  obtain rfl : v1_7 = .string a1_7 := by simpa using e1_7
  have z1_7 : a1_7.size ≤ 140737488351232 := by have z := Open2.field_string hsz (i := 1) rfl rfl Tryd.underlying24 (j := 7) rfl (show _ = some (DataW.lit (.string a1_7.data.toList)) by rw [d1_7]; rfl); rw [Array.length_toList] at z; exact z
  obtain ⟨A1_8, n1_8, cap1_8, e1_8⟩ := slice_form Tryd.underlying22 t1_8
  obtain rfl : v1_8 = .slice A1_8 n1_8 cap1_8 := by simpa using e1_8
  obtain ⟨l1_8, r1_8, c1_8, m1_8, k1_8w⟩ := AggN.field_strings hsz (i := 1) rfl rfl Tryd.underlying24 (j := 8) rfl (fuel := n1) (a := A1_8) (len := n1_8) (cap := cap1_8) (x := y1_8) rfl Tryd.underlying22 Tryd.underlying9 (by kernel_rfl) t1_8
  obtain ⟨a1_9, e1_9, _⟩ := DataW.trod_bool Tryd.underlying4 t1_9
  obtain rfl : v1_9 = .bool a1_9 := by simpa using e1_9
  obtain ⟨a1_10, e1_10, _⟩ := DataW.trod_bool Tryd.underlying4 t1_10
  obtain rfl : v1_10 = .bool a1_10 := by simpa using e1_10
  obtain ⟨a1_11, e1_11, d1_11, w1_11⟩ := DataW.trod_string Tryd.underlying9 t1_11
  obtain rfl : v1_11 = .string a1_11 := by simpa using e1_11
  have z1_11 : a1_11.size ≤ 140737488351232 := by have z := Open2.field_string hsz (i := 1) rfl rfl Tryd.underlying24 (j := 11) rfl (show _ = some (DataW.lit (.string a1_11.data.toList)) by rw [d1_11]; rfl); rw [Array.length_toList] at z; exact z
  obtain ⟨a1_12, e1_12, d1_12, w1_12⟩ := DataW.trod_string Tryd.underlying9 t1_12
  obtain rfl : v1_12 = .string a1_12 := by simpa using e1_12
  have z1_12 : a1_12.size ≤ 140737488351232 := by have z := Open2.field_string hsz (i := 1) rfl rfl Tryd.underlying24 (j := 12) rfl (show _ = some (DataW.lit (.string a1_12.data.toList)) by rw [d1_12]; rfl); rw [Array.length_toList] at z; exact z
  clear hA0 hval0
  rw [MakeChecks.laidMetH_plain _ _ _ (by kernel_rfl)] at hL
  have hpow : ("internal/strconv.uint64pow10", (Lib.tabData .u64 Lib.pow10Tab : DataW Unit)) ∈ Rows.urlSameRow.laid := by
    have e : (Rows.laid_internal_strconv_uint64pow10 : DataW Unit) = Lib.tabData .u64 Lib.pow10Tab := by kernel_rfl
    rw [← e]
    unfold Rows.urlSameRow
    simp
  refine (Laws.UrlSame_any a0_0 a0_1 a0_2 a0_3 a0_4 a0_5 a0_6 a0_7 A0_8 n0_8 cap0_8 l0_8 a0_9 a0_10 a0_11 a0_12 a1_0 a1_1 a1_2 a1_3 a1_4 a1_5 a1_6 a1_7 A1_8 n1_8 cap1_8 l1_8 a1_9 a1_10 a1_11 a1_12 W z0_0 z0_1 z0_2 z0_3 (bounds_i64 w0_5) z0_7 r0_8 c0_8 m0_8 k0_8w z0_11 z0_12 z1_0 z1_1 z1_2 z1_3 (bounds_i64 w1_5) z1_7 r1_8 c1_8 m1_8 k1_8w z1_11 z1_12 (Tab.pow_of hL hpow)).mono fun e W' ⟨he, bel⟩ => ?_
  subst he
  exact ⟨_, rfl, _, _, _, [], _, [], hW', trodAll_mk1 (shut_bool Tryd.underlying4 _), (trodAll_cons_mk (Below.trod laidOut (by kernel_rfl) (of_decide_eq_true (by kernel_rfl)) k0 bel lt0) (trodAll_cons_mk (Below.trod laidOut (by kernel_rfl) (of_decide_eq_true (by kernel_rfl)) k1 bel lt1) trodAll_mk0)), rfl, bel.frame _, fun h => by cases h⟩

theorem over : Rows.urlSameRow.holds Tryd.pinned (OpenSpec.ofChange Rows.urlSameSpec) :=
  OpenClaim.holds_of_wide 5 Tryd.f5 rfl rfl rfl rfl rfl rfl rfl ⟨rfl, rfl, rfl, rfl, rfl⟩ rfl rfl rfl rfl rfl (by kernel_rfl) Tryd.func5 (by kernel_rfl)
    (of_decide_eq_true (by kernel_rfl)) (by unfold Func.isWrapper; first | (rw [if_pos (by decide +kernel)]; kernel_rfl) | (rw [if_neg (by decide +kernel)]; exact ⟨rfl, rfl⟩))
    (fun os started H enc _ => lifted os started H enc)

theorem proved : Rows.UrlSameCardSaid :=
  Claim7.holds_tied_plain_at .later [] [.data, .data, .data] true (true, "a75d61832405afd3d35ba960085540c2c592116b835b2a7f6e997bc75eb2e91b") false over (fun _ h => by cases h) (by kernel_rfl) (fun _ h => by cases h) urlSame_row_tie rfl ⟨rfl, rfl⟩ (by kernel_rfl) rfl
    (fun f fn hf hfn => by
      obtain rfl : f = 5 := Option.some.inj ((show Tryd.prog.funcNamed "carryall/carryalllaw11.UrlSame" = some 5 by kernel_rfl).symm.trans hf) |>.symm
      obtain rfl : fn = Tryd.f5 := (Option.some.inj (Tryd.func5.symm.trans hfn)).symm
      exact ⟨by kernel_rfl, fun j t ht => by
        rw [Tryd.params5] at ht
        have hm : t ∈ [24, 24] := by simpa using Array.mem_of_getElem? ht
        have hall : ([24, 24].all fun u => !Tryd.prog.wantsStandIn u) = true := by kernel_rfl
        exact (show Tryd.prog.wantsStandIn t = false by simpa using List.all_eq_true.1 hall t hm)⟩)
    (by kernel_rfl)
end Go.Proofs.YtofjngfeclmneaaDoor.lawUrlSame
