/- The law OriginSame: for every input the call returns true, and each argument reads afterwards as it read before. No condition. The package-level variables that the row lists are tied to the program's text by the given tie. -/
import Derived.Test.YtaooiggckcfanaaGreatDoorRows
import Derived.Test.YtaooiggckcfanaaGreatDoorTie
import Derived.Test.YtaooiggckcfanaaGreatDoorCards
import Derived.Test.YtaooiggckcfanaaGreatDoorMA
import Derived.Test.YtaooiggckcfanaaGreatDoorLaw13a
import Derived.Test.YtaooiggckcfanaaGreatDoorMH
import Derived.Lib.SmallJoins
import Derived.LaidMore
import Derived.Lay
import Derived.SevenTiedAt
import Derived.Stop.Joined
import Derived.Test.YtaooiggckcfanaaGreatDoorFrx
namespace Go.Proofs.YtaooiggckcfanaaGreatDoor.lawOriginSame
open Go.Joins Go.ChangeShapes Go.WideShapes Go.ChangeAt Go.RowKit
open Go.ChangeMaps (open_string shut_string)
set_option linter.unusedVariables false

theorem own : ownKnob Tryz.prog.godebug = none := by kernel_rfl
theorem laidOut : laidOutB Tryz.prog = true := by kernel_rfl
set_option maxRecDepth 100000 in
theorem lifted (os : Os) (started : os.Started) (H : Type) (enc : TypeId × Value → H) :
    ReturnsInHanded {} Tryz.checked os 11 .any (fun w args => (Rows.originSameSpec.pre enc Tryz.prog Tryz.f11 Rows.originSameRow.domain false w args ∧ laidMetH Tryz.prog Rows.originSameRow.laid w) ∧ sizedMet enc Tryz.prog Tryz.f11 (OpenSpec.ofChange Rows.originSameSpec) false w args)
      (Rows.originSameSpec.post enc Tryz.prog Tryz.f11 false true false false) := by
  refine Shs.wrap (C := Tryz.checked) (X := fun w _ => laidMetH Tryz.prog Rows.originSameRow.laid w) (fun _ _ _ hh h => h.of_heap hh) own started (by kernel_rfl) Tryz.func11
    (ChangeSpec.witness_shaped (enc := enc) (C := Tryz.checked) (os := os) (X := fun w _ => laidMetH Tryz.prog Rows.originSameRow.laid w) false (World.laidAll Tryz.prog os Rows.originSameRow.laid) #[.agg #[.string ByteArray.empty, .string ByteArray.empty, .int .i64 0, .int .i64 0], .agg #[.string ByteArray.empty, .string ByteArray.empty, .int .i64 0, .int .i64 0], .agg #[.string ByteArray.empty, .string ByteArray.empty, .int .i64 0, .int .i64 0]] 8 (World.laidAll_os _ _ _)
      (World.shaped_of_ZipB (by kernel_rfl) (by kernel_rfl)) (by kernel_rfl) (by kernel_rfl) (by kernel_rfl)
      (by rw [MakeChecks.laidMetH_plain _ _ _ (by kernel_rfl)]; exact laidMet_laidAll _ (by kernel_rfl) (by kernel_rfl))) ?_
  intro W base args ds gs before hval0 hW hcnd hsz hL hSh _
  have hval : ∀ (j : Nat) t v, Tryz.f11.params[j]? = some t → args[j]? = some v → Value.okWide Tryz.prog W .any base t v := hval0
  have hW' := hW
  obtain ⟨p, q, hA0, hV, rfl, hfz, hnd⟩ := hW
  have hA : DataW.TrodAll enc Tryz.prog W 0 (fun _ => true) true Tryz.f11.params.toList args.toList ds p := hA0
  rw [Tryz.params11] at hA hval
  obtain ⟨v0, vs0, d0, ds0, p0, q0, hargs, rfl, rfl, h0, r_0⟩ := trodAll_cons hA
  obtain ⟨v1, vs1, d1, ds1, p1, q1, rfl, rfl, rfl, h1, r_1⟩ := trodAll_cons r_0
  obtain ⟨v2, vs2, d2, ds2, p2, q2, rfl, rfl, rfl, h2, r_2⟩ := trodAll_cons r_1
  obtain ⟨rfl, rfl, rfl⟩ := trodAll_nil r_2
  obtain rfl : args = #[v0, v1, v2] := by cases args; simp_all
  obtain ⟨rfl, rfl⟩ := trodVars_none hV
  have k0 := h0
  have lt0 : ∀ x ∈ p0, x.block < W.heap.size := by obtain ⟨m, hm⟩ := k0; exact DataW.trod_lt m _ _ _ hm
  obtain ⟨v0_0, v0_1, v0_2, v0_3, y0_0, y0_1, y0_2, y0_3, n0, rfl, rfl, rfl, t0_0, t0_1, t0_2, t0_3⟩ := open_agg4 Tryz.underlying43 (by kernel_rfl) (by kernel_rfl) (hval 0 43 v0 rfl rfl) h0
  obtain ⟨a0_0, e0_0, d0_0, w0_0⟩ := DataW.trod_string Tryz.underlying9 t0_0
  obtain rfl : v0_0 = .string a0_0 := by simpa using e0_0
  have z0_0 : a0_0.size ≤ 140737488351232 := by have z := Open2.field_string hsz (i := 0) rfl rfl Tryz.underlying43 (j := 0) rfl (show _ = some (DataW.lit (.string a0_0.data.toList)) by rw [d0_0]; rfl); rw [Array.length_toList] at z; exact z
  obtain ⟨a0_1, e0_1, d0_1, w0_1⟩ := DataW.trod_string Tryz.underlying9 t0_1
  obtain rfl : v0_1 = .string a0_1 := by simpa using e0_1
  have z0_1 : a0_1.size ≤ 140737488351232 := by have z := Open2.field_string hsz (i := 0) rfl rfl Tryz.underlying43 (j := 1) rfl (show _ = some (DataW.lit (.string a0_1.data.toList)) by rw [d0_1]; rfl); rw [Array.length_toList] at z; exact z
  obtain ⟨a0_2, e0_2, _, w0_2⟩ := DataW.trod_int Tryz.underlying3 t0_2
  obtain rfl : v0_2 = .int .i64 a0_2 := by simpa using e0_2
  obtain ⟨a0_3, e0_3, _, w0_3⟩ := DataW.trod_int Tryz.underlying2 t0_3
  obtain rfl : v0_3 = .int .i64 a0_3 := by simpa using e0_3
  have k1 := h1
  have lt1 : ∀ x ∈ p1, x.block < W.heap.size := by obtain ⟨m, hm⟩ := k1; exact DataW.trod_lt m _ _ _ hm
  obtain ⟨v1_0, v1_1, v1_2, v1_3, y1_0, y1_1, y1_2, y1_3, n1, rfl, rfl, rfl, t1_0, t1_1, t1_2, t1_3⟩ := open_agg4 Tryz.underlying43 (by kernel_rfl) (by kernel_rfl) (hval 1 43 v1 rfl rfl) h1
  obtain ⟨a1_0, e1_0, d1_0, w1_0⟩ := DataW.trod_string Tryz.underlying9 t1_0
  obtain rfl : v1_0 = .string a1_0 := by simpa using e1_0
  have z1_0 : a1_0.size ≤ 140737488351232 := by have z := Open2.field_string hsz (i := 1) rfl rfl Tryz.underlying43 (j := 0) rfl (show _ = some (DataW.lit (.string a1_0.data.toList)) by rw [d1_0]; rfl); rw [Array.length_toList] at z; exact z
  obtain ⟨a1_1, e1_1, d1_1, w1_1⟩ := DataW.trod_string Tryz.underlying9 t1_1
  obtain rfl : v1_1 = .string a1_1 := by simpa using e1_1
  have z1_1 : a1_1.size ≤ 140737488351232 := by have z := Open2.field_string hsz (i := 1) rfl rfl Tryz.underlying43 (j := 1) rfl (show _ = some (DataW.lit (.string a1_1.data.toList)) by rw [d1_1]; rfl); rw [Array.length_toList] at z; exact z
  obtain ⟨a1_2, e1_2, _, w1_2⟩ := DataW.trod_int Tryz.underlying3 t1_2
  obtain rfl : v1_2 = .int .i64 a1_2 := by simpa using e1_2
  obtain ⟨a1_3, e1_3, _, w1_3⟩ := DataW.trod_int Tryz.underlying2 t1_3
  obtain rfl : v1_3 = .int .i64 a1_3 := by simpa using e1_3
  have k2 := h2
  have lt2 : ∀ x ∈ p2, x.block < W.heap.size := by obtain ⟨m, hm⟩ := k2; exact DataW.trod_lt m _ _ _ hm
  obtain ⟨v2_0, v2_1, v2_2, v2_3, y2_0, y2_1, y2_2, y2_3, n2, rfl, rfl, rfl, t2_0, t2_1, t2_2, t2_3⟩ := open_agg4 Tryz.underlying43 (by kernel_rfl) (by kernel_rfl) (hval 2 43 v2 rfl rfl) h2
  obtain ⟨a2_0, e2_0, d2_0, w2_0⟩ := DataW.trod_string Tryz.underlying9 t2_0
  obtain rfl : v2_0 = .string a2_0 := by simpa using e2_0
  have z2_0 : a2_0.size ≤ 140737488351232 := by have z := Open2.field_string hsz (i := 2) rfl rfl Tryz.underlying43 (j := 0) rfl (show _ = some (DataW.lit (.string a2_0.data.toList)) by rw [d2_0]; rfl); rw [Array.length_toList] at z; exact z
  obtain ⟨a2_1, e2_1, d2_1, w2_1⟩ := DataW.trod_string Tryz.underlying9 t2_1
  obtain rfl : v2_1 = .string a2_1 := by simpa using e2_1
  have z2_1 : a2_1.size ≤ 140737488351232 := by have z := Open2.field_string hsz (i := 2) rfl rfl Tryz.underlying43 (j := 1) rfl (show _ = some (DataW.lit (.string a2_1.data.toList)) by rw [d2_1]; rfl); rw [Array.length_toList] at z; exact z
  obtain ⟨a2_2, e2_2, _, w2_2⟩ := DataW.trod_int Tryz.underlying3 t2_2
  obtain rfl : v2_2 = .int .i64 a2_2 := by simpa using e2_2
  obtain ⟨a2_3, e2_3, _, w2_3⟩ := DataW.trod_int Tryz.underlying2 t2_3
  obtain rfl : v2_3 = .int .i64 a2_3 := by simpa using e2_3
  clear hA0 hval0
  rw [MakeChecks.laidMetH_plain _ _ _ (by kernel_rfl)] at hL
  have hpow : ("internal/strconv.uint64pow10", (Lib.tabData .u64 Lib.pow10Tab : DataW Unit)) ∈ Rows.originSameRow.laid := by
    have e : (Rows.laid_internal_strconv_uint64pow10 : DataW Unit) = Lib.tabData .u64 Lib.pow10Tab := by kernel_rfl
    rw [← e]
    unfold Rows.originSameRow
    simp
  have hlad : ("math/bits.deBruijn64tab", (Lib.tabData .u8 SixG.debr : DataW Unit)) ∈ Rows.originSameRow.laid := by
    have e : (Rows.laid_math_bits_deBruijn64tab : DataW Unit) = Lib.tabData .u8 SixG.debr := by kernel_rfl
    rw [← e]
    unfold Rows.originSameRow
    simp
  have hut1 : ("unicode/utf8.first", (Lib.firstData : DataW Unit)) ∈ Rows.originSameRow.laid := by
    have e : (Rows.laid_unicode_utf8_first : DataW Unit) = Lib.firstData := by kernel_rfl
    rw [← e]
    unfold Rows.originSameRow
    simp
  have hut2 : ("unicode/utf8.acceptRanges", (Lib.acceptData : DataW Unit)) ∈ Rows.originSameRow.laid := by
    have e : (Rows.laid_unicode_utf8_acceptRanges : DataW Unit) = Lib.acceptData := by kernel_rfl
    rw [← e]
    unfold Rows.originSameRow
    simp
  refine (Laws.OriginSame_any a0_0 a0_1 a0_2 a0_3 a1_0 a1_1 a1_2 a1_3 a2_0 a2_1 a2_2 a2_3 W z0_0 z0_1 (bounds_i64 w0_2) (bounds_i64 w0_3) z1_0 z1_1 (bounds_i64 w1_2) (bounds_i64 w1_3) z2_0 z2_1 (bounds_i64 w2_2) (bounds_i64 w2_3) (Tab.pow_of hL hpow) (SixG.lad_of hL hlad) (Shs.max_of hSh) (Utab.utab_of hL hut1 hut2)).mono fun e W' ⟨he, bel⟩ => ?_
  subst he
  exact ⟨_, rfl, _, _, _, [], _, [], hW', trodAll_mk1 (shut_bool Tryz.underlying4 _), (trodAll_cons_mk (Below.trod laidOut (by kernel_rfl) (of_decide_eq_true (by kernel_rfl)) k0 bel lt0) (trodAll_cons_mk (Below.trod laidOut (by kernel_rfl) (of_decide_eq_true (by kernel_rfl)) k1 bel lt1) (trodAll_cons_mk (Below.trod laidOut (by kernel_rfl) (of_decide_eq_true (by kernel_rfl)) k2 bel lt2) trodAll_mk0))), rfl, bel.frame _, fun h => by cases h⟩

theorem over : Rows.originSameRow.holds Tryz.pinned (OpenSpec.ofChange Rows.originSameSpec) :=
  OpenClaim.holds_of_wide 11 Tryz.f11 rfl rfl rfl rfl rfl rfl rfl ⟨rfl, rfl, rfl, rfl, rfl⟩ rfl rfl rfl rfl rfl (by kernel_rfl) Tryz.func11 (by kernel_rfl)
    (of_decide_eq_true (by kernel_rfl)) (by unfold Func.isWrapper; first | (rw [if_pos (by decide +kernel)]; kernel_rfl) | (rw [if_neg (by decide +kernel)]; exact ⟨rfl, rfl⟩))
    (fun os started H enc _ => lifted os started H enc)

theorem proved : Rows.OriginSameCardSaid :=
  Claim7.holds_tied_plain_at .later [] [.data, .data, .data, .data, .pinned] true (true, "cf5f647102c1fe95224e01a03267afa7b0c2b187f9797605a151f9de49295b68") false over (fun _ h => by cases h) (by kernel_rfl) (fun _ h => by cases h) originSame_row_tie rfl ⟨rfl, rfl⟩ (by kernel_rfl) rfl
    (fun f fn hf hfn => by
      obtain rfl : f = 11 := Option.some.inj ((show Tryz.prog.funcNamed "carryall/carryalllaw13.OriginSame" = some 11 by kernel_rfl).symm.trans hf) |>.symm
      obtain rfl : fn = Tryz.f11 := (Option.some.inj (Tryz.func11.symm.trans hfn)).symm
      exact ⟨by kernel_rfl, fun j t ht => by
        rw [Tryz.params11] at ht
        have hm : t ∈ [43, 43, 43] := by simpa using Array.mem_of_getElem? ht
        have hall : ([43, 43, 43].all fun u => !Tryz.prog.wantsStandIn u) = true := by kernel_rfl
        exact (show Tryz.prog.wantsStandIn t = false by simpa using List.all_eq_true.1 hall t hm)⟩)
    (by kernel_rfl)
end Go.Proofs.YtaooiggckcfanaaGreatDoor.lawOriginSame
