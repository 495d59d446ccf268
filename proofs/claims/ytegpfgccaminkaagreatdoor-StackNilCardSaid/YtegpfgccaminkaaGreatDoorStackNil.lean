/- The law StackNil: for every input the call returns true, and each argument reads afterwards as it read before. No condition. The package-level variables that the row lists are tied to the program's text by the given tie. -/
import Derived.Test.YtegpfgccaminkaaGreatDoorJpA
import Derived.Test.YtegpfgccaminkaaGreatDoorJpB
import Derived.Test.YtegpfgccaminkaaGreatDoorJpC
import Derived.Test.YtegpfgccaminkaaGreatDoorJpD
import Derived.Test.YtegpfgccaminkaaGreatDoorJqStackNilA
import Derived.Test.YtegpfgccaminkaaGreatDoorJqStackNilB
import Derived.Test.YtegpfgccaminkaaGreatDoorJqStackNilC
import Derived.Test.YtegpfgccaminkaaGreatDoorJqStackNilD
import Derived.Test.YtegpfgccaminkaaGreatDoorJqStackNilE
import Derived.Test.YtegpfgccaminkaaGreatDoorRows
import Derived.Test.YtegpfgccaminkaaGreatDoorTie
import Derived.Test.YtegpfgccaminkaaGreatDoorCards
import Derived.Test.YtegpfgccaminkaaGreatDoorUAS
import Derived.Test.YtegpfgccaminkaaGreatDoorLaw27n
import Derived.Lib.SmallJoins
import Derived.LaidMore
import Derived.Lay
import Derived.SevenTiedAt
import Derived.Stop.Joined
namespace Go.Proofs.YtegpfgccaminkaaGreatDoor.lawStackNil
open Go.Joins Go.ChangeShapes Go.WideShapes Go.ChangeAt Go.RowKit
open Go.ChangeMaps (open_string shut_string)
set_option linter.unusedVariables false

theorem own : ownKnob Tryz.prog.godebug = none := by kernel_rfl
theorem laidOut : laidOutB Tryz.prog = true := JpA.laidOut
set_option maxRecDepth 100000 in
theorem lifted (os : Os) (started : os.Started) (H : Type) (enc : TypeId × Value → H) :
    ReturnsInHanded {} Tryz.checked os 4 .any (fun w args => (Rows.stackNilSpec.pre enc Tryz.prog Tryz.f4 Rows.stackNilRow.domain false w args ∧ laidMetH Tryz.prog Rows.stackNilRow.laid w) ∧ sizedMet enc Tryz.prog Tryz.f4 (OpenSpec.ofChange Rows.stackNilSpec) false w args)
      (Rows.stackNilSpec.post enc Tryz.prog Tryz.f4 false true false false) := by
  refine Shs.wrap (C := Tryz.checked) (X := fun w _ => laidMetH Tryz.prog Rows.stackNilRow.laid w) (fun _ _ _ hh h => h.of_heap hh) own started (by kernel_rfl) Tryz.func4
    (ChangeSpec.witness_shaped (enc := enc) (C := Tryz.checked) (os := os) (X := fun w _ => laidMetH Tryz.prog Rows.stackNilRow.laid w) false (World.laidAll Tryz.prog os Rows.stackNilRow.laid) #[.int .i64 0, .string ByteArray.empty, .agg #[.string ByteArray.empty, .string ByteArray.empty, .int .i64 0, .int .i64 0]] 8 (World.laidAll_os _ _ _)
      (World.shaped_of_ZipB (by kernel_rfl) (by kernel_rfl)) (by kernel_rfl) (by kernel_rfl) (by kernel_rfl)
      (by rw [MakeChecks.laidMetH_plain _ _ _ (by kernel_rfl)]; exact laidMet_laidAll _ (by kernel_rfl) (by kernel_rfl))) ?_
  intro W base args ds gs before hval0 hW hcnd hsz hL hSh _
  have hval : ∀ (j : Nat) t v, Tryz.f4.params[j]? = some t → args[j]? = some v → Value.okWide Tryz.prog W .any base t v := hval0
  have hW' := hW
  obtain ⟨p, q, hA0, hV, rfl, hfz, hnd⟩ := hW
  have hA : DataW.TrodAll enc Tryz.prog W 0 (fun _ => true) true Tryz.f4.params.toList args.toList ds p := hA0
  rw [Tryz.params4] at hA hval
  obtain ⟨v0, vs0, d0, ds0, p0, q0, hargs, rfl, rfl, h0, r_0⟩ := trodAll_cons hA
  obtain ⟨v1, vs1, d1, ds1, p1, q1, rfl, rfl, rfl, h1, r_1⟩ := trodAll_cons r_0
  obtain ⟨v2, vs2, d2, ds2, p2, q2, rfl, rfl, rfl, h2, r_2⟩ := trodAll_cons r_1
  obtain ⟨rfl, rfl, rfl⟩ := trodAll_nil r_2
  obtain rfl : args = #[v0, v1, v2] := by cases args; simp_all
  obtain ⟨rfl, rfl⟩ := trodVars_none hV
  obtain ⟨a0, rfl, rfl, rfl, w0⟩ := open_int Tryz.underlying2 (hval 0 2 v0 rfl rfl) h0
  obtain ⟨a1, rfl, rfl, rfl, w1⟩ := open_string Tryz.underlying9 (hval 1 9 v1 rfl rfl) h1
  have z1 : a1.size ≤ 140737488351232 := by have z := sized_string hsz (j := 1) rfl rfl; rw [Array.length_toList] at z; exact z
  have k2 := h2
  have lt2 : ∀ x ∈ p2, x.block < W.heap.size := by obtain ⟨m, hm⟩ := k2; exact DataW.trod_lt m _ _ _ hm
  obtain ⟨v2_0, v2_1, v2_2, v2_3, y2_0, y2_1, y2_2, y2_3, n2, rfl, rfl, rfl, t2_0, t2_1, t2_2, t2_3⟩ := open_agg4 Tryz.underlying32 (by kernel_rfl) (by kernel_rfl) (hval 2 32 v2 rfl rfl) h2
  obtain ⟨a2_0, e2_0, d2_0, w2_0⟩ := DataW.trod_string Tryz.underlying9 t2_0
  obtain rfl : v2_0 = .string a2_0 := by simpa using e2_0
  have z2_0 : a2_0.size ≤ 140737488351232 := by have z := Open2.field_string hsz (i := 2) rfl rfl Tryz.underlying32 (j := 0) rfl (show _ = some (DataW.lit (.string a2_0.data.toList)) by rw [d2_0]; rfl); rw [Array.length_toList] at z; exact z
  obtain ⟨a2_1, e2_1, d2_1, w2_1⟩ := DataW.trod_string Tryz.underlying9 t2_1
  obtain rfl : v2_1 = .string a2_1 := by simpa using e2_1
  have z2_1 : a2_1.size ≤ 140737488351232 := by have z := Open2.field_string hsz (i := 2) rfl rfl Tryz.underlying32 (j := 1) rfl (show _ = some (DataW.lit (.string a2_1.data.toList)) by rw [d2_1]; rfl); rw [Array.length_toList] at z; exact z
  obtain ⟨a2_2, e2_2, _, w2_2⟩ := DataW.trod_int Tryz.underlying3 t2_2
  obtain rfl : v2_2 = .int .i64 a2_2 := by simpa using e2_2
  obtain ⟨a2_3, e2_3, _, w2_3⟩ := DataW.trod_int Tryz.underlying2 t2_3
  obtain rfl : v2_3 = .int .i64 a2_3 := by simpa using e2_3
  clear hA0 hval0
  rw [MakeChecks.laidMetH_plain _ _ _ (by kernel_rfl)] at hL
  have hpow : ("internal/strconv.uint64pow10", (Lib.tabData .u64 Lib.pow10Tab : DataW Unit)) ∈ Rows.stackNilRow.laid := by
    have e : (Rows.laid_internal_strconv_uint64pow10 : DataW Unit) = Lib.tabData .u64 Lib.pow10Tab := by kernel_rfl
    rw [← e]
    unfold Rows.stackNilRow
    simp
  have hut1 : ("unicode/utf8.first", (Lib.firstData : DataW Unit)) ∈ Rows.stackNilRow.laid := by
    have e : (Rows.laid_unicode_utf8_first : DataW Unit) = Lib.firstData := by kernel_rfl
    rw [← e]
    unfold Rows.stackNilRow
    simp
  have hut2 : ("unicode/utf8.acceptRanges", (Lib.acceptData : DataW Unit)) ∈ Rows.stackNilRow.laid := by
    have e : (Rows.laid_unicode_utf8_acceptRanges : DataW Unit) = Lib.acceptData := by kernel_rfl
    rw [← e]
    unfold Rows.stackNilRow
    simp
  refine (Laws.StackNil_any a0 a1 a2_0 a2_1 a2_2 a2_3 W (bounds_i64 w0) z1 z2_0 z2_1 (bounds_i64 w2_2) (bounds_i64 w2_3) (Tab.pow_of hL hpow) (Shs.max_of hSh) (Utab.utab_of hL hut1 hut2)).mono fun e W' ⟨he, bel⟩ => ?_
  subst he
  exact ⟨_, rfl, _, _, _, [], _, [], hW', trodAll_mk1 (shut_bool Tryz.underlying4 _), (trodAll_cons_mk (shut_int Tryz.underlying2 w0) (trodAll_cons_mk (shut_string Tryz.underlying9 w1) (trodAll_cons_mk (Below.trod laidOut (by kernel_rfl) (of_decide_eq_true (by kernel_rfl)) k2 bel lt2) trodAll_mk0))), rfl, bel.frame _, fun h => by cases h⟩

theorem and2 {a b : Bool} (h : a = true) (g : b = true) : (a && b) = true := by rw [h, g]; rfl
theorem jf0 : (Rows.stackNilRow.wf (OpenSpec.ofChange Rows.stackNilSpec)) = true := by kernel_rfl
theorem jf3 : (Tryz.f4.params.all (Tryz.prog.readableRec ·)) = true := by kernel_rfl
theorem jf4 : (namedTie Tryz.prog Rows.stackNilRow.named Rows.stackNilSpec.vars) = true := by kernel_rfl
theorem jf5 : ((Rows.stackNilRow.stops == [])) = true := by kernel_rfl
theorem jf7 : ((Rows.stackNilRow.knobs == [])) = true := by kernel_rfl
theorem jf13 : ((Rows.stackNilRow.maps == (Tryz.f4.params.toList ++ Rows.stackNilSpec.plain.varTypes Tryz.prog).any (Tryz.prog.mapsRec ·))) = true := by kernel_rfl
theorem jf14 : ((Rows.stackNilRow.ifaces == (Tryz.f4.params.toList ++ Rows.stackNilSpec.plain.varTypes Tryz.prog).any (Tryz.prog.ifacesRec ·))) = true := by kernel_rfl
theorem jf15 : ((Rows.stackNilRow.mapsOut == Tryz.prog.mapsAmong Tryz.f4.resultTypes.toList)) = true := by kernel_rfl
theorem jf16 : ((Rows.stackNilRow.loops == (Tryz.f4.params.toList ++ Rows.stackNilSpec.plain.varTypes Tryz.prog).any (Tryz.prog.loopsFrom ·))) = true := by kernel_rfl
theorem jf17 : ((Rows.stackNilRow.wideKeys == (Tryz.f4.params.toList ++ Rows.stackNilSpec.plain.varTypes Tryz.prog ++ Tryz.f4.resultTypes.toList).any (Tryz.prog.wideKeysFrom ·))) = true := by kernel_rfl
theorem jf18 : (Rows.stackNilSpec.vars.all (Tryz.prog.varReadable ·)) = true := by kernel_rfl
theorem jf19 : (Tryz.f4.resultTypes.all (fun t => Tryz.prog.readableRec t && decide (t < Tryz.prog.types.size))) = true := by kernel_rfl
theorem jf20 : ((Rows.stackNilRow.ifacesOut == Tryz.f4.resultTypes.toList.any (Tryz.prog.ifacesRec ·))) = true := by kernel_rfl
theorem jf21 : ((Rows.stackNilRow.loopsOut == Tryz.f4.resultTypes.toList.any (Tryz.prog.loopsFrom ·))) = true := by kernel_rfl
theorem jf23 : (Rows.stackNilRow.shortTexts.isNone) = true := by kernel_rfl
theorem jf28 : ((Rows.stackNilRow.kinds == (if Rows.stackNilRow.domain.isEmpty then [] else Tryz.f4.params.toList.map fun t => match Tryz.prog.underlying t with | some (.int k) => some k | _ => none))) = true := by kernel_rfl
theorem jf29 : ((Rows.stackNilRow.pinned == Rows.stackNilRow.pinnedBy)) = true := by kernel_rfl
theorem jf30 : ((Rows.stackNilRow.veiled == (Tryz.f4.params.toList ++ Rows.stackNilSpec.plain.varTypes Tryz.prog ++ Tryz.f4.resultTypes.toList).any (Tryz.prog.veiledRec ·))) = true := by kernel_rfl
theorem jf31 : (Rows.stackNilRow.veiledFits Tryz.prog Tryz.f4.params.toList (Tryz.f4.params.toList ++ Rows.stackNilSpec.plain.varTypes Tryz.prog ++ Tryz.f4.resultTypes.toList)) = true := by kernel_rfl
set_option maxRecDepth 100000 in
theorem closed : joinedFacts Tryz.prog 4 Tryz.f4 Rows.stackNilSpec Rows.stackNilRow = true := by
  unfold joinedFacts
  exact (and2 (and2 (and2 (and2 (and2 (and2 (and2 (and2 (and2 (and2 (and2 (and2 (and2 (and2 (and2 (and2 (and2 (and2 (and2 (and2 (and2 (and2 (and2 (and2 (and2 (and2 (and2 (and2 (and2 (and2 (and2 jf0 JpA.laidOut) JpA.maps0) jf3) jf4) jf5) JpA.stops) jf7) JpA.knobs) JqStackNilA.inPlace) JqStackNilA.unf) JqStackNilB.recs) JqStackNilB.named) jf13) jf14) jf15) jf16) jf17) jf18) jf19) jf20) jf21) JqStackNilC.plainK) jf23) JpC.heard) JpB.enter) JqStackNilC.lifted) JqStackNilD.make) jf28) jf29) jf30) jf31)

theorem over : Rows.stackNilRow.holds Tryz.pinned (OpenSpec.ofChange Rows.stackNilSpec) :=
  OpenClaim.holds_of_wide 4 Tryz.f4 rfl rfl rfl rfl rfl rfl rfl ⟨rfl, rfl, rfl, rfl, rfl⟩ rfl rfl rfl rfl rfl (by kernel_rfl) Tryz.func4 closed
    (of_decide_eq_true (by kernel_rfl)) (by unfold Func.isWrapper; first | (rw [if_pos (by decide +kernel)]; kernel_rfl) | (rw [if_neg (by decide +kernel)]; exact ⟨rfl, rfl⟩))
    (fun os started H enc _ => lifted os started H enc)

theorem proved : Rows.StackNilCardSaid :=
  Claim7.holds_tied_plain_at .later [] [.data, .data, .data, .data, .pinned] true (true, "bf3bfa28f8c393bac6c7122f614d5174ffed082527a77b79993f2c7558c21163") false over (fun _ h => by cases h) JqStackNilE.byText (fun _ h => by cases h) stackNil_row_tie rfl ⟨rfl, rfl⟩ JpD.mainIs rfl
    (fun f fn hf hfn => by
      obtain rfl : f = 4 := Option.some.inj ((show Tryz.prog.funcNamed "carryall/carryalllaw27.StackNil" = some 4 by kernel_rfl).symm.trans hf) |>.symm
      obtain rfl : fn = Tryz.f4 := (Option.some.inj (Tryz.func4.symm.trans hfn)).symm
      exact ⟨JpC.looks, fun j t ht => by
        rw [Tryz.params4] at ht
        have hm : t ∈ [2, 9, 32] := by simpa using Array.mem_of_getElem? ht
        have hall : ([2, 9, 32].all fun u => !Tryz.prog.wantsStandIn u) = true := by kernel_rfl
        exact (show Tryz.prog.wantsStandIn t = false by simpa using List.all_eq_true.1 hall t hm)⟩)
    JqStackNilE.goes
end Go.Proofs.YtegpfgccaminkaaGreatDoor.lawStackNil
