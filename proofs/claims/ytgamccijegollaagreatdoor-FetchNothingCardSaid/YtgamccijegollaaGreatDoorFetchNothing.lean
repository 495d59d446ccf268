/- The law FetchNothing: for every input the call returns true, and each argument reads afterwards as it read before. No condition. The package-level variables that the row lists are tied to the program's text by the given tie. -/
import Derived.Test.YtgamccijegollaaGreatDoorJpA
import Derived.Test.YtgamccijegollaaGreatDoorJpB
import Derived.Test.YtgamccijegollaaGreatDoorJpC
import Derived.Test.YtgamccijegollaaGreatDoorJpD
import Derived.Test.YtgamccijegollaaGreatDoorJqFetchNothingA
import Derived.Test.YtgamccijegollaaGreatDoorJqFetchNothingB
import Derived.Test.YtgamccijegollaaGreatDoorJqFetchNothingC
import Derived.Test.YtgamccijegollaaGreatDoorJqFetchNothingD
import Derived.Test.YtgamccijegollaaGreatDoorJqFetchNothingE
import Derived.Test.YtgamccijegollaaGreatDoorRows
import Derived.Test.YtgamccijegollaaGreatDoorTie
import Derived.Test.YtgamccijegollaaGreatDoorCards
import Derived.Test.YtgamccijegollaaGreatDoorFNAAL
import Derived.Test.YtgamccijegollaaGreatDoorLaw26n
import Derived.Test.YtgamccijegollaaGreatDoorFNAAR
import Derived.Lib.SmallJoins
import Derived.LaidMore
import Derived.Lay
import Derived.SevenTiedAt
import Derived.Stop.Joined
namespace Go.Proofs.YtgamccijegollaaGreatDoor.lawFetchNothing
open Go.Joins Go.ChangeShapes Go.WideShapes Go.ChangeAt Go.RowKit
open Go.ChangeMaps (open_string shut_string)
set_option linter.unusedVariables false

theorem own : ownKnob Tryz.prog.godebug = none := by kernel_rfl
theorem laidOut : laidOutB Tryz.prog = true := JpA.laidOut
set_option maxRecDepth 100000 in
theorem lifted (os : Os) (started : os.Started) (H : Type) (enc : TypeId × Value → H) :
    ReturnsInHanded {} Tryz.checked os 10 .any (fun w args => (Rows.fetchNothingSpec.pre enc Tryz.prog Tryz.f10 Rows.fetchNothingRow.domain false w args ∧ laidMetH Tryz.prog Rows.fetchNothingRow.laid w) ∧ sizedMet enc Tryz.prog Tryz.f10 (OpenSpec.ofChange Rows.fetchNothingSpec) false w args)
      (Rows.fetchNothingSpec.post enc Tryz.prog Tryz.f10 false true false false) := by
  refine Shs.wrap (C := Tryz.checked) (X := fun w _ => laidMetH Tryz.prog Rows.fetchNothingRow.laid w) (fun _ _ _ hh h => h.of_heap hh) own started (by kernel_rfl) Tryz.func10
    (ChangeSpec.witness_shaped (enc := enc) (C := Tryz.checked) (os := os) (X := fun w _ => laidMetH Tryz.prog Rows.fetchNothingRow.laid w) false (World.laidAll Tryz.prog os Rows.fetchNothingRow.laid) #[.string ByteArray.empty, .agg #[.string ByteArray.empty, .string ByteArray.empty, .int .i64 0, .int .i64 0], .string ByteArray.empty] 8 (World.laidAll_os _ _ _)
      (World.shaped_of_ZipB (by kernel_rfl) (by kernel_rfl)) (by kernel_rfl) (by kernel_rfl) (by kernel_rfl)
      (by rw [MakeChecks.laidMetH_plain _ _ _ (by kernel_rfl)]; exact laidMet_laidAll _ (by kernel_rfl) (by kernel_rfl))) ?_
  intro W base args ds gs before hval0 hW hcnd hsz hL hSh _
  have hval : ∀ (j : Nat) t v, Tryz.f10.params[j]? = some t → args[j]? = some v → Value.okWide Tryz.prog W .any base t v := hval0
  have hW' := hW
  obtain ⟨p, q, hA0, hV, rfl, hfz, hnd⟩ := hW
  have hA : DataW.TrodAll enc Tryz.prog W 0 (fun _ => true) true Tryz.f10.params.toList args.toList ds p := hA0
  rw [Tryz.params10] at hA hval
  obtain ⟨v0, vs0, d0, ds0, p0, q0, hargs, rfl, rfl, h0, r_0⟩ := trodAll_cons hA
  obtain ⟨v1, vs1, d1, ds1, p1, q1, rfl, rfl, rfl, h1, r_1⟩ := trodAll_cons r_0
  obtain ⟨v2, vs2, d2, ds2, p2, q2, rfl, rfl, rfl, h2, r_2⟩ := trodAll_cons r_1
  obtain ⟨rfl, rfl, rfl⟩ := trodAll_nil r_2
  obtain rfl : args = #[v0, v1, v2] := by cases args; simp_all
  obtain ⟨rfl, rfl⟩ := trodVars_none hV
  obtain ⟨a0, rfl, rfl, rfl, w0⟩ := open_string Tryz.underlying9 (hval 0 9 v0 rfl rfl) h0
  have z0 : a0.size ≤ 140737488351232 := by have z := sized_string hsz (j := 0) rfl rfl; rw [Array.length_toList] at z; exact z
  have k1 := h1
  have lt1 : ∀ x ∈ p1, x.block < W.heap.size := by obtain ⟨m, hm⟩ := k1; exact DataW.trod_lt m _ _ _ hm
  obtain ⟨v1_0, v1_1, v1_2, v1_3, y1_0, y1_1, y1_2, y1_3, n1, rfl, rfl, rfl, t1_0, t1_1, t1_2, t1_3⟩ := open_agg4 Tryz.underlying38 (by kernel_rfl) (by kernel_rfl) (hval 1 38 v1 rfl rfl) h1
  obtain ⟨a1_0, e1_0, d1_0, w1_0⟩ := DataW.trod_string Tryz.underlying9 t1_0
  obtain rfl : v1_0 = .string a1_0 := by simpa using e1_0
  have z1_0 : a1_0.size ≤ 140737488351232 := by have z := aj2.aar hsz (i := 1) rfl rfl Tryz.underlying38 (j := 0) rfl (show _ = some (DataW.lit (.string a1_0.data.toList)) by rw [d1_0]; rfl); rw [Array.length_toList] at z; exact z
  obtain ⟨a1_1, e1_1, d1_1, w1_1⟩ := DataW.trod_string Tryz.underlying9 t1_1
  obtain rfl : v1_1 = .string a1_1 := by simpa using e1_1
  have z1_1 : a1_1.size ≤ 140737488351232 := by have z := aj2.aar hsz (i := 1) rfl rfl Tryz.underlying38 (j := 1) rfl (show _ = some (DataW.lit (.string a1_1.data.toList)) by rw [d1_1]; rfl); rw [Array.length_toList] at z; exact z
  obtain ⟨a1_2, e1_2, _, w1_2⟩ := DataW.trod_int Tryz.underlying3 t1_2
  obtain rfl : v1_2 = .int .i64 a1_2 := by simpa using e1_2
  obtain ⟨a1_3, e1_3, _, w1_3⟩ := DataW.trod_int Tryz.underlying2 t1_3
  obtain rfl : v1_3 = .int .i64 a1_3 := by simpa using e1_3
  obtain ⟨a2, rfl, rfl, rfl, w2⟩ := open_string Tryz.underlying9 (hval 2 9 v2 rfl rfl) h2
  have z2 : a2.size ≤ 140737488351232 := by have z := sized_string hsz (j := 2) rfl rfl; rw [Array.length_toList] at z; exact z
  clear hA0 hval0
  rw [MakeChecks.laidMetH_plain _ _ _ (by kernel_rfl)] at hL
  have hpow : ("internal/strconv.uint64pow10", (Lib.tabData .u64 Lib.pow10Tab : DataW Unit)) ∈ Rows.fetchNothingRow.laid := by
    have e : (Rows.laid_internal_strconv_uint64pow10 : DataW Unit) = Lib.tabData .u64 Lib.pow10Tab := by kernel_rfl
    rw [← e]
    unfold Rows.fetchNothingRow
    simp
  have hlad : ("math/bits.deBruijn64tab", (Lib.tabData .u8 jQ.ak4 : DataW Unit)) ∈ Rows.fetchNothingRow.laid := by
    have e : (Rows.laid_math_bits_deBruijn64tab : DataW Unit) = Lib.tabData .u8 jQ.ak4 := by kernel_rfl
    rw [← e]
    unfold Rows.fetchNothingRow
    simp
  have hut1 : ("unicode/utf8.first", (Lib.firstData : DataW Unit)) ∈ Rows.fetchNothingRow.laid := by
    have e : (Rows.laid_unicode_utf8_first : DataW Unit) = Lib.firstData := by kernel_rfl
    rw [← e]
    unfold Rows.fetchNothingRow
    simp
  have hut2 : ("unicode/utf8.acceptRanges", (Lib.acceptData : DataW Unit)) ∈ Rows.fetchNothingRow.laid := by
    have e : (Rows.laid_unicode_utf8_acceptRanges : DataW Unit) = Lib.acceptData := by kernel_rfl
    rw [← e]
    unfold Rows.fetchNothingRow
    simp
  refine (Laws.adl a0 a1_0 a1_1 a1_2 a1_3 a2 W z0 z1_0 z1_1 (bounds_i64 w1_2) (bounds_i64 w1_3) z2 (Tab.pow_of hL hpow) (jQ.lad_of hL hlad) (Shs.max_of hSh) (rD.utab_of hL hut1 hut2)).mono fun e W' ⟨he, bel⟩ => ?_
  subst he
  exact ⟨_, rfl, _, _, _, [], _, [], hW', trodAll_mk1 (shut_bool Tryz.underlying4 _), (trodAll_cons_mk (shut_string Tryz.underlying9 w0) (trodAll_cons_mk (Below.trod laidOut (by kernel_rfl) (of_decide_eq_true (by kernel_rfl)) k1 bel lt1) (trodAll_cons_mk (shut_string Tryz.underlying9 w2) trodAll_mk0))), rfl, bel.frame _, fun h => by cases h⟩

theorem and2 {a b : Bool} (h : a = true) (g : b = true) : (a && b) = true := by rw [h, g]; rfl
theorem jf0 : (Rows.fetchNothingRow.wf (OpenSpec.ofChange Rows.fetchNothingSpec)) = true := by kernel_rfl
theorem jf3 : (Tryz.f10.params.all (Tryz.prog.readableRec ·)) = true := by kernel_rfl
theorem jf4 : (namedTie Tryz.prog Rows.fetchNothingRow.named Rows.fetchNothingSpec.vars) = true := by kernel_rfl
theorem jf5 : ((Rows.fetchNothingRow.stops == [])) = true := by kernel_rfl
theorem jf7 : ((Rows.fetchNothingRow.knobs == [])) = true := by kernel_rfl
theorem jf13 : ((Rows.fetchNothingRow.maps == (Tryz.f10.params.toList ++ Rows.fetchNothingSpec.plain.varTypes Tryz.prog).any (Tryz.prog.mapsRec ·))) = true := by kernel_rfl
theorem jf14 : ((Rows.fetchNothingRow.ifaces == (Tryz.f10.params.toList ++ Rows.fetchNothingSpec.plain.varTypes Tryz.prog).any (Tryz.prog.ifacesRec ·))) = true := by kernel_rfl
theorem jf15 : ((Rows.fetchNothingRow.mapsOut == Tryz.prog.mapsAmong Tryz.f10.resultTypes.toList)) = true := by kernel_rfl
theorem jf16 : ((Rows.fetchNothingRow.loops == (Tryz.f10.params.toList ++ Rows.fetchNothingSpec.plain.varTypes Tryz.prog).any (Tryz.prog.loopsFrom ·))) = true := by kernel_rfl
theorem jf17 : ((Rows.fetchNothingRow.wideKeys == (Tryz.f10.params.toList ++ Rows.fetchNothingSpec.plain.varTypes Tryz.prog ++ Tryz.f10.resultTypes.toList).any (Tryz.prog.wideKeysFrom ·))) = true := by kernel_rfl
theorem jf18 : (Rows.fetchNothingSpec.vars.all (Tryz.prog.varReadable ·)) = true := by kernel_rfl
theorem jf19 : (Tryz.f10.resultTypes.all (fun t => Tryz.prog.readableRec t && decide (t < Tryz.prog.types.size))) = true := by kernel_rfl
theorem jf20 : ((Rows.fetchNothingRow.ifacesOut == Tryz.f10.resultTypes.toList.any (Tryz.prog.ifacesRec ·))) = true := by kernel_rfl
theorem jf21 : ((Rows.fetchNothingRow.loopsOut == Tryz.f10.resultTypes.toList.any (Tryz.prog.loopsFrom ·))) = true := by kernel_rfl
theorem jf23 : (Rows.fetchNothingRow.shortTexts.isNone) = true := by kernel_rfl
theorem jf28 : ((Rows.fetchNothingRow.kinds == (if Rows.fetchNothingRow.domain.isEmpty then [] else Tryz.f10.params.toList.map fun t => match Tryz.prog.underlying t with | some (.int k) => some k | _ => none))) = true := by kernel_rfl
theorem jf29 : ((Rows.fetchNothingRow.pinned == Rows.fetchNothingRow.pinnedBy)) = true := by kernel_rfl
theorem jf30 : ((Rows.fetchNothingRow.veiled == (Tryz.f10.params.toList ++ Rows.fetchNothingSpec.plain.varTypes Tryz.prog ++ Tryz.f10.resultTypes.toList).any (Tryz.prog.veiledRec ·))) = true := by kernel_rfl
theorem jf31 : (Rows.fetchNothingRow.veiledFits Tryz.prog Tryz.f10.params.toList (Tryz.f10.params.toList ++ Rows.fetchNothingSpec.plain.varTypes Tryz.prog ++ Tryz.f10.resultTypes.toList)) = true := by kernel_rfl
set_option maxRecDepth 100000 in
theorem closed : joinedFacts Tryz.prog 10 Tryz.f10 Rows.fetchNothingSpec Rows.fetchNothingRow = true := by
  unfold joinedFacts
  exact (and2 (and2 (and2 (and2 (and2 (and2 (and2 (and2 (and2 (and2 (and2 (and2 (and2 (and2 (and2 (and2 (and2 (and2 (and2 (and2 (and2 (and2 (and2 (and2 (and2 (and2 (and2 (and2 (and2 (and2 (and2 jf0 JpA.laidOut) JpA.maps0) jf3) jf4) jf5) JpA.stops) jf7) JpA.knobs) JqFetchNothingA.inPlace) JqFetchNothingA.unf) JqFetchNothingB.recs) JqFetchNothingB.named) jf13) jf14) jf15) jf16) jf17) jf18) jf19) jf20) jf21) JqFetchNothingC.plainK) jf23) JpC.heard) JpB.enter) JqFetchNothingC.lifted) JqFetchNothingD.make) jf28) jf29) jf30) jf31)

theorem over : Rows.fetchNothingRow.holds Tryz.pinned (OpenSpec.ofChange Rows.fetchNothingSpec) :=
  OpenClaim.holds_of_wide 10 Tryz.f10 rfl rfl rfl rfl rfl rfl rfl ⟨rfl, rfl, rfl, rfl, rfl⟩ rfl rfl rfl rfl rfl (by kernel_rfl) Tryz.func10 closed
    (of_decide_eq_true (by kernel_rfl)) (by unfold Func.isWrapper; first | (rw [if_pos (by decide +kernel)]; kernel_rfl) | (rw [if_neg (by decide +kernel)]; exact ⟨rfl, rfl⟩))
    (fun os started H enc _ => lifted os started H enc)

theorem proved : Rows.FetchNothingCardSaid :=
  Claim7.holds_tied_plain_at .later [] [.data, .data, .data, .data, .pinned] true (true, "4729eb681d6e033789bf38dfcd2d340e86865f8974a48d2fce7ced59fa130860") false over (fun _ h => by cases h) JqFetchNothingE.byText (fun _ h => by cases h) fetchNothing_row_tie rfl ⟨rfl, rfl⟩ JpD.mainIs rfl
    (fun f fn hf hfn => by
      obtain rfl : f = 10 := Option.some.inj ((show Tryz.prog.funcNamed "carryall/carryalllaw26.FetchNothing" = some 10 by kernel_rfl).symm.trans hf) |>.symm
      obtain rfl : fn = Tryz.f10 := (Option.some.inj (Tryz.func10.symm.trans hfn)).symm
      exact ⟨JpC.looks, fun j t ht => by
        rw [Tryz.params10] at ht
        have hm : t ∈ [9, 38, 9] := by simpa using Array.mem_of_getElem? ht
        have hall : ([9, 38, 9].all fun u => !Tryz.prog.wantsStandIn u) = true := by kernel_rfl
        exact (show Tryz.prog.wantsStandIn t = false by simpa using List.all_eq_true.1 hall t hm)⟩)
    JqFetchNothingE.goes
end Go.Proofs.YtgamccijegollaaGreatDoor.lawFetchNothing
