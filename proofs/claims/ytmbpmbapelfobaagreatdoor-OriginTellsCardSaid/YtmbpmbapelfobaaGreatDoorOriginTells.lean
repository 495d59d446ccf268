/- The law OriginTells: for every input the call returns true, and each argument reads afterwards as it read before. No condition. The package-level variables that the row lists are tied to the program's text by the given tie. -/
import Derived.Test.YtmbpmbapelfobaaGreatDoorJpA
import Derived.Test.YtmbpmbapelfobaaGreatDoorJpB
import Derived.Test.YtmbpmbapelfobaaGreatDoorJpC
import Derived.Test.YtmbpmbapelfobaaGreatDoorJpD
import Derived.Test.YtmbpmbapelfobaaGreatDoorJqOriginTellsA
import Derived.Test.YtmbpmbapelfobaaGreatDoorJqOriginTellsB
import Derived.Test.YtmbpmbapelfobaaGreatDoorJqOriginTellsC
import Derived.Test.YtmbpmbapelfobaaGreatDoorJqOriginTellsD
import Derived.Test.YtmbpmbapelfobaaGreatDoorJqOriginTellsE
import Derived.Test.YtmbpmbapelfobaaGreatDoorTie
import Derived.Test.YtmbpmbapelfobaaGreatDoorCards
import Derived.Test.YtmbpmbapelfobaaGreatDoorOTAAZ
import Derived.LaidMore
import Derived.Lay
import Derived.Stop.Joined
namespace Go.Proofs.YtmbpmbapelfobaaGreatDoor.lawOriginTells
open Go.Joins Go.ChangeShapes Go.WideShapes Go.ChangeAt Go.RowKit
open Go.ChangeMaps (open_string shut_string)
set_option linter.unusedVariables false

theorem own : ownKnob Tryz.prog.godebug = none := by kernel_rfl
theorem laidOut : laidOutB Tryz.prog = true := JpA.laidOut
set_option maxRecDepth 100000 in
theorem lifted (os : Os) (started : os.Started) (H : Type) (enc : TypeId × Value → H) :
    ReturnsInHanded {} Tryz.checked os 3 .any (fun w args => (Rows.originTellsSpec.pre enc Tryz.prog Tryz.f3 Rows.originTellsRow.domain false w args ∧ laidMetH Tryz.prog Rows.originTellsRow.laid w) ∧ sizedMet enc Tryz.prog Tryz.f3 (OpenSpec.ofChange Rows.originTellsSpec) false w args)
      (Rows.originTellsSpec.post enc Tryz.prog Tryz.f3 false true false false) := by
  refine Shs.wrap (C := Tryz.checked) (X := fun w _ => laidMetH Tryz.prog Rows.originTellsRow.laid w) (fun _ _ _ hh h => h.of_heap hh) own started (by kernel_rfl) Tryz.func3
    (ChangeSpec.witness_shaped (enc := enc) (C := Tryz.checked) (os := os) (X := fun w _ => laidMetH Tryz.prog Rows.originTellsRow.laid w) false (World.laidAll Tryz.prog os Rows.originTellsRow.laid) #[.string ByteArray.empty] 8 (World.laidAll_os _ _ _)
      (World.shaped_of_ZipB (by kernel_rfl) (by kernel_rfl)) (by kernel_rfl) (by kernel_rfl) (by kernel_rfl)
      (by rw [MakeChecks.laidMetH_plain _ _ _ (by kernel_rfl)]; exact laidMet_laidAll _ (by kernel_rfl) (by kernel_rfl))) ?_
  intro W base args ds gs before hval0 hW hcnd hsz hL hSh _
  have hval : ∀ (j : Nat) t v, Tryz.f3.params[j]? = some t → args[j]? = some v → Value.okWide Tryz.prog W .any base t v := hval0
  have hW' := hW
  obtain ⟨p, q, hA0, hV, rfl, hfz, hnd⟩ := hW
  have hA : DataW.TrodAll enc Tryz.prog W 0 (fun _ => true) true Tryz.f3.params.toList args.toList ds p := hA0
  rw [Tryz.params3] at hA hval
  obtain ⟨v0, vs0, d0, ds0, p0, q0, hargs, rfl, rfl, h0, r_0⟩ := trodAll_cons hA
  obtain ⟨rfl, rfl, rfl⟩ := trodAll_nil r_0
  obtain rfl : args = #[v0] := by cases args; simp_all
  obtain ⟨rfl, rfl⟩ := trodVars_none hV
  obtain ⟨a0, rfl, rfl, rfl, w0⟩ := open_string Tryz.underlying9 (hval 0 9 v0 rfl rfl) h0
  have z0 : a0.size ≤ 140737488351232 := by have z := sized_string hsz (j := 0) rfl rfl; rw [Array.length_toList] at z; exact z
  clear hA0 hval0
  rw [MakeChecks.laidMetH_plain _ _ _ (by kernel_rfl)] at hL
  have hpow : ("internal/strconv.uint64pow10", (Lib.tabData .u64 Lib.pow10Tab : DataW Unit)) ∈ Rows.originTellsRow.laid := by
    have e : (Rows.laid_internal_strconv_uint64pow10 : DataW Unit) = Lib.tabData .u64 Lib.pow10Tab := by kernel_rfl
    rw [← e]
    unfold Rows.originTellsRow
    simp
  have hlad : ("math/bits.deBruijn64tab", (Lib.tabData .u8 kS.Vr : DataW Unit)) ∈ Rows.originTellsRow.laid := by
    have e : (Rows.laid_math_bits_deBruijn64tab : DataW Unit) = Lib.tabData .u8 kS.Vr := by kernel_rfl
    rw [← e]
    unfold Rows.originTellsRow
    simp
  have hut1 : ("unicode/utf8.first", (Lib.firstData : DataW Unit)) ∈ Rows.originTellsRow.laid := by
    have e : (Rows.laid_unicode_utf8_first : DataW Unit) = Lib.firstData := by kernel_rfl
    rw [← e]
    unfold Rows.originTellsRow
    simp
  have hut2 : ("unicode/utf8.acceptRanges", (Lib.acceptData : DataW Unit)) ∈ Rows.originTellsRow.laid := by
    have e : (Rows.laid_unicode_utf8_acceptRanges : DataW Unit) = Lib.acceptData := by kernel_rfl
    rw [← e]
    unfold Rows.originTellsRow
    simp
  refine (Laws.Dt a0 W z0 (Tab.acV hL hpow) (kS.acA hL hlad) (Shs.acC hSh) (sN.aaV hL hut1 hut2)).mono fun e W' ⟨he, bD⟩ => ?_
  subst he
  exact ⟨_, rfl, _, _, _, [], _, [], hW', trodAll_mk1 (shut_bool Tryz.underlying4 _), (trodAll_cons_mk (shut_string Tryz.underlying9 w0) trodAll_mk0), rfl, bD.frame _, fun h => by cases h⟩

theorem and2 {a b : Bool} (h : a = true) (g : b = true) : (a && b) = true := by rw [h, g]; rfl
theorem jf0 : (Rows.originTellsRow.wf (OpenSpec.ofChange Rows.originTellsSpec)) = true := by kernel_rfl
theorem jf3 : (Tryz.f3.params.all (Tryz.prog.readableRec ·)) = true := by kernel_rfl
theorem jf4 : (namedTie Tryz.prog Rows.originTellsRow.named Rows.originTellsSpec.vars) = true := by kernel_rfl
theorem jf5 : ((Rows.originTellsRow.stops == [])) = true := by kernel_rfl
theorem jf7 : ((Rows.originTellsRow.knobs == [])) = true := by kernel_rfl
theorem jf13 : ((Rows.originTellsRow.maps == (Tryz.f3.params.toList ++ Rows.originTellsSpec.plain.varTypes Tryz.prog).any (Tryz.prog.mapsRec ·))) = true := by kernel_rfl
theorem jf14 : ((Rows.originTellsRow.ifaces == (Tryz.f3.params.toList ++ Rows.originTellsSpec.plain.varTypes Tryz.prog).any (Tryz.prog.ifacesRec ·))) = true := by kernel_rfl
theorem jf15 : ((Rows.originTellsRow.mapsOut == Tryz.prog.mapsAmong Tryz.f3.resultTypes.toList)) = true := by kernel_rfl
theorem jf16 : ((Rows.originTellsRow.loops == (Tryz.f3.params.toList ++ Rows.originTellsSpec.plain.varTypes Tryz.prog).any (Tryz.prog.loopsFrom ·))) = true := by kernel_rfl
theorem jf17 : ((Rows.originTellsRow.wideKeys == (Tryz.f3.params.toList ++ Rows.originTellsSpec.plain.varTypes Tryz.prog ++ Tryz.f3.resultTypes.toList).any (Tryz.prog.wideKeysFrom ·))) = true := by kernel_rfl
theorem jf18 : (Rows.originTellsSpec.vars.all (Tryz.prog.varReadable ·)) = true := by kernel_rfl
theorem jf19 : (Tryz.f3.resultTypes.all (fun t => Tryz.prog.readableRec t && decide (t < Tryz.prog.types.size))) = true := by kernel_rfl
theorem jf20 : ((Rows.originTellsRow.ifacesOut == Tryz.f3.resultTypes.toList.any (Tryz.prog.ifacesRec ·))) = true := by kernel_rfl
theorem jf21 : ((Rows.originTellsRow.loopsOut == Tryz.f3.resultTypes.toList.any (Tryz.prog.loopsFrom ·))) = true := by kernel_rfl
theorem jf23 : (Rows.originTellsRow.shortTexts.isNone) = true := by kernel_rfl
theorem jf28 : ((Rows.originTellsRow.kinds == (if Rows.originTellsRow.domain.isEmpty then [] else Tryz.f3.params.toList.map fun t => match Tryz.prog.underlying t with | some (.int k) => some k | _ => none))) = true := by kernel_rfl
theorem jf29 : ((Rows.originTellsRow.pinned == Rows.originTellsRow.pinnedBy)) = true := by kernel_rfl
theorem jf30 : ((Rows.originTellsRow.veiled == (Tryz.f3.params.toList ++ Rows.originTellsSpec.plain.varTypes Tryz.prog ++ Tryz.f3.resultTypes.toList).any (Tryz.prog.veiledRec ·))) = true := by kernel_rfl
theorem jf31 : (Rows.originTellsRow.veiledFits Tryz.prog Tryz.f3.params.toList (Tryz.f3.params.toList ++ Rows.originTellsSpec.plain.varTypes Tryz.prog ++ Tryz.f3.resultTypes.toList)) = true := by kernel_rfl
set_option maxRecDepth 100000 in
theorem closed : joinedFacts Tryz.prog 3 Tryz.f3 Rows.originTellsSpec Rows.originTellsRow = true := by
  unfold joinedFacts
  exact (and2 (and2 (and2 (and2 (and2 (and2 (and2 (and2 (and2 (and2 (and2 (and2 (and2 (and2 (and2 (and2 (and2 (and2 (and2 (and2 (and2 (and2 (and2 (and2 (and2 (and2 (and2 (and2 (and2 (and2 (and2 jf0 JpA.laidOut) JpA.maps0) jf3) jf4) jf5) JpA.stops) jf7) JpA.knobs) JqOriginTellsA.inPlace) JqOriginTellsA.unf) JqOriginTellsB.recs) JqOriginTellsB.named) jf13) jf14) jf15) jf16) jf17) jf18) jf19) jf20) jf21) JqOriginTellsC.plainK) jf23) JpC.heard) JpB.enter) JqOriginTellsC.lifted) JqOriginTellsD.make) jf28) jf29) jf30) jf31)

theorem over : Rows.originTellsRow.holds Tryz.pinned (OpenSpec.ofChange Rows.originTellsSpec) :=
  OpenClaim.holds_of_wide 3 Tryz.f3 rfl rfl rfl rfl rfl rfl rfl ⟨rfl, rfl, rfl, rfl, rfl⟩ rfl rfl rfl rfl rfl (by kernel_rfl) Tryz.func3 closed
    (of_decide_eq_true (by kernel_rfl)) (by unfold Func.isWrapper; first | (rw [if_pos (by decide +kernel)]; kernel_rfl) | (rw [if_neg (by decide +kernel)]; exact ⟨rfl, rfl⟩))
    (fun os started H enc _ => lifted os started H enc)

theorem proved : Rows.OriginTellsCardSaid :=
  Claim7.holds_tied_plain_at .later [] [.data, .data, .data, .data, .pinned] true (true, "7fa70a5599db8f0ad09c97fab5f636fd4553c9566856fae9967f6f181301d893") false over (fun _ h => by cases h) JqOriginTellsE.byText (fun _ h => by cases h) originTells_row_tie rfl ⟨rfl, rfl⟩ JpD.mainIs rfl
    (fun f fn hf hfn => by
      obtain rfl : f = 3 := Option.some.inj ((show Tryz.prog.funcNamed "carryall/carryalllaw13.OriginTells" = some 3 by kernel_rfl).symm.trans hf) |>.symm
      obtain rfl : fn = Tryz.f3 := (Option.some.inj (Tryz.func3.symm.trans hfn)).symm
      exact ⟨JpC.looks, fun j t ht => by
        rw [Tryz.params3] at ht
        have hm : t ∈ [9] := by simpa using Array.mem_of_getElem? ht
        have hall : ([9].all fun u => !Tryz.prog.wantsStandIn u) = true := by kernel_rfl
        exact (show Tryz.prog.wantsStandIn t = false by simpa using List.all_eq_true.1 hall t hm)⟩)
    JqOriginTellsE.goes
end Go.Proofs.YtmbpmbapelfobaaGreatDoor.lawOriginTells
